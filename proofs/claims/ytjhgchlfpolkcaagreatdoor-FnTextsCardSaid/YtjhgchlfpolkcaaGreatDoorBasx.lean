/- Small things that the texts of this seat share. -/
import Derived.Lib.LaidTab
import Derived.Test.YtjhgchlfpolkcaaGreatDoorLedsx
import Derived.Test.YtjhgchlfpolkcaaGreatDoorStvx
namespace Go.Proofs.YtjhgchlfpolkcaaGreatDoor
section
open Go.Proofs.Tryz renaming prog → Pg
set_option maxHeartbeats 2000000
open Go.RowKit
def jJ (n:Int):ByteArray:=⟨(Lib.itoa n).toArray⟩
theorem gE {n:Int} (h:e8 n):(jJ n).size<=18:=by
 show (Lib.itoa n).toArray.size<=18
 simpa using qB h
def be (S:ByteArray) (ns:List Int):ByteArray:=ns.foldl (fun t n=>t++⟨#[32]⟩++jJ n) S
theorem kw (S:ByteArray) (ns:List Int) (n:Int):be S (ns++[n])=be S ns++⟨#[32]⟩++jJ n:=by simp[be]
theorem cU {S:ByteArray}:∀{ns:List Int} {k:Nat},(∀z ∈ ns,e8 z)->S.size<=k->(be S ns).size<=k+19*ns.length
 | [],k,_,h=>by simpa [be] using h
 | n::r,k,hs,h=>by
  have h1:=gE (hs n (by simp))
  have:=cU (S:=S++⟨#[32]⟩++jJ n) (ns:=r) (k:=k+19) (fun z hz=>hs z (by simp[hz])) (by
   rw[ByteArray.size_append,ByteArray.size_append]
   have h32:(⟨#[32]⟩:ByteArray).size=1:=rfl
   omega)
  show (be (S++⟨#[32]⟩++jJ n) r).size<=_
  simp only[List.length_cons]
  omega
theorem kH {ns:List Int} {k:Nat} (h:k<ns.length):ns.take (k+1)=ns.take k++[ns[k]]:=by rw[List.take_succ_eq_append_getElem h]
def bn (w:World) (a:Option Addr) (ns:List Int):Prop:=ns=[]\/∃b o,a=some ⟨b,o,none⟩/\b<w.heap.size/\∀i (hi:i<ns.length),w.cell? ⟨b,o+i,none⟩=some (.int .i64 ns[i])
def fm (w:World) (a:Option Addr) (ns:List Int):Prop:=ns=[]\/∃b o,a=some ⟨b,o,none⟩/\b<w.heap.size/\∀i (hi:i<ns.length),∃p q,w.cell? ⟨b,o+i,none⟩=some (.pointer (some ⟨p,q,none⟩))/\p<w.heap.size/\w.cell? ⟨p,q,none⟩=some (.int .i64 ns[i])
theorem cw (S:ByteArray) (hS:S.size<=100) (a:Option Addr) (n c:Nat) (ns:List Int) (he:ns.length=n) (hn:n<=8) (hs:∀z ∈ ns,e8 z) (w:World) (h:bn w a ns):
  Calls Pg 46 #[.string S,.slice a n c] w fun e w'=>e=.returned (.string (be S ns))/\Below w.heap.size w w':=by
 have H:Hid (bn w a ns/\ns.length=n/\(∀z ∈ ns,e8 z)):=⟨h,he,hs⟩
 have HS:Hid (S.size<=100):=hS
 clear h he hs hS
 go_enter Tryz.func46,Tryz.ntmps46
 go_wp2
 go_loopw[0,5] (fun x i wr=>∃(k:Nat) (T:ByteArray),k<=n/\i=.int .i64 k/\x=.string T/\Hid (T=be S (ns.take k))/\Hid (Below w.heap.size w wr)) (fun _ i _=>n-(intOf i).toNat)
 case atStart=>exact ⟨0,S,Nat.zero_le _,rfl,rfl,(by simp[be]:S=be S (ns.take 0)),Below.refl _ _⟩
 case round=>
  obtain ⟨k,T,hk,rfl,rfl,hT,hB⟩:=hrel
  by_cases hlt:k<n
  ·have hlt':(k:Int)<(n:Int):=by omega
   have hkl:k<ns.length:=by rw[H.out.2.1];exact hlt
   obtain ⟨z,hz⟩:∃z,z=ns[k]:=⟨_,rfl⟩
   have sz:Hid (e8 z):=by show e8 z;rw[hz];exact H.out.2.2 _ (List.getElem_mem _)
   have hTs:T.size<=1000:=by
    rw[hT.out]
    have:=cU (S:=S) (ns:=ns.take k) (fun z hz=>H.out.2.2 z (List.mem_of_mem_take hz)) HS.out
    have hl:(ns.take k).length<=8:=by simp;omega
    omega
   have hadd1:=cR T ⟨#[32]⟩ (by omega) (by show (1:Nat)<=_;omega)
   have hadd2:=cR (T++⟨#[32]⟩) (jJ z) (by rw[ByteArray.size_append];have:(⟨#[32]⟩:ByteArray).size=1:=rfl;omega) (by have:=gE sz.out;omega)
   have HN:Hid (T++⟨#[32]⟩++jJ z=be S (ns.take (k+1))):=by
    show T++⟨#[32]⟩++jJ z=be S (ns.take (k+1))
    rw[kH hkl,kw,←hT.out,hz]
   have CD:Hid (∀W,Calls Pg 84 #[.int .i64 z] W fun e w'=>e=.returned (.string (jJ z))/\Below W.heap.size W w'):=fun W=>sB z W sz.out
   obtain ⟨b,o,rfl,hb,hc⟩:∃b o,a=some ⟨b,o,none⟩/\b<w.heap.size/\wr.cell? ⟨b,o+k,none⟩=some (.int .i64 z):=by
    rcases H.out.1 with e|⟨b,o,h1,h2,h3⟩
    ·rw[e] at hkl;simp at hkl
    ·exact ⟨b,o,h1,h2,by rw[hB.out.cell (p:=⟨b,o+k,none⟩) h2,h3 k hkl,hz]⟩
   clear hz hT hTs
   generalize jJ z=d at*
   generalize T++⟨#[32]⟩=T1 at*
   generalize T1++d=T2 at*
   go_wp2_with fail
   refine (CD.out _).mono ?_
   rintro e w1 ⟨rfl,B1⟩
   have HB:Hid (Below w.heap.size w w1):=hB.out.trans (B1.mono hB.out.size)
   clear B1 hc CD hB
   go_wp2
   go_roundw
   case rel=>exact ⟨k+1,T2,by omega,by go_num,rfl,HN,HB⟩
   case measure=>simp[intOf];omega
  ·have HE:Hid (T=be S ns):=by
    show T=be S ns
    rw[hT.out,List.take_of_length_le (by rw[H.out.2.1];omega)]
   clear hT
   go_wp2
   go_ret
   exact ⟨congrArg (fun x=>Ending.returned (.string x)) HE.out,hB.out⟩
def iy (w : World) : Prop := Lib.TabIs Pg w "internal/strconv.uint64pow10" .u64 Lib.pow10Tab
theorem ot (n:Int) (hn:e8 n) (w:World) (h:iy w):Calls Pg 69 #[.int .i64 n,.int .i64 10] w fun e w'=>e=.returned (.string (jJ n))/\Below w.heap.size w w':=by
 obtain ⟨h0,h1⟩:=hn
 have:=oX n (by omega) (by omega) w h
 refine this.mono fun e w'' ⟨he,kk,os,hw⟩=>⟨he,?_⟩
 rw[hw]
 exact ⟨rfl,rfl,rfl,by simp[Sort.grow,World.drewN],fun q hq=>by simp[Sort.grow,World.drewN];rw[Array.getElem?_append_left hq]⟩
theorem ts : Pg.globalNamed "internal/strconv.uint64pow10" = some 1 := by kernel_rfl
theorem iy.below {w w':World} (h:iy w) (hb:Below w.heap.size w w'):iy w':=by
 unfold iy Lib.TabIs World.var? at h ⊢
 rw[ts] at h ⊢
 simp only[Option.bind_some] at h ⊢
 have hlt:1<w.heap.size:=by
  rcases Nat.lt_or_ge 1 w.heap.size with h'|h'
  ·exact h'
  ·rw[Array.getElem?_eq_none h'] at h;cases h
 rw[hb.block 1 hlt]
 exact h
theorem ou (S:ByteArray) (hS:S.size<=100) (a:Option Addr) (n c:Nat) (ns:List Int) (he:ns.length=n) (hn:n<=8) (hs:∀z ∈ ns,e8 z) (w:World) (h:fm w a ns) (hp:iy w):
  Calls Pg 32 #[.string S,.slice a n c] w fun e w'=>e=.returned (.string (be S ns))/\Below w.heap.size w w':=by
 have H:Hid (fm w a ns/\ns.length=n/\(∀z ∈ ns,e8 z)):=⟨h,he,hs⟩
 have HS:Hid (S.size<=100/\iy w):=⟨hS,hp⟩
 clear h he hs hS hp
 go_enter Tryz.func32,Tryz.ntmps32
 go_wp2
 go_loopw[0,9] (fun x i wr=>∃(k:Nat) (T:ByteArray),k<=n/\i=.int .i64 k/\x=.string T/\Hid (T=be S (ns.take k))/\Hid (Below w.heap.size w wr)) (fun _ i _=>n-(intOf i).toNat)
 case atStart=>exact ⟨0,S,Nat.zero_le _,rfl,rfl,(by simp[be]:S=be S (ns.take 0)),Below.refl _ _⟩
 case round=>
  obtain ⟨k,T,hk,rfl,rfl,hT,hB⟩:=hrel
  by_cases hlt:k<n
  ·have hlt':(k:Int)<(n:Int):=by omega
   have hkl:k<ns.length:=by rw[H.out.2.1];exact hlt
   obtain ⟨z,hz⟩:∃z,z=ns[k]:=⟨_,rfl⟩
   have sz:Hid (e8 z):=by show e8 z;rw[hz];exact H.out.2.2 _ (List.getElem_mem _)
   have hTs:T.size<=1000:=by
    rw[hT.out]
    have:=cU (S:=S) (ns:=ns.take k) (fun z hz=>H.out.2.2 z (List.mem_of_mem_take hz)) HS.out.1
    have hl:(ns.take k).length<=8:=by simp;omega
    omega
   have hadd1:=cR ⟨#[32]⟩ (jJ z) (by show (1:Nat)<=_;omega) (by have:=gE sz.out;omega)
   have hadd2:=cR T (⟨#[32]⟩++jJ z) (by omega) (by rw[ByteArray.size_append];have:(⟨#[32]⟩:ByteArray).size=1:=rfl;have:=gE sz.out;omega)
   have HN:Hid (T++(⟨#[32]⟩++jJ z)=be S (ns.take (k+1))):=by
    show T++(⟨#[32]⟩++jJ z)=be S (ns.take (k+1))
    rw[kH hkl,kw,←hT.out,hz,ByteArray.append_assoc]
   have CD:Hid (∀W,iy W->Calls Pg 69 #[.int .i64 z,.int .i64 10] W fun e w'=>e=.returned (.string (jJ z))/\Below W.heap.size W w'):=fun W hW=>ot z sz.out W hW
   obtain ⟨b,o,p,q,rfl,hb,hc,hp,hd⟩:∃b o p q,a=some ⟨b,o,none⟩/\b<w.heap.size/\wr.cell? ⟨b,o+k,none⟩=some (.pointer (some ⟨p,q,none⟩))/\p<w.heap.size/\wr.cell? ⟨p,q,none⟩=some (.int .i64 z):=by
    rcases H.out.1 with e|⟨b,o,h1,h2,h3⟩
    ·rw[e] at hkl;simp at hkl
    ·obtain ⟨p,q,h4,h5,h6⟩:=h3 k hkl
     exact ⟨b,o,p,q,h1,h2,by rw[hB.out.cell (p:=⟨b,o+k,none⟩) h2,h4],h5,by rw[hB.out.cell (p:=⟨p,q,none⟩) h5,h6,hz]⟩
   have PW:Hid (iy wr):=HS.out.2.below hB.out
   clear hz hT hTs
   generalize jJ z=d at*
   generalize (⟨#[32]⟩:ByteArray)++d=T1 at*
   generalize T++T1=T2 at*
   go_wp2_with fail
   refine (CD.out _ PW.out).mono ?_
   rintro e w1 ⟨rfl,B1⟩
   have HB:Hid (Below w.heap.size w w1):=hB.out.trans (B1.mono hB.out.size)
   clear B1 hc hd CD hB PW
   go_wp2
   go_roundw
   case rel=>exact ⟨k+1,T2,by omega,by go_num,rfl,HN,HB⟩
   case measure=>simp[intOf];omega
  ·have HE:Hid (T=be S ns):=by
    show T=be S ns
    rw[hT.out,List.take_of_length_le (by rw[H.out.2.1];omega)]
   clear hT
   go_wp2
   go_ret
   exact ⟨congrArg (fun x=>Ending.returned (.string x)) HE.out,hB.out⟩
end
section
open Go.RowKit
set_option maxRecDepth 8000
theorem lc {x y:ByteArray} (h:x≠y):(x.toList == y.toList)=false:=by
 rw[beq_eq_false_iff_ne,Lib.toList_data,Lib.toList_data]
 exact fun e=>h (ca e)
theorem tr (x:ByteArray):(x.toList == x.toList)=true:=by simp
theorem bn.lit (w:World) (ns:List Int):bn (w.alloc (.cells (ns.map (Value.int .i64)).toArray 2)) (some ⟨w.heap.size,0,none⟩) ns:=by
 refine Or.inr ⟨w.heap.size,0,rfl,by simp,fun i hi=>?_⟩
 rw[World.cell?_alloc_mark]
 simp[hi]
theorem bn.below {w w':World} {a:Option Addr} {ns:List Int} (h:bn w a ns) (hb:Below w.heap.size w w'):bn w' a ns:=by
 rcases h with e|⟨b,o,h1,h2,h3⟩
 ·exact Or.inl e
 ·exact Or.inr ⟨b,o,h1,Nat.lt_of_lt_of_le h2 hb.size,fun i hi=>(hb.cell (p:=⟨b,o+i,none⟩) h2).trans (h3 i hi)⟩
def eh (w:World) (a:Option Addr) (R:Nat) (ps:List Nat):Prop:=ps=[]\/∃b,a=some ⟨b,0,none⟩/\b<w.heap.size/\R<b/\∀i (hi:i<ps.length),w.cell? ⟨b,i,none⟩=some (.pointer (some ⟨R,ps[i],none⟩))
theorem eh.lit {w:World} {R:Nat} (hR:R<w.heap.size) (ps:List Nat):eh (w.alloc (.cells (ps.map fun p=>Value.pointer (some ⟨R,p,none⟩)).toArray 57)) (some ⟨w.heap.size,0,none⟩) R ps:=by
 refine Or.inr ⟨w.heap.size,rfl,by simp,hR,fun i hi=>?_⟩
 rw[World.cell?_alloc_mark]
 simp[hi]
end
end Go.Proofs.YtjhgchlfpolkcaaGreatDoor
