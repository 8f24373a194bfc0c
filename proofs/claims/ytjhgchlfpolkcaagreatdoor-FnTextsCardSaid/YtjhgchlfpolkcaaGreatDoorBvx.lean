/- BankText of the program, walked. -/
import Derived.Test.YtjhgchlfpolkcaaGreatDoorBasx
import Derived.BigRegion
namespace Go.Proofs.YtjhgchlfpolkcaaGreatDoor
section
open Value renaming int → Ii,slice → Sl
open IntKind renaming i64 → Jj
open Go.Proofs.Tryz renaming prog → Pg
set_option maxHeartbeats 4000000
open Go.RowKit
set_option maxRecDepth 8000
theorem fm.lit2 {w:World} (ps:List (Nat×Nat×Int)) (hp:∀p ∈ ps,p.1<w.heap.size/\w.cell? ⟨p.1,p.2.1,none⟩=some (Ii Jj p.2.2)):fm (w.alloc (.cells (ps.map fun p=>Value.pointer (some ⟨p.1,p.2.1,none⟩)).toArray 57)) (some ⟨w.heap.size,0,none⟩) (ps.map (·.2.2)):=by
 refine Or.inr ⟨w.heap.size,0,rfl,by simp,fun i hi=>?_⟩
 have hi':i<ps.length:=by simpa using hi
 obtain ⟨h1,h2⟩:=hp _ (List.getElem_mem hi')
 refine ⟨ps[i].1,ps[i].2.1,?_,by simp;omega,?_⟩
 ·rw[World.cell?_alloc_mark]
  simp[hi']
 ·rw[World.cell?_alloc_lt _ _ _ h1,h2]
  simp
def na (w:World) (m:Nat) (ns:List Int) (e:Ending) (w':World):Prop:=∃a c,e=.returned (Sl a m c)/\fm w' a ns/\Below w.heap.size w w'
theorem pq (R:Nat) (o0 o1 o2 o3 o4 o5 o6:Int) (w:World) (hR:R<w.heap.size) (c0:w.cell? ⟨R,0,none⟩=some (Ii Jj o0)) (c1:w.cell? ⟨R,1,none⟩=some (Ii Jj o1)) (c2:w.cell? ⟨R,2,none⟩=some (Ii Jj o2)) (c3:w.cell? ⟨R,3,none⟩=some (Ii Jj o3)) (c4:w.cell? ⟨R,4,none⟩=some (Ii Jj o4)) (c5:w.cell? ⟨R,5,none⟩=some (Ii Jj o5)) (c6:w.cell? ⟨R,6,none⟩=some (Ii Jj o6)):
  Calls Pg 25 #[.pointer (some ⟨R,0,none⟩)] w fun e w'=>na w 7 [o0,o1,o2,o3,o4,o5,o6] e w':=by
 have FI:Hid (fm ((w.alloc (.cells #[.pointer (some ⟨R,0,none⟩),.pointer (some ⟨R,1,none⟩),.pointer (some ⟨R,2,none⟩),.pointer (some ⟨R,3,none⟩),.pointer (some ⟨R,4,none⟩),.pointer (some ⟨R,5,none⟩),.pointer (some ⟨R,6,none⟩)] 57)).drew) (some ⟨w.heap.size,0,none⟩) [o0,o1,o2,o3,o4,o5,o6]/\Below w.heap.size w ((w.alloc (.cells #[.pointer (some ⟨R,0,none⟩),.pointer (some ⟨R,1,none⟩),.pointer (some ⟨R,2,none⟩),.pointer (some ⟨R,3,none⟩),.pointer (some ⟨R,4,none⟩),.pointer (some ⟨R,5,none⟩),.pointer (some ⟨R,6,none⟩)] 57)).drew)):=
  ⟨fm.lit2 [(R,0,o0),(R,1,o1),(R,2,o2),(R,3,o3),(R,4,o4),(R,5,o5),(R,6,o6)] (by intro p hp;simp at hp;rcases hp with rfl|rfl|rfl|rfl|rfl|rfl|rfl <;>exact ⟨hR,by assumption⟩),((Below.refl _ _).alloc (Nat.le_refl _) _).drew⟩
 clear c0 c1 c2 c3 c4 c5 c6
 go_enter Tryz.func25,Tryz.ntmps25
 go_wp2_with fail
 go_region
 all_goals go_wp2
 all_goals go_ret
 all_goals exact ⟨_,_,rfl,FI.out.1,FI.out.2⟩
theorem qR (R:Nat) (o0 o3 o4 o5 o6:Int) (w:World) (hR:R<w.heap.size) (c0:w.cell? ⟨R,0,none⟩=some (Ii Jj o0)) (c3:w.cell? ⟨R,3,none⟩=some (Ii Jj o3)) (c4:w.cell? ⟨R,4,none⟩=some (Ii Jj o4)) (c5:w.cell? ⟨R,5,none⟩=some (Ii Jj o5)) (c6:w.cell? ⟨R,6,none⟩=some (Ii Jj o6)):
  Calls Pg 22 #[.pointer (some ⟨R,0,none⟩)] w fun e w'=>na w 5 [o0,o3,o4,o5,o6] e w':=by
 have FI:Hid (fm ((w.alloc (.cells #[.pointer (some ⟨R,0,none⟩),.pointer (some ⟨R,3,none⟩),.pointer (some ⟨R,4,none⟩),.pointer (some ⟨R,5,none⟩),.pointer (some ⟨R,6,none⟩)] 57)).drew) (some ⟨w.heap.size,0,none⟩) [o0,o3,o4,o5,o6]/\Below w.heap.size w ((w.alloc (.cells #[.pointer (some ⟨R,0,none⟩),.pointer (some ⟨R,3,none⟩),.pointer (some ⟨R,4,none⟩),.pointer (some ⟨R,5,none⟩),.pointer (some ⟨R,6,none⟩)] 57)).drew)):=
  ⟨fm.lit2 [(R,0,o0),(R,3,o3),(R,4,o4),(R,5,o5),(R,6,o6)] (by intro p hp;simp at hp;rcases hp with rfl|rfl|rfl|rfl|rfl <;>exact ⟨hR,by assumption⟩),((Below.refl _ _).alloc (Nat.le_refl _) _).drew⟩
 clear c0 c3 c4 c5 c6
 go_enter Tryz.func22,Tryz.ntmps22
 go_wp2_with fail
 go_region
 all_goals go_wp2
 all_goals go_ret
 all_goals exact ⟨_,_,rfl,FI.out.1,FI.out.2⟩
theorem si (R Q:Nat) (o0 o1 o2 o3 o4 fz o6 o7:Int) (w:World) (hR:R<w.heap.size) (hQ:Q<w.heap.size) (c0:w.cell? ⟨R,0,none⟩=some (Ii Jj o0)) (c1:w.cell? ⟨R,1,none⟩=some (Ii Jj o1)) (c2:w.cell? ⟨R,2,none⟩=some (Ii Jj o2)) (c3:w.cell? ⟨R,3,none⟩=some (Ii Jj o3)) (c4:w.cell? ⟨R,4,none⟩=some (Ii Jj o4)) (cz:w.cell? ⟨Q,0,none⟩=some (Ii Jj fz)) (c6:w.cell? ⟨R,6,none⟩=some (Ii Jj o6)) (c7:w.cell? ⟨R,7,none⟩=some (Ii Jj o7)):
  Calls Pg 24 #[.pointer (some ⟨R,0,none⟩),.pointer (some ⟨Q,0,none⟩)] w fun e w'=>na w 8 [o0,o1,o2,o3,o4,fz,o6,o7] e w':=by
 have FI:Hid (fm ((w.alloc (.cells #[.pointer (some ⟨R,0,none⟩),.pointer (some ⟨R,1,none⟩),.pointer (some ⟨R,2,none⟩),.pointer (some ⟨R,3,none⟩),.pointer (some ⟨R,4,none⟩),.pointer (some ⟨Q,0,none⟩),.pointer (some ⟨R,6,none⟩),.pointer (some ⟨R,7,none⟩)] 57)).drew) (some ⟨w.heap.size,0,none⟩) [o0,o1,o2,o3,o4,fz,o6,o7]/\Below w.heap.size w ((w.alloc (.cells #[.pointer (some ⟨R,0,none⟩),.pointer (some ⟨R,1,none⟩),.pointer (some ⟨R,2,none⟩),.pointer (some ⟨R,3,none⟩),.pointer (some ⟨R,4,none⟩),.pointer (some ⟨Q,0,none⟩),.pointer (some ⟨R,6,none⟩),.pointer (some ⟨R,7,none⟩)] 57)).drew)):=
  ⟨fm.lit2 [(R,0,o0),(R,1,o1),(R,2,o2),(R,3,o3),(R,4,o4),(Q,0,fz),(R,6,o6),(R,7,o7)] (by intro p hp;simp at hp;rcases hp with rfl|rfl|rfl|rfl|rfl|rfl|rfl|rfl <;>exact ⟨by assumption,by assumption⟩),((Below.refl _ _).alloc (Nat.le_refl _) _).drew⟩
 clear c0 c1 c2 c3 c4 cz c6 c7
 go_enter Tryz.func24,Tryz.ntmps24
 go_wp2_with fail
 go_region
 all_goals go_wp2
 all_goals go_ret
 all_goals exact ⟨_,_,rfl,FI.out.1,FI.out.2⟩
def cX (S:ByteArray) (ns:List Int):ByteArray:=be S ns++⟨#[10]⟩
theorem jh (S:ByteArray) (hS:S.size<=100) (a:Option Addr) (n c:Nat) (ns:List Int) (he:ns.length=n) (hn:n<=8) (hs:∀z ∈ ns,e8 z) (w:World) (h:fm w a ns) (hp:iy w):
  Calls Pg 21 #[.string S,Sl a n c] w fun e w'=>e=.returned (.string (cX S ns))/\Below w.heap.size w w':=by
 have hsz:=cU (k:=100) hs hS
 have hadd:=cR (be S ns) ⟨#[10]⟩ (by omega) (by show (1:Nat)<=_;omega)
 have C:Hid (Calls Pg 32 #[.string S,Sl a n c] w fun e w'=>e=.returned (.string (be S ns))/\Below w.heap.size w w'):=ou S hS a n c ns he hn hs w h hp
 have HL:Hid (be S ns++⟨#[10]⟩=cX S ns):=rfl
 clear hsz h hp hs he hS
 generalize cX S ns=l at*
 generalize be S ns=t at*
 generalize t++(⟨#[10]⟩:ByteArray)=t2 at*
 go_enter Tryz.func21,Tryz.ntmps21
 go_wp2_with fail
 refine C.out.mono ?_
 rintro e w1 ⟨rfl,B1⟩
 have HB:Hid (Below w.heap.size w w1):=B1
 clear B1 C
 go_wp2
 go_ret
 exact ⟨congrArg (fun x=>Ending.returned (.string x)) HL.out,HB.out⟩
def ci (b:Bool):Int:=if b then 1 else 0
theorem jg (b:Bool) (w:World):Calls Pg 23 #[.bool b] w fun e w'=>e=.returned (Ii Jj (ci b))/\w'=w:=by
 cases b
 ·go_enter Tryz.func23,Tryz.ntmps23
  go_wp2
  go_ret
  exact ⟨rfl,rfl⟩
 ·go_enter Tryz.func23,Tryz.ntmps23
  go_wp2
  go_ret
  exact ⟨rfl,rfl⟩
theorem ro (b:Bool) (w:World):Calls Pg 79 #[.bool b] w fun e w'=>e=.returned (Ii Jj (ci b))/\w'=w:=by
 cases b
 ·go_enter Tryz.func79,Tryz.ntmps79
  go_wp2
  go_ret
  exact ⟨rfl,rfl⟩
 ·go_enter Tryz.func79,Tryz.ntmps79
  go_wp2
  go_ret
  exact ⟨rfl,rfl⟩
end
section
open Go.RowKit
set_option maxRecDepth 8000
def dn (a:al):List Int:=[a.id,a.up,a.limit,a.rate,a.target,ci a.frozen,a.balance,a.carry]
def dz (o:am):List Int:=[o.id,o.src,o.dst,o.amount,o.first,o.every,o.times]
def ex (k:Bk):List Int:=[k.day,k.inn,k.out,k.posted,k.missed]
def bH:ByteArray:=⟨#[97,99,99,111,117,110,116]⟩
def bK:ByteArray:=⟨#[111,114,100,101,114]⟩
def cD:ByteArray:=⟨#[98,97,110,107]⟩
def ev (T:ByteArray) (F:Nat->al):Nat->ByteArray
 | 0=>T
 | j+1=>ev T F j++cX bH (dn (F j))
def gL (T:ByteArray) (O:Nat->am):Nat->ByteArray
 | 0=>T
 | j+1=>gL T O j++cX bK (dz (O j))
def cZ (F:Nat->al) (n:Nat) (O:Nat->am) (m:Nat) (k:Bk):ByteArray:=gL (ev (cX cD (ex k)) F n) O m
theorem gB {a:al} (h:ey a):∀z ∈ dn a,e8 z:=by
 unfold ey at h
 intro z hz
 simp only[dn,List.mem_cons,List.not_mem_nil,or_false] at hz
 rcases hz with rfl|rfl|rfl|rfl|rfl|rfl|rfl|rfl
 case inr.inr.inr.inr.inr.inl=>cases a.frozen <;>exact ⟨by decide,by decide⟩
 all_goals exact ⟨by omega,by omega⟩
theorem gK {o:am} (h:aE o):∀z ∈ dz o,e8 z:=by
 unfold aE at h
 intro z hz
 simp only[dz,List.mem_cons,List.not_mem_nil,or_false] at hz
 rcases hz with rfl|rfl|rfl|rfl|rfl|rfl|rfl <;>exact ⟨by omega,by omega⟩
theorem fP {F:Nat->al} {n:Nat} {O:Nat->am} {m:Nat} {k:Bk} (h:aj F n O m k):∀z ∈ ex k,e8 z:=by
 unfold aj at h
 obtain ⟨h0,_,_,h1,h2,h3,h4⟩:=h
 intro z hz
 simp only[ex,List.mem_cons,List.not_mem_nil,or_false] at hz
 rcases hz with rfl|rfl|rfl|rfl|rfl <;>exact ⟨by omega,by omega⟩
theorem df {S:ByteArray} {ns:List Int} (hS:S.size<=100) (hl:ns.length<=8) (hs:∀z ∈ ns,e8 z):(cX S ns).size<=253:=by
 have:=cU (k:=100) hs hS
 unfold cX
 rw[ByteArray.size_append]
 have h1:(⟨#[10]⟩:ByteArray).size=1:=rfl
 omega
theorem ec {T:ByteArray} {F:Nat->al} (hT:T.size<=253):∀j,(∀i,i<j->ey (F i))->(ev T F j).size<=253+253*j
 | 0,_=>by simpa [ev] using hT
 | j+1,h=>by
  have h1:=ec hT j (fun i hi=>h i (by omega))
  have h2:=df (S:=bH) (by decide) (by simp[dn]) (gB (h j (by omega)))
  simp only[ev,ByteArray.size_append]
  omega
theorem fT {T:ByteArray} {O:Nat->am} {t:Nat} (hT:T.size<=t):∀j,(∀i,i<j->aE (O i))->(gL T O j).size<=t+253*j
 | 0,_=>by simpa [gL] using hT
 | j+1,h=>by
  have h1:=fT hT j (fun i hi=>h i (by omega))
  have h2:=df (S:=bK) (by decide) (by simp[dz]) (gK (h j (by omega)))
  simp only[gL,ByteArray.size_append]
  omega
end
section
open Value renaming int → Ii,slice → Sl
open IntKind renaming i64 → Jj
open Nat renaming le_refl → Nf
set_option maxHeartbeats 8000000
open Go.RowKit
set_option maxRecDepth 8000
theorem TellsT.true {e:Ending} {P:Prop} (h:ae e P) (hp:P):e=.returned (.bool true):=by
 obtain ⟨b,rfl,h1,h2⟩:=h
 cases b
 ·exact absurd hp (h2 rfl)
 ·rfl
theorem TellsT.false {e:Ending} {P:Prop} (h:ae e P) (hp:¬P):e=.returned (.bool false):=by
 obtain ⟨b,rfl,h1,h2⟩:=h
 cases b
 ·rfl
 ·exact absurd (h1 rfl) hp
theorem pd (a b:Option Addr) (n c m d:Nat) (F:Nat->al) (O:Nat->am) (k:Bk) (w:World) (hF:Fo w a n F) (hO:aJ w b m O) (h:¬aj F n O m k):
  Calls Tryz.prog 6 #[.agg #[Ii Jj k.day,Sl a n c,Sl b m d,Ii Jj k.inn,Ii Jj k.out,Ii Jj k.posted,Ii Jj k.missed]] w fun e w'=>e=.returned (.string ⟨#[]⟩)/\Below w.heap.size w w':=by
 obtain ⟨W0,hW0,X0⟩:∃W0,W0=w.alloc (.cells #[Ii Jj k.day,Sl a n c,Sl b m d,Ii Jj k.inn,Ii Jj k.out,Ii Jj k.posted,Ii Jj k.missed] 27)/\Hid (bj W0 w.heap.size a b n c m d F O k w):=⟨_,rfl,⟨eK.new w _ _ k 27,hF.alloc _,hO.alloc _,(Below.refl _ _).alloc (Nf _) _⟩⟩
 have HW0:Hid (W0=_):=hW0
 have HN:Hid (¬aj F n O m k):=h
 clear hF hO h hW0
 go_enter Tryz.func6,Tryz.ntmps6
 go_wp2_with fail
 rw[←HW0.out]
 refine (gG a b n c m d F O k _ X0.out.2.1 X0.out.2.2.1).mono ?_
 rintro e w1 ⟨ht,B1⟩
 have he:=TellsT.false ht HN.out
 subst he
 have X1:Hid (bj w1 w.heap.size a b n c m d F O k w):=X0.out.below B1
 clear ht B1 X0 HW0
 go_wp2
 go_ret
 exact ⟨rfl,X1.out.2.2.2⟩
theorem ny (a b:Option Addr) (n c m d:Nat) (F:Nat->al) (O:Nat->am) (k:Bk) (w:World) (hF:Fo w a n F) (hO:aJ w b m O) (h:aj F n O m k) (hp:iy w):
  Calls Tryz.prog 6 #[.agg #[Ii Jj k.day,Sl a n c,Sl b m d,Ii Jj k.inn,Ii Jj k.out,Ii Jj k.posted,Ii Jj k.missed]] w fun e w'=>e=.returned (.string (cZ F n O m k))/\Below w.heap.size w w':=by
 obtain ⟨W0,hW0,X0⟩:∃W0,W0=w.alloc (.cells #[Ii Jj k.day,Sl a n c,Sl b m d,Ii Jj k.inn,Ii Jj k.out,Ii Jj k.posted,Ii Jj k.missed] 27)/\Hid (bj W0 w.heap.size a b n c m d F O k w):=⟨_,rfl,⟨eK.new w _ _ k 27,hF.alloc _,hO.alloc _,(Below.refl _ _).alloc (Nf _) _⟩⟩
 have HW0:Hid (W0=_):=hW0
 have HN:Hid (aj F n O m k):=h
 have HP:Hid (iy w):=hp
 have hn12:n<=12:=h.2.1.1
 have hm8:m<=8:=h.2.2.1.1
 have OKA:Hid (∀j,j<n->ey (F j)):=h.2.1.2.1
 have OKO:Hid (∀j,j<m->aE (O j)):=h.2.2.1.2.1
 clear hF hO h hW0 hp
 go_enter Tryz.func6,Tryz.ntmps6
 go_wp2_with fail
 rw[←HW0.out]
 refine (gG a b n c m d F O k _ X0.out.2.1 X0.out.2.2.1).mono ?_
 rintro e w1 ⟨ht,B1⟩
 have he:=TellsT.true ht HN.out
 subst he
 have X1:Hid (bj w1 w.heap.size a b n c m d F O k w):=X0.out.below B1
 clear ht B1 X0 HW0
 obtain ⟨⟨c0,c1,c2,c3,c4,c5,c6,cl⟩,_⟩:=X1.out
 go_wp2_with fail
 refine (qR w.heap.size k.day k.inn k.out k.posted k.missed _ cl c0 c3 c4 c5 c6).mono ?_
 rintro e w2 ⟨pa,pc,rfl,P2,B2⟩
 have X2:Hid (bj w2 w.heap.size a b n c m d F O k w/\fm w2 pa (ex k)):=⟨X1.out.below B2,P2⟩
 clear P2 B2 X1 c0 c1 c2 c3 c4 c5 c6 cl
 go_wp2_with fail
 refine (jh cD (by decide) pa 5 pc (ex k) rfl (by omega) (fP HN.out) _ X2.out.2 (HP.out.below X2.out.1.2.2.2)).mono ?_
 rintro e w3 ⟨rfl,B3⟩
 have X3:Hid (bj w3 w.heap.size a b n c m d F O k w):=X2.out.1.below B3
 clear B3 X2
 obtain ⟨T0,hT0⟩:∃T0,T0=cX cD (ex k):=⟨_,rfl⟩
 rw[←hT0]
 have HT0:Hid (T0=cX cD (ex k)):=hT0
 have HS0:Hid (T0.size<=253):=by show T0.size<=253;rw[hT0];exact df (by decide) (by simp[ex]) (fP HN.out)
 clear hT0
 obtain ⟨⟨c0,c1,c2,c3,c4,c5,c6,cl⟩,_⟩:=X3.out
 go_wp2
 go_loopw[3,17] (fun s i wr=>∃(j:Nat) (T:ByteArray),j<=n/\i=Ii Jj j/\s=.string T/\Hid (T=ev T0 F j)/\Hid (bj wr w.heap.size a b n c m d F O k w)) (fun _ i _=>n-(intOf i).toNat)
 case atStart=>exact ⟨0,T0,Nat.zero_le _,rfl,rfl,(rfl:T0=ev T0 F 0),X3⟩
 case round=>
  obtain ⟨j,T,hj,rfl,rfl,hT,hX⟩:=hrel
  clear X3 c0 c1 c2 c3 c4 c5 c6 cl
  by_cases hlt:j<n
  ·have hlt':(j:Int)<(n:Int):=by omega
   obtain ⟨A,hA⟩:∃A,A=F j:=⟨_,rfl⟩
   obtain ⟨bb,oo,rfl,hb0,hA0⟩:=hX.out.2.1.acc hlt
   rw[←hA] at hA0
   have okA:Hid (ey A):=by show ey A;rw[hA];exact OKA.out j hlt
   have hTs:T.size<=10000:=by
    have:=ec (F:=F) HS0.out j (fun i hi=>OKA.out i (by omega))
    rw[hT.out];omega
   have hls:=df (S:=bH) (ns:=dn A) (by decide) (by simp[dn]) (gB okA.out)
   have hadd:=cR T (cX bH (dn A)) (by omega) (by omega)
   have HN2:Hid (T++cX bH (dn A)=ev T0 F (j+1)):=by
    show _=ev T0 F j++cX bH (dn (F j))
    rw[←hT.out,←hA]
   obtain ⟨V,hV,YV⟩:∃V,V=(wr.alloc (.cells #[Ii Jj A.id,Ii Jj A.up,Ii Jj A.limit,Ii Jj A.rate,Ii Jj A.target,.bool A.frozen,Ii Jj A.balance,Ii Jj A.carry] 53)).alloc (.cells #[Ii Jj (ci A.frozen)] 2)/\Hid ((V.cell? ⟨wr.heap.size,0,none⟩=some (Ii Jj A.id)/\V.cell? ⟨wr.heap.size,1,none⟩=some (Ii Jj A.up)/\V.cell? ⟨wr.heap.size,2,none⟩=some (Ii Jj A.limit)/\V.cell? ⟨wr.heap.size,3,none⟩=some (Ii Jj A.rate)/\V.cell? ⟨wr.heap.size,4,none⟩=some (Ii Jj A.target)/\V.cell? ⟨wr.heap.size+1,0,none⟩=some (Ii Jj (ci A.frozen))/\V.cell? ⟨wr.heap.size,6,none⟩=some (Ii Jj A.balance)/\V.cell? ⟨wr.heap.size,7,none⟩=some (Ii Jj A.carry))/\bj V w.heap.size (some ⟨bb,oo,none⟩) b n c m d F O k w/\wr.heap.size+1<V.heap.size):=by
    refine ⟨_,rfl,⟨?_,?_,?_,?_,?_,?_,?_,?_⟩,(hX.out.below ((Below.refl _ _).alloc (Nf _) _)).below ((Below.refl _ _).alloc (Nf _) _),by simp⟩
    ·exact (World.cell?_alloc_lt _ _ _ (by simp)).trans (by simp[go_sem])
    ·exact (World.cell?_alloc_lt _ _ _ (by simp)).trans (by simp[go_sem])
    ·exact (World.cell?_alloc_lt _ _ _ (by simp)).trans (by simp[go_sem])
    ·exact (World.cell?_alloc_lt _ _ _ (by simp)).trans (by simp[go_sem])
    ·exact (World.cell?_alloc_lt _ _ _ (by simp)).trans (by simp[go_sem])
    ·have e:wr.heap.size+1=(wr.alloc (.cells #[Ii Jj A.id,Ii Jj A.up,Ii Jj A.limit,Ii Jj A.rate,Ii Jj A.target,.bool A.frozen,Ii Jj A.balance,Ii Jj A.carry] 53)).heap.size:=by simp
     rw[e];simp[go_sem]
    ·exact (World.cell?_alloc_lt _ _ _ (by simp)).trans (by simp[go_sem])
    ·exact (World.cell?_alloc_lt _ _ _ (by simp)).trans (by simp[go_sem])
   have HV:Hid (V=_):=hV
   clear hT hTs hls hV hA
   obtain ⟨z0,z1,z2,z3,z4,z5,z6,z7⟩:=hA0
   go_wp2_with fail
   refine (jg A.frozen _).mono ?_
   rintro e wz ⟨rfl,hwz⟩
   rw[hwz]
   clear hwz
   go_wp2_with fail
   rw[←HV.out]
   clear HV z0 z1 z2 z3 z4 z5 z6 z7
   refine (si wr.heap.size (wr.heap.size+1) A.id A.up A.limit A.rate A.target (ci A.frozen) A.balance A.carry _ (by have:=YV.out.2.2;omega) YV.out.2.2 YV.out.1.1 YV.out.1.2.1 YV.out.1.2.2.1 YV.out.1.2.2.2.1 YV.out.1.2.2.2.2.1 YV.out.1.2.2.2.2.2.1 YV.out.1.2.2.2.2.2.2.1 YV.out.1.2.2.2.2.2.2.2).mono ?_
   rintro e w5 ⟨pa',pc',rfl,P5,B5⟩
   have X5:Hid (bj w5 w.heap.size (some ⟨bb,oo,none⟩) b n c m d F O k w/\fm w5 pa' (dn A)):=⟨YV.out.2.1.below B5,P5⟩
   clear P5 B5 YV hX
   go_wp2_with fail
   refine (jh bH (by decide) pa' 8 pc' (dn A) rfl (by omega) (gB okA.out) _ X5.out.2 (HP.out.below X5.out.1.2.2.2)).mono ?_
   rintro e w6 ⟨rfl,B6⟩
   have X6:Hid (bj w6 w.heap.size (some ⟨bb,oo,none⟩) b n c m d F O k w):=X5.out.1.below B6
   clear B6 X5
   generalize cX bH (dn A)=l at*
   generalize T++l=T2 at*
   go_wp2
   go_roundw
   case rel=>exact ⟨j+1,T2,by omega,by go_num,rfl,HN2,X6⟩
   case measure=>simp[intOf];omega
  ·obtain rfl:j=n:=by omega
   clear hj hlt
   obtain ⟨⟨c0,c1,c2,c3,c4,c5,c6,cl⟩,_⟩:=hX.out
   go_wp2
   go_loopw[3,32] (fun s i wr=>∃(i':Nat) (T':ByteArray),i'<=m/\i=Ii Jj i'/\s=.string T'/\Hid (T'=gL (ev T0 F j) O i')/\Hid (bj wr w.heap.size a b j c m d F O k w)) (fun _ i _=>m-(intOf i).toNat)
   case atStart=>exact ⟨0,T,Nat.zero_le _,rfl,rfl,hT,hX⟩
   case round=>
    obtain ⟨i,T',hi,rfl,rfl,hT',hX'⟩:=hrel
    clear hX c0 c1 c2 c3 c4 c5 c6 cl
    by_cases hlt:i<m
    ·have hlt':(i:Int)<(m:Int):=by omega
     obtain ⟨A,hA⟩:∃A,A=O i:=⟨_,rfl⟩
     obtain ⟨bb,oo,rfl,hb0,hA0⟩:=hX'.out.2.2.1.acc hlt
     rw[←hA] at hA0
     have okA:Hid (aE A):=by show aE A;rw[hA];exact OKO.out i hlt
     have hTs:T'.size<=10000:=by
      have h1:=ec (F:=F) HS0.out j OKA.out
      have h2:=fT (O:=O) h1 i (fun q hq=>OKO.out q (by omega))
      rw[hT'.out];omega
     have hls:=df (S:=bK) (ns:=dz A) (by decide) (by simp[dz]) (gK okA.out)
     have hadd:=cR T' (cX bK (dz A)) (by omega) (by omega)
     have HN2:Hid (T'++cX bK (dz A)=gL (ev T0 F j) O (i+1)):=by
      show _=gL (ev T0 F j) O i++cX bK (dz (O i))
      rw[←hT'.out,←hA]
     obtain ⟨V,hV,YV⟩:∃V,V=wr.alloc (.cells #[Ii Jj A.id,Ii Jj A.src,Ii Jj A.dst,Ii Jj A.amount,Ii Jj A.first,Ii Jj A.every,Ii Jj A.times] 35)/\Hid ((V.cell? ⟨wr.heap.size,0,none⟩=some (Ii Jj A.id)/\V.cell? ⟨wr.heap.size,1,none⟩=some (Ii Jj A.src)/\V.cell? ⟨wr.heap.size,2,none⟩=some (Ii Jj A.dst)/\V.cell? ⟨wr.heap.size,3,none⟩=some (Ii Jj A.amount)/\V.cell? ⟨wr.heap.size,4,none⟩=some (Ii Jj A.first)/\V.cell? ⟨wr.heap.size,5,none⟩=some (Ii Jj A.every)/\V.cell? ⟨wr.heap.size,6,none⟩=some (Ii Jj A.times))/\bj V w.heap.size a (some ⟨bb,oo,none⟩) j c m d F O k w/\wr.heap.size<V.heap.size):=by
      refine ⟨_,rfl,⟨?_,?_,?_,?_,?_,?_,?_⟩,hX'.out.below ((Below.refl _ _).alloc (Nf _) _),by simp⟩ <;>simp[go_sem]
     have HV:Hid (V=_):=hV
     clear hT' hTs hls hV hA
     obtain ⟨z0,z1,z2,z3,z4,z5,z6⟩:=hA0
     go_wp2_with fail
     rw[←HV.out]
     clear HV z0 z1 z2 z3 z4 z5 z6
     refine (pq wr.heap.size A.id A.src A.dst A.amount A.first A.every A.times _ YV.out.2.2 YV.out.1.1 YV.out.1.2.1 YV.out.1.2.2.1 YV.out.1.2.2.2.1 YV.out.1.2.2.2.2.1 YV.out.1.2.2.2.2.2.1 YV.out.1.2.2.2.2.2.2).mono ?_
     rintro e w5 ⟨pa',pc',rfl,P5,B5⟩
     have X5:Hid (bj w5 w.heap.size a (some ⟨bb,oo,none⟩) j c m d F O k w/\fm w5 pa' (dz A)):=⟨YV.out.2.1.below B5,P5⟩
     clear P5 B5 YV hX'
     go_wp2_with fail
     refine (jh bK (by decide) pa' 7 pc' (dz A) rfl (by omega) (gK okA.out) _ X5.out.2 (HP.out.below X5.out.1.2.2.2)).mono ?_
     rintro e w6 ⟨rfl,B6⟩
     have X6:Hid (bj w6 w.heap.size a (some ⟨bb,oo,none⟩) j c m d F O k w):=X5.out.1.below B6
     clear B6 X5
     generalize cX bK (dz A)=l at*
     generalize T'++l=T2 at*
     go_wp2
     go_roundw
     case rel=>exact ⟨i+1,T2,by omega,by go_num,rfl,HN2,X6⟩
     case measure=>simp[intOf];omega
    ·obtain rfl:i=m:=by omega
     have HE:Hid (T'=cZ F j O i k):=by
      show T'=cZ F j O i k
      unfold cZ
      rw[←HT0.out];exact hT'.out
     clear hT'
     go_wp2
     go_ret
     exact ⟨congrArg (fun x=>Ending.returned (.string x)) HE.out,hX'.out.2.2.2⟩
end
end Go.Proofs.YtjhgchlfpolkcaaGreatDoor
