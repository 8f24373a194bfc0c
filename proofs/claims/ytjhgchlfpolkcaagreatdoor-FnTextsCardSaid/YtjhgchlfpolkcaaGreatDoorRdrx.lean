/- The reader of a text, piece by piece. -/
import Derived.Laws.RangeAny
import Derived.Laws.Cover4
import Derived.WalkMore
import Derived.Laws.RangeString
import Derived.Deep.LoopGhost
import Derived.Shelf.Strings.IndexAnyAll
import Derived.Shelf.Lay
import Derived.Ground.NamesProg
import Derived.Lib.DecodeN
import Derived.Test.YtjhgchlfpolkcaaGreatDoorBasx
import Derived.Shelf.Strconv.ParseIntPublic10
import Derived.Shelf.Strings.Prefix
namespace Go.Proofs.YtjhgchlfpolkcaaGreatDoor
section
open Go.Proofs.Tryz renaming prog → Pg
set_option maxHeartbeats 4000000
open Go.RowKit Go.Shelf
set_option maxRecDepth 1000000
theorem nk (r:Int) (W:World):(convert 21 9 (.int .i32 r)).run Pg W=.ok (.string (Utf8.encode r)) W:=by
 simp[convert,go_sem,Conv.intToString]
theorem nr (r:Int) (h:128<=r):2<=(Utf8.encode r).size/\∀(q:1<(Utf8.encode r).size),(Utf8.encode r).size=2->128<=((Utf8.encode r)[1]'q).toNat:=by
 have hc:∃c,128<=c/\c=(if Utf8.valid r then r.toNat else Utf8.runeError):=by
  refine ⟨_,?_,rfl⟩
  split
  ·omega
  ·decide
 obtain ⟨c,hc1,hc2⟩:=hc
 unfold Utf8.encode
 simp only[←hc2]
 have n1:¬c<128:=by omega
 simp only[n1,if_false]
 split
 ·refine ⟨Nat.le_refl _,fun q _=>?_⟩
  show 128<=(UInt8.ofNat (128+c % 64)).toNat
  simp
  omega
 ·split
  ·exact ⟨by show 2<=3;decide,fun q e=>absurd e (by show ¬(3=2);decide)⟩
  ·exact ⟨by show 2<=4;decide,fun q e=>absurd e (by show ¬(4=2);decide)⟩
theorem lX (w:World):Calls Pg 112 #[.string ⟨#[32,10]⟩,.int .i32 65533] w fun e w'=>e=.returned (.int .i64 (-1))/\Below w.heap.size w w':=by
 go_enter Tryz.func112,Tryz.ntmps112
 go_wp2
 go_loopg [5,6] 2 (fun g _ _ wx=>∃i:Nat,i+g=2/\wx=w.iter ⟨#[32,10]⟩ i)
 case atStart=>exact ⟨0,by omega,rfl⟩
 case round=>
  obtain ⟨i,hig,rfl⟩:=hrel
  cases gk with
  | zero=>
   obtain rfl:i=2:=by omega
   have hnx:=fun ty=>run_next_end (P:=Pg) w ⟨#[32,10]⟩ 2 ty (by decide)
   go_wp2
   go_ret
   exact ⟨rfl,(Below.refl _ _).alloc (Nat.le_refl _) _⟩
  | succ g=>
   have hi:i=0\/i=1:=by omega
   rcases hi with rfl|rfl
   ·have hnx:=fun ty=>run_next_ascii (P:=Pg) w ⟨#[32,10]⟩ 0 ty (by decide) (by decide)
    go_wp2
    go_roundg g
    case measure=>omega
    case rel=>exact ⟨1,by omega,rfl⟩
   ·have hnx:=fun ty=>run_next_ascii (P:=Pg) w ⟨#[32,10]⟩ 1 ty (by decide) (by decide)
    go_wp2
    go_roundg g
    case measure=>omega
    case rel=>exact ⟨2,by omega,rfl⟩
shelf_lay Lays.n137 Nm 137 at Tryz as Tryz.lays137
theorem lU (t:ByteArray) (ht:t.size=0) (c:Int) (W:World):Calls Pg 132 #[.string t,.int .u8 c] W fun e w'=>e=.returned (.int .i64 (-1))/\w'=W:=by
 have h:=Any.strings_IndexByte Tryz.lays137 t c W
 have e:t.data.toList=[]:=by
  have:=dB t
  rw[ht] at this
  exact List.length_eq_zero_iff.1 this
 rw[e] at h
 exact h
def uh (w:World) (e:Ending) (w':World):Prop:=∃b:Bool,e=.returned (.bool b)/\w'=w
theorem kI (r:Int) (w:World):Calls Pg 133 #[.int .i32 r] w fun e w'=>uh w e w':=by
 go_enter Tryz.func133,Tryz.ntmps133
 go_wp2
 all_goals go_ret
 all_goals exact ⟨_,rfl,rfl⟩
theorem lW (r:Int) (h0:128<=r) (h1:r<=1114111) (hr:¬r=65533) (w:World):Calls Pg 112 #[.string ⟨#[32,10]⟩,.int .i32 r] w fun e w'=>e=.returned (.int .i64 (-1))/\Below w.heap.size w w':=by
 have hcv:=nk r
 obtain ⟨E,hE⟩:∃E,Utf8.encode r=E:=⟨_,rfl⟩
 have he:=nr r h0
 have hle:=encode_size_le r
 rw[hE] at hcv he hle
 obtain ⟨he2,heb⟩:=he
 have hq:1<E.size:=by omega
 have HE:Hid (E.size=2->128<=(E[1]'hq).toNat):=heb hq
 clear heb hE
 by_cases hs:E.size=2
 ·have hb:=HE.out hs
  have hne:(((⟨#[32,10]⟩:ByteArray)[1].toNat:Int) != ((E[1]'hq).toNat:Int))=true:=by show ((10:Int) != _)=true;simp;omega
  go_enter Tryz.func112,Tryz.ntmps112
  go_wp2_with fail
  refine (kI r _).mono ?_
  rintro e w1 ⟨b,rfl,rfl⟩
  cases b with
  | false=>
   go_wp2
   go_ret
   exact ⟨rfl,Below.refl _ _⟩
  | true=>
   go_wp2
   go_step3
   go_wp2
   go_loop [9,10] (fun i f=>i=.int .i64 1/\f=.int .i64 0) (fun _ _=>0)
   case atStart=>exact ⟨rfl,rfl⟩
   case round=>
    obtain ⟨rfl,rfl⟩:=hrel
    go_wp2
    go_step3
    go_wp2_with fail
    go_region
    all_goals go_wp2_with fail
    go_region_with (go_at_call 132;refine (lU ByteArray.empty rfl _ _).mono ?_;rintro e w2 ⟨rfl,rfl⟩)
    all_goals go_wp2
    all_goals rw[Exit.noGoto_ret]
    all_goals go_wp2
    all_goals rw[Exit.noGoto_ret]
    all_goals go_wp2
    all_goals go_ret
    all_goals exact ⟨rfl,((Below.refl _ _).drew).drew⟩
 ·go_enter Tryz.func112,Tryz.ntmps112
  go_wp2_with fail
  refine (kI r _).mono ?_
  rintro e w1 ⟨b,rfl,rfl⟩
  cases b with
  | false=>
   go_wp2
   go_ret
   exact ⟨rfl,Below.refl _ _⟩
  | true=>
   go_wp2
   go_step3
   go_wp2
   go_loop [9,10] (fun i f=>∃m:Int,2<=m/\i=.int .i64 m) (fun _ _=>0)
   case atStart=>exact ⟨(E.size:Int)-1,by omega,by go_num⟩
   case round=>
    obtain ⟨m,hm,rfl⟩:=hrel
    go_wp2
    go_ret
    exact ⟨rfl,Below.refl _ _⟩
theorem nw (r:Int) (h0:128<=r) (h1:r<=1114111) (w:World):Calls Pg 112 #[.string ⟨#[32,10]⟩,.int .i32 r] w fun e w'=>e=.returned (.int .i64 (-1))/\Below w.heap.size w w':=by
 by_cases hr:r=65533
 ·subst hr
  exact lX w
 ·exact lW r h0 h1 hr w
end
section
open Go.Proofs.Tryz renaming prog → Pg
open Go.RowKit Go.Shelf
set_option maxRecDepth 1000000
theorem lT (s:ByteArray) (j:Nat) (h:j<s.size):s.get! j=s[j]:=by
 have:=get_at s j h
 simpa using this
theorem kQ (s:ByteArray) (pos:Nat) (h:pos<s.size) (ha:128<=(s.get! pos).toNat):
  (Utf8.decode s pos).1<=1114111/\∀j,pos<=j->j<pos+(Utf8.decode s pos).2->j<s.size/\128<=(s.get! j).toNat:=by
 rw[Lib.decode_at]
 have hb:∀k,(s.get! (pos+k)).toNat<256:=fun k=>(s.get! (pos+k)).toNat_lt
 have h0:=(s.get! pos).toNat_lt
 have h1:=hb 1;have h2:=hb 2;have h3:=hb 3
 have key:∀j,pos<=j->j<pos+4->j=pos\/j=pos+1\/j=pos+2\/j=pos+3:=fun j _ _=>by omega
 generalize hx0:(s.get! pos).toNat=b0 at*
 generalize hx1:(s.get! (pos+1)).toNat=b1 at*
 generalize hx2:(s.get! (pos+2)).toNat=b2 at*
 generalize hx3:(s.get! (pos+3)).toNat=b3 at*
 unfold Lib.decodeN
 rw[if_neg (by omega)]
 split
 ·split
  ·exact ⟨by simp only;omega,fun j j1 j2=>by simp only at j2;rcases key j j1 (by omega) with rfl|rfl|rfl|rfl <;>omega⟩
  ·exact ⟨by simp only;omega,fun j j1 j2=>by simp only at j2;rcases key j j1 (by omega) with rfl|rfl|rfl|rfl <;>omega⟩
 split
 ·split
  ·exact ⟨by simp only;omega,fun j j1 j2=>by simp only at j2;rcases key j j1 (by omega) with rfl|rfl|rfl|rfl <;>omega⟩
  ·exact ⟨by simp only;omega,fun j j1 j2=>by simp only at j2;rcases key j j1 (by omega) with rfl|rfl|rfl|rfl <;>omega⟩
 split
 ·split
  ·exact ⟨by simp only;omega,fun j j1 j2=>by simp only at j2;rcases key j j1 (by omega) with rfl|rfl|rfl|rfl <;>omega⟩
  ·exact ⟨by simp only;omega,fun j j1 j2=>by simp only at j2;rcases key j j1 (by omega) with rfl|rfl|rfl|rfl <;>omega⟩
 ·exact ⟨by simp only;omega,fun j j1 j2=>by simp only at j2;rcases key j j1 (by omega) with rfl|rfl|rfl|rfl <;>omega⟩
def iu (W:World) (k:Nat) (s:ByteArray) (p:Nat):World:={W with heap:=W.heap.setIfInBounds k (.stringIter s p)}
def cL (W:World) (k:Nat) (s:ByteArray) (p:Nat):Prop:=W.heap[k]? =some (.stringIter s p)
theorem cL.lt {W:World} {k:Nat} {s:ByteArray} {p:Nat} (h:cL W k s p):k<W.heap.size:=by
 unfold cL at h
 rcases Nat.lt_or_ge k W.heap.size with h'|h'
 ·exact h'
 ·rw[Array.getElem?_eq_none h'] at h;cases h
theorem sd {W:World} {k:Nat} {s:ByteArray} {p:Nat} (h:cL W k s p) (hp:p<s.size) (ty:TypeId):(Instr.next (.pointer (some ⟨k,0,none⟩)) true ty).run Pg W=.ok (.tuple #[.bool true,.int .i64 p,.int .i32 (Utf8.decode s p).1]) (iu W k s (p+(Utf8.decode s p).2)):=by
 unfold cL at h
 simp only[Instr.next,getObj,setObj,Sem.run_bind,Sem.run,h,Result.andThen,hp,if_true]
 simp[goInt,iu]
theorem pp {W:World} {k:Nat} {s:ByteArray} {p:Nat} (h:cL W k s p) (hp:¬p<s.size) (ty:TypeId):(Instr.next (.pointer (some ⟨k,0,none⟩)) true ty).run Pg W=.ok (.tuple #[.bool false]) W:=by
 unfold cL at h
 simp[Instr.next,getObj,Sem.run,h,hp]
theorem rk {W:World} {k:Nat} {s:ByteArray} {p q:Nat} (h:cL W k s p):cL (iu W k s q) k s q:=by
 have:=h.lt
 simp[cL,iu,this]
theorem my {n:Nat} {w W:World} {k:Nat} (hb:Below n w W) (hk:n<=k) (s:ByteArray) (q:Nat):Below n w (iu W k s q):=
 ⟨hb.os,hb.tape,hb.output,by have:=hb.size;simpa [iu] using this,fun j hj=>by
  have:=hb.block j hj
  rw[←this]
  simp only[iu]
  rw[Array.getElem?_setIfInBounds_ne (by omega)]⟩
theorem cL.below {W W':World} {k:Nat} {s:ByteArray} {p:Nat} (h:cL W k s p) (hb:Below W.heap.size W W'):cL W' k s p:=(hb.block k h.lt).trans h
theorem nH {s:ByteArray} {i d:Nat} (h:Lib.NoAny s.data.toList [32,10] i) (hd:∀j,i<=j->j<i+d->j<s.size/\128<=(s.get! j).toNat):Lib.NoAny s.data.toList [32,10] (i+d):=by
 intro j b hj hb
 by_cases hji:j<i
 ·exact h j b hji hb
 ·obtain ⟨h1,h2⟩:=hd j (by omega) hj
  rw[lT s j h1] at h2
  have e:s.data.toList[j]? =some s[j]:=Lib.data_getElem? s j h1
  rw[e] at hb
  obtain rfl:=Option.some.inj hb
  simp
  refine ⟨?_,?_⟩
  ·intro e;rw[e] at h2;exact absurd h2 (by decide)
  ·intro e;rw[e] at h2;exact absurd h2 (by decide)
shelf_lay Lays.n152 Nm 152 at Tryz as Tryz.lays152
shelf_lay Lays.n153 Nm 153 at Tryz as Tryz.lays153
theorem rj:(Pg.info? (Tryz.lays153_ren.t 116)).map (fun i=>(i.zero,i.size))=some (some (.agg (Array.replicate 256 (.bool false))),256):=by kernel_rfl
theorem jK (x:UInt8) (hx:x.toNat<128) (w:World):Calls Pg 112 #[.string ⟨#[32,10]⟩,.int .i32 (x.toNat:Int)] w fun e w'=>e=.returned (.int .i64 (Lib.indexByte [32,10] x))/\w'=w:=by
 have:=Any.strings_IndexRune_ascii Tryz.lays152 ⟨#[32,10]⟩ (x.toNat:Int) w (by omega) (by omega)
 have hback:((x.toNat:Int)).toNat.toUInt8=x:=by simp
 rw[hback] at this
 exact this
set_option maxHeartbeats 4000000 in
theorem kU (s:ByteArray) (h8:s.size<=8) (w:World):Calls Pg 98 #[.string s,.string ⟨#[32,10]⟩] w fun e w'=>e=.returned (.int .i64 (Lib.indexAny s.data.toList [32,10]))/\Below w.heap.size w w':=by
 have h8z:decide ((8:Int)<(s.size:Int))=false:=decide_eq_false (by omega)
 have I0:Hid (cL (w.alloc (.stringIter s 0)) w.heap.size s 0/\Below w.heap.size w (w.alloc (.stringIter s 0))):=⟨World.iter_heap w s 0,(Below.refl _ _).alloc (Nat.le_refl _) _⟩
 go_enter Tryz.func98,Tryz.ntmps98
 go_wp2
 go_loopg [9,10] s.size (fun g _ _ wx=>∃i:Nat,i+g=s.size/\Hid (cL wx w.heap.size s i/\Below w.heap.size w wx)/\Hid (Lib.NoAny s.data.toList [32,10] i))
 case atStart=>exact ⟨0,by omega,I0,Lib.NoAny.zero _ _⟩
 case round=>
  obtain ⟨i,hig,HI,HN⟩:=hrel
  clear I0
  by_cases hi:i<s.size
  ·have hnx:=sd HI.out.1 hi
   obtain ⟨W,hW⟩:∃W,W=iu wr w.heap.size s (i+(Utf8.decode s i).2):=⟨_,rfl⟩
   have HW:Hid (cL W w.heap.size s (i+(Utf8.decode s i).2)/\Below w.heap.size w W):=by rw[hW];exact ⟨rk HI.out.1,my HI.out.2 (Nat.le_refl _) _ _⟩
   rw[←hW] at hnx
   have Hx:Hid (s.data.toList[i]? =some s[i]):=Lib.data_getElem? s i hi
   by_cases hx:(s[i]).toNat<128
   ·rw[decode_ascii s i hi hx] at hnx HW
    have IR:=jK s[i] hx
    generalize s[i]=x at*
    cases hin:([32,10]:List UInt8).contains x
    ·have hcon:=Lib.contains_iff_indexByte [32,10] x
     rw[hin] at hcon
     have hlt:¬((0:Int)<=Lib.indexByte [32,10] x):=of_decide_eq_false hcon.symm
     have HN2:Hid (Lib.NoAny s.data.toList [32,10] (i+1)):=HN.out.succ Hx.out hin
     clear hcon hW HI HN Hx
     go_wp2_with (go_at_call 112;refine (IR _).mono ?_;rintro e w2 ⟨rfl,rfl⟩)
     go_roundg (gk-1)
     case measure=>omega
     case rel=>exact ⟨i+1,by omega,HW,HN2⟩
    ·have hcon:=Lib.contains_iff_indexByte [32,10] x
     rw[hin] at hcon
     have hge:(0:Int)<=Lib.indexByte [32,10] x:=of_decide_eq_true hcon.symm
     have FI:Hid (Lib.indexAny s.data.toList [32,10]=i):=Lib.indexAny_hit HN.out Hx.out hin
     clear hcon hW HI HN Hx
     go_wp2_with (go_at_call 112;refine (IR _).mono ?_;rintro e w2 ⟨rfl,rfl⟩)
     go_ret
     exact ⟨by rw[FI.out];rfl,HW.out.2⟩
   ·have hx':128<=(s[i]).toNat:=by omega
    obtain ⟨d1,d2⟩:=kQ s i hi (by rw[lT s i hi];exact hx')
    obtain ⟨d3,d4⟩:=decode_high s i hi hx'
    have HN2:Hid (Lib.NoAny s.data.toList [32,10] (i+(Utf8.decode s i).2)):=nH HN.out d2
    have hle:i+(Utf8.decode s i).2<=s.size:=by
     have:=(d2 (i+(Utf8.decode s i).2-1) (by omega) (by omega)).1
     omega
    have IR:=nw ((Utf8.decode s i).1:Int) (by omega) (by omega)
    clear d2 hW HI HN Hx hx hx'
    generalize (Utf8.decode s i).1=r at*
    generalize (Utf8.decode s i).2=d at*
    go_wp2_with (go_at_call 112;refine (IR _).mono ?_;rintro e w2 ⟨rfl,B2⟩;have HW2:Hid (cL w2 w.heap.size s (i+d)/\Below w.heap.size w w2):=⟨HW.out.1.below B2,HW.out.2.trans (B2.mono HW.out.2.size)⟩;clear B2)
    go_roundg (gk-d)
    case measure=>omega
    case rel=>exact ⟨i+d,by omega,HW2,HN2⟩
  ·have hnx:=pp HI.out.1 hi
   have FI:Hid (Lib.indexAny s.data.toList [32,10]= -1):=Lib.indexAny_none (by rw[dB,show s.size=i by omega];exact HN.out)
   clear HN
   go_wp2
   go_ret
   exact ⟨by rw[FI.out];rfl,HI.out.2⟩
theorem tv (s:ByteArray) (hs:s.size<=1048576) (w:World):Calls Pg 98 #[.string s,.string ⟨#[32,10]⟩] w fun e w'=>e=.returned (.int .i64 (Lib.indexAny s.data.toList [32,10]))/\Below w.heap.size w w':=by
 by_cases h8:s.size<=8
 ·exact kU s h8 w
 ·refine (Any.strings_IndexAny_long Tryz.lays153 (zero_of_info rj).1 (zero_of_info rj).2 s ⟨#[32,10]⟩ w (by decide) (by omega) (by omega) (by decide) ?_).mono fun e w' ⟨h1,h2⟩=>⟨h1,?_⟩
  ·intro j b hb
   have:b ∈ ([32,10]:List UInt8):=List.mem_of_getElem? hb
   simp at this
   rcases this with rfl|rfl <;>decide
  ·rw[h2]
   exact ((Below.refl _ _).alloc (Nat.le_refl _) _).alloc (by simp) _
end
section
open Go.RowKit Go.Shelf
set_option maxRecDepth 8000
def ba (w:World):Prop:=(∃t p,w.cell? ⟨0,0,none⟩=some (.iface t p))/\(∃t p,w.cell? ⟨5,0,none⟩=some (.iface t p))/\(∃t p,w.cell? ⟨6,0,none⟩=some (.iface t p))/\iy w/\7<=w.heap.size
theorem iy.stp {w w':World} {B:Nat} (h:iy w) (hs:an B w w') (hB:7<=B) (hz:7<=w.heap.size):iy w':=by
 unfold iy Lib.TabIs World.var? at h ⊢
 rw[ts] at h ⊢
 simp only[Option.bind_some] at h ⊢
 rw[hs.block 1 (by omega) (by omega)]
 exact h
theorem ba.stp {w w':World} {B:Nat} (h:ba w) (hs:an B w w') (hB:7<=B):ba w':=by
 obtain ⟨⟨t0,p0,h0⟩,⟨t2,p2,h2⟩,⟨t3,p3,h3⟩,h4,hz⟩:=h
 exact ⟨⟨t0,p0,(hs.cell (p:=⟨0,0,none⟩) (by show 0<_;omega) (by show 0≠_;omega)).trans h0⟩,⟨t2,p2,(hs.cell (p:=⟨5,0,none⟩) (by show 5<_;omega) (by show 5≠_;omega)).trans h2⟩,⟨t3,p3,(hs.cell (p:=⟨6,0,none⟩) (by show 6<_;omega) (by show 6≠_;omega)).trans h3⟩,h4.stp hs hB hz,Nat.le_trans hz hs.size⟩
theorem ba.below {w w':World} (h:ba w) (hb:Below w.heap.size w w'):ba w':=h.stp (B:=w.heap.size) (an.ofBelow hb) h.2.2.2.2
def bp (w:World) (p:Nat) (s:ByteArray):Prop:=w.cell? ⟨p,0,none⟩=some (.string s)/\w.frozen? ⟨p,0,none⟩=false/\7<=p/\p<w.heap.size/\s.size<=1048576
theorem bp.below {w w':World} {p:Nat} {s:ByteArray} (h:bp w p s) (hb:Below w.heap.size w w'):bp w' p s:=
 ⟨(hb.cell (p:=⟨p,0,none⟩) h.2.2.2.1).trans h.1,(hb.frozen (p:=⟨p,0,none⟩) h.2.2.2.1).trans h.2.1,h.2.2.1,Nat.lt_of_lt_of_le h.2.2.2.1 hb.size,h.2.2.2.2⟩
theorem bp.set {w:World} {p:Nat} {s t:ByteArray} (h:bp w p s) (ht:t.size<=1048576):bp (w.setCell ⟨p,0,none⟩ (.string t)) p t:=
 ⟨World.cell?_setCell_same _ _ _ (by rw[h.1]),by rw[World.frozen?_setCell];exact h.2.1,h.2.2.1,by simpa [World.setCell] using h.2.2.2.1,ht⟩
def lI (e:Ending):Prop:=∃t p,e=.panicked [{v:=.iface t p,recovered:=false}]
theorem dY (p:Option Addr) (w:World):Calls Tryz.prog 58 #[.pointer p,.bool true] w fun e w'=>e=.returned (.tuple #[])/\w'=w:=by
 go_enter Tryz.func58,Tryz.ntmps58
 go_wp2
 refine bodyPost_end (results_none rfl _ _ _) rfl ?_
 exact ⟨rfl,rfl⟩
theorem dO (p:Option Addr) (w:World) (h:ba w):Calls Tryz.prog 58 #[.pointer p,.bool false] w fun e w'=>lI e/\w'=w:=by
 obtain ⟨⟨t0,p0,h0⟩,_⟩:=h
 have FI:Hid (lI (.panicked [{v:=.iface t0 p0,recovered:=false}])):=⟨t0,p0,rfl⟩
 go_enter Tryz.func58,Tryz.ntmps58
 go_wp2
 exact ⟨rfl,FI.out,rfl⟩
shelf_lay Lays.n99 Nm 99 at Tryz as Tryz.lays99
theorem nc (p:Nat) (s S:ByteArray) (w:World) (h:bp w p s):Calls Tryz.prog 60 #[.pointer (some ⟨p,0,none⟩),.string S] w fun e w'=>e=.returned (.bool (Lib.hasPrefix s.data.toList S.data.toList))/\w'=w:=by
 have C:=Any.strings_HasPrefix Tryz.lays99 s S w
 obtain ⟨h0,_⟩:=h
 generalize Lib.hasPrefix s.data.toList S.data.toList=b at*
 go_enter Tryz.func60,Tryz.ntmps60
 go_wp2_with (go_at_call 91;refine C.mono ?_;rintro e w' ⟨rfl,rfl⟩)
 go_ret
 exact ⟨rfl,rfl⟩
def kO (w:World) (p:Nat) (s S:ByteArray) (e:Ending) (w':World):Prop:=an p w w'/\((Lib.hasPrefix s.data.toList S.data.toList=true/\e=.returned (.tuple #[])/\bp w' p (s.extract S.size s.size))\/(Lib.hasPrefix s.data.toList S.data.toList=false/\lI e))
set_option maxHeartbeats 1000000 in
theorem oQ (p:Nat) (s S:ByteArray) (w:World) (h:bp w p s) (g:ba w) (hS:Lib.hasPrefix s.data.toList S.data.toList=true->S.size<=s.size):Calls Tryz.prog 90 #[.pointer (some ⟨p,0,none⟩),.string S] w fun e w'=>kO w p s S e w':=by
 have A:=nc p s S w h
 have H:Hid (bp w p s):=h
 have G:Hid (ba w):=g
 obtain ⟨b,hb⟩:∃b,Lib.hasPrefix s.data.toList S.data.toList=b:=⟨_,rfl⟩
 have HB:Hid (Lib.hasPrefix s.data.toList S.data.toList=b):=hb
 rw[hb] at A hS
 obtain ⟨h0,hz,_,_,hs⟩:=h
 clear hb g
 cases b with
 | true=>
  have hS':=hS rfl
  have FI:Hid (kO w p s S (.returned (.tuple #[])) (w.setCell ⟨p,0,none⟩ (.string (s.extract S.size s.size)))):=⟨(an.refl _ _).setCell 0 _,Or.inl ⟨HB.out,rfl,H.out.set (by rw[ByteArray.size_extract];omega)⟩⟩
  clear hS
  go_enter Tryz.func90,Tryz.ntmps90
  go_wp2_with (first|(go_at_call 60;refine A.mono ?_;rintro e w' ⟨rfl,rfl⟩)|(go_at_call 58;refine (dY _ _).mono ?_;rintro e w' ⟨rfl,rfl⟩))
  refine bodyPost_end (results_none rfl _ _ _) rfl ?_
  exact FI.out
 | false=>
  have FI:Hid (∀e,lI e->kO w p s S e w):=fun e he=>⟨an.refl _ _,Or.inr ⟨HB.out,he⟩⟩
  clear hS
  go_enter Tryz.func90,Tryz.ntmps90
  go_wp2_with (first|(go_at_call 60;refine A.mono ?_;rintro e w' ⟨rfl,rfl⟩)|(go_at_call 58;refine (dO _ _ G.out).mono ?_;rintro e w' ⟨⟨t0,p0,rfl⟩,rfl⟩))
  exact ⟨rfl,FI.out _ ⟨_,_,rfl⟩⟩
end
end Go.Proofs.YtjhgchlfpolkcaaGreatDoor
