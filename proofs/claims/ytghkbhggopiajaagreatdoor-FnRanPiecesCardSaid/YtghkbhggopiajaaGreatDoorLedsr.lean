/- The ledger. -/
import Derived.Test.YtghkbhggopiajaaGreatDoorChBr
import Derived.Maps.Own
import Derived.Maps.OwnSet
import Derived.Maps.Views
import Derived.Lib.SlKeysI
import Derived.Shelf.SlIterI.Nil
import Derived.Shelf.SortM.Plain
import Derived.Shelf.SortM.SortNone
import Derived.Ground.GgzProg
import Derived.Ground.SlgmProg
namespace Go.Proofs.YtghkbhggopiajaaGreatDoor
open Nat renaming le_refl → Nf
open Go.Proofs.Tryz renaming prog → Pg
set_option maxHeartbeats 1000000
open Go.RowKit Go.Maps
set_option maxRecDepth 8000
def eH:Value->Int| .int _ q=>q|_=>0
def RP (v:Value):Option (DataW Unit×List MemPlace):=
 match v with
 | .pointer (some ⟨b,0,none⟩)=>some (.lit (.int .i64 b),[])
 | .pointer none=>some (.lit (.int .i64 (-1)),[])
 | _=>none
theorem tU (b:Nat):RP (.pointer (some ⟨b,0,none⟩))=some (.lit (.int .i64 b),[]):=rfl
theorem td {v:Value} {b:Nat} {ps:List MemPlace} (h:RP v=some (.lit (.int .i64 b),ps)):v=.pointer (some ⟨b,0,none⟩):=by
 unfold RP at h
 split at h
 ·rename_i b'
  simp at h
  obtain rfl:b'=b:=by omega
  rfl
 ·simp at h
 ·cases h
def gA (ks:List (Int×Nat)):List (Lit×DataW Unit):=ks.map fun p=>(.int .i64 p.1,.lit (.int .i64 p.2))
def te (w:World) (b:Nat) (ks:List (Int×Nat)):Prop:=w.ownsMap Pg 2 RP b ks.length (.map (gA ks))
theorem jv (k:Int) (g:Nat):∀ks:List (Int×Nat),(∀p ∈ ks,p.1<k)->DataW.insert (.int .i64 k,.lit (.int .i64 g)) (gA ks)=gA (ks++[(k,g)])
 | [],_=>rfl
 | y::r,h=>by
  have h1:=h y (by simp)
  have e:(Lit.int .i64 k).before (Lit.int .i64 y.1)=false:=by simp[Lit.before];omega
  have ih:=jv k g r (fun p hp=>h p (by simp[hp]))
  simp only[gA,List.map_cons,List.cons_append] at ih ⊢
  simp only[DataW.insert,e]
  simp[ih]
theorem sr (k:Int) (g:Nat) (ks:List (Int×Nat)) (h:∀p ∈ ks,p.1<k):(DataW.map (gA ks)).put (.int .i64 k) (.lit (.int .i64 g))=.map (gA (ks++[(k,g)])):=by
 rw[DataW.put_eq]
 unfold ChangeMaps.putKey
 rw[List.filter_eq_self.2,jv k g ks h]
 intro p hp
 obtain ⟨q,hq,rfl⟩:=List.mem_map.1 hp
 have:=h q hq
 simp[ChangeMaps.notKey,Lit.sameKey]
 omega
theorem nc (z:DataW Unit):∀(ks:List (Int×Nat)),ks.Pairwise (fun p q=>p.1<q.1)->∀k g,(k,g) ∈ ks->(DataW.map (gA ks)).atKey (.int .i64 k) z=.lit (.int .i64 g)
 | [],_,k,g,h=>by cases h
 | y::r,hp,k,g,h=>by
  rw[List.pairwise_cons] at hp
  rcases List.mem_cons.1 h with e|h
  ·subst e
   simp[DataW.atKey,gA,Lit.sameKey]
  ·have h1:=hp.1 _ h
   have ih:=nc z r hp.2 k g h
   simp only[DataW.atKey,gA,List.map_cons] at ih ⊢
   rw[List.find?_cons_of_neg]
   ·exact ih
   ·simp[Lit.sameKey]
    simp at h1
    omega
theorem rA (ks:List (Int×Nat)):intKeys (DataW.map (gA ks))=ks.map (·.1):=by
 simp[intKeys,gA]
 intros
 rfl
theorem rB (ks:List (Int×Nat)):Maps.size (DataW.map (gA ks))=ks.length:=by simp[Maps.size,gA]
theorem oN {ks:List (Int×Nat)} (hp:ks.Pairwise (fun p q=>p.1<q.1)) {ss:List Int} (h:ss.Perm (ks.map (·.1))):ss.mergeSort (fun x y=>decide (x<=y))=ks.map (·.1):=by
 have h1:(ss.mergeSort (fun x y=>decide (x<=y))).Perm (ks.map (·.1)):=(List.mergeSort_perm ss _).trans h
 have h2:=List.pairwise_mergeSort (le:=fun x y:Int=>decide (x<=y)) (by simp;omega) (by simp;omega) ss
 have h3:(ks.map (·.1)).Pairwise (fun x y:Int=>decide (x<=y)=true):=by
  rw[List.pairwise_map]
  exact hp.imp (fun h=>by simp;omega)
 exact h1.eq_of_pairwise (fun a b _ _ x y=>by simp at x y;omega) h2 h3
theorem rC:Keyed Pg 2:=int_keyed Tryz.underlying2
theorem bV.same {w w':World} {R:Nat} {a:aj} (h:bV w R a) (e:w'.heap[R]? =w.heap[R]?):bV w' R a:=by
 obtain ⟨h1,h2,h3⟩:=h
 refine ⟨h1.of_cells (fun o=>by unfold World.cell?;simp only[e]),fun o=>?_,?_⟩
 ·rw[←h2 o]
  unfold World.frozen?
  simp only[e]
 ·have h4:w.heap[R]? =some w.heap[R]:=Array.getElem?_eq_getElem h3
  exact (Array.getElem?_eq_some_iff.1 (e.trans h4)).1
def eo (F:Nat->aj) (G:Nat->Nat) (n:Nat):List (Int×Nat):=(List.range n).map fun i=>((F i).id,G i)
theorem nf (F:Nat->aj) (G:Nat->Nat) (n:Nat):(eo F G n).length=n:=by simp[eo]
theorem qo (F:Nat->aj) (G:Nat->Nat) (n:Nat):eo F G (n+1)=eo F G n++[((F n).id,G n)]:=by simp[eo,List.range_succ]
theorem rD {F:Nat->aj} {G:Nat->Nat} {n i:Nat} (h:i<n):((F i).id,G i) ∈ eo F G n:=by
 unfold eo
 exact List.mem_map.2 ⟨i,by simp[h],rfl⟩
theorem gB {F F':Nat->aj} {G G':Nat->Nat} {n:Nat} (h:∀i,i<n->(F i).id=(F' i).id/\G i=G' i):eo F G n=eo F' G' n:=by
 unfold eo
 refine List.map_congr_left fun i hi=>?_
 have:=h i (by simpa using hi)
 rw[this.1,this.2]
def eL (F:Nat->aj) (n:Nat):Prop:=∀i j,i<j->j<n->(F i).id<(F j).id
theorem jw {F:Nat->aj} {G:Nat->Nat} {n:Nat} (h:eL F n):(eo F G n).Pairwise (fun p q=>p.1<q.1):=by
 unfold eo
 rw[List.pairwise_map]
 have:(List.range n).Pairwise (fun i j=>i<j/\j<n):=by
  have h1:=List.pairwise_lt_range (n:=n)
  refine (List.Pairwise.and_mem.1 h1).imp ?_
  intro a b hh
  exact ⟨hh.2.2,by simpa using hh.2.1⟩
 exact this.imp (fun hh=>h _ _ hh.1 hh.2)
structure gC (w:World) (B b n:Nat) (F:Nat->aj) (G:Nat->Nat):Prop where
 base:B<=b
 map:te w b (eo F G n)
 acc:∀i,i<n->B<=G i/\G i≠b/\bV w (G i) (F i)
 one:∀i j,i<n->j<n->G i=G j->i=j
theorem gC.below {w w':World} {B b n:Nat} {F:Nat->aj} {G:Nat->Nat} (h:gC w B b n F G) {m:Nat} (hb:Below m w w') (hm:w.heap.size<=m):gC w' B b n F G:=by
 have hlt:=h.map.lt
 refine ⟨h.base,?_,fun i hi=>⟨(h.acc i hi).1,(h.acc i hi).2.1,?_⟩,h.one⟩
 ·obtain ⟨es,clock,hb',Ft,hs,hD⟩:=h.map
  exact ⟨es,clock,(hb.block b (by omega)).trans hb',Ft,hs,hD⟩
 ·have hlt:=(h.acc i hi).2.2.2.2
  exact (h.acc i hi).2.2.same (hb.block (G i) (by omega))
open Go.RowKit Go.Maps Go.Sort Go.Shelf
set_option maxRecDepth 8000
shelf_lay_g SlLaysZI.n7 Ggz 7 at Tryz 105 as Tryz.keysA
shelf_lay_g SlLaysZI.n6 Ggz 6 at Tryz 104 as Tryz.sortedA
shelf_lay_g SlLaysM.n5 Slgm 5 at Tryz 142 as Tryz.sortA
theorem tg (m:Nat):AnyZI.SortsIn Pg Tryz.sortedA_ren Fence.wide m:=
  ⟨fun blk off cap ss W hH hblk hsz=>callsIn_wide.2 (AnyM.slices_Sort_int Tryz.sortA blk off cap ss W hH hblk hsz),
   fun p cap W=>callsIn_wide.2 (AnyM.slices_Sort_int_none Tryz.sortA p cap W)⟩
theorem st {H:Type} (b nn:Nat) (D0:DataW H) (R:Value->Option (DataW H×List MemPlace)) (w:World) (hown:w.ownsMap Pg 2 R b nn D0) (hmax:Maps.size D0<=maxLen) (hbytes:Maps.size D0*8<=140737488355328):
  Calls Pg 57 #[.map (some b)] w fun e w'=>∃(v:Value) (ss:List Int),e=.returned v/\ss.Perm (intKeys D0)/\
   w'.ownsRow w.heap.size 2 1 v ss.length ((ss.mergeSort (fun x y=>decide (x<=y))).map encZ)/\(v=.slice none 0 0↔ss=[])/\Below w.heap.size w w':=by
 refine (callsIn_wide (n:=6)).1 ?_
 have hbl:=hown.lt
 have hseq:SeqGives Fence.wide 2 Pg 143 #[.pointer (some ⟨w.heap.size,0,none⟩)] encZ (fun ss=>ss.Perm (intKeys D0)) (Maps.size D0) (w.alloc (.cells #[.map (some b)] 91)):=
  AnyZI.keys_gives (ρ :=Tryz.keysA_ren) {Tryz.keysA with} Fence.wide _ trivial rfl (by omega) w.heap.size b nn D0 _ (by simp) (by simp) (by
   obtain ⟨es,clock,hb,Ft,hs,hD⟩:=hown
   exact ⟨es,clock,(Below.heap_alloc _ _ b hbl).trans hb,Ft,hs,hD⟩)
 have cK:∀mb W,CallsIn Fence.wide 5 Pg 105 #[.map mb] W fun e w'=>e=.returned (.func (.func 143) #[] #[.pointer (some ⟨W.heap.size,0,none⟩)])/\w'=W.alloc (.cells #[.map mb] 91):=fun mb W=>AnyZI.keys_in Tryz.keysA Fence.wide 5 trivial rfl mb W
 have cS:=AnyZI.sorted_in Tryz.sortedA Fence.wide 5 trivial trivial trivial trivial rfl (by omega) (tg _) (enters_of Tryz.func142 (by kernel_rfl) rfl) 143 #[.pointer (some ⟨w.heap.size,0,none⟩)] trivial (enters_of Tryz.func143 (by kernel_rfl) rfl) _ _ hmax hbytes _ hseq
 change CallsIn _ _ Pg 104 _ _ _ at cS
 have hfK:Fence.wide.fn 105:=trivial
 have hfS:Fence.wide.fn 104:=trivial
 refine callsIn_of_wp Tryz.func57 rfl trivial ?_ rfl
 simp only[Tryz.ntmps57,List.size_toArray,List.length_cons,List.length_nil,Nat.reduceAdd,Nat.reduceSub,Array.replicate_succ,Array.replicate_zero,List.push_toArray,List.append_toArray,List.nil_append,List.cons_append]
 gi_wp2_with (first
  | (gi_at_call 105;refine (cK _ _).mono ?_;rintro e w' ⟨rfl,rfl⟩)
  | (gi_at_call 104;refine cS.mono ?_;rintro e w' ⟨v,ss,rfl,hS,hrow,hnil,hb⟩))
 go_ret
 exact ⟨v,ss,rfl,hS,ownsRow_base_a hrow (by simp),hnil,((Below.refl _ w).alloc (Nf _) _).trans (hb.mono (by simp))⟩
theorem su {w:World} {B:Nat} {v:Value} {zs:List Int} {m:Nat} (h:w.ownsRow B 2 1 v m (zs.map encZ)) (hm:m=zs.length):
  ∃a c,v=.slice a zs.length c/\∀i,i<zs.length->∃g,a=some ⟨g,0,none⟩/\B<=g/\g<w.heap.size/\w.cell? ⟨g,i,none⟩=some (.int .i64 (zs.getD i 0)):=by
 subst hm
 rcases h.2 with ⟨rfl,hz⟩|⟨g,cap,cur,rfl,hbase,hg,r1,r2,r3,r4⟩
 ·exact ⟨none,0,by rw[hz],fun i hi=>by omega⟩
 ·refine ⟨_,cap,rfl,fun i hi=>⟨g,rfl,hbase,(Array.getElem?_eq_some_iff.1 hg).1,?_⟩⟩
  have e:cur[i]? =some (encZ (zs.getD i 0)):=by
   have e1:cur.toList[i]? =(cur.toList.take (zs.length*1))[i]? :=by rw[List.getElem?_take_of_lt (by omega)]
   rw[r4] at e1
   rw[←Array.getElem?_toList,e1]
   simp[List.getD,hi]
  simp[World.cell?,hg,e,encZ]
theorem vx (B b n:Nat) (F:Nat->aj) (G:Nat->Nat) (w:World) (hR:eL F n) (hn:n<=12) (h:gC w B b n F G):
  Calls Pg 57 #[.map (some b)] w fun e w'=>∃a c,e=.returned (.slice a n c)/\(∀i,i<n->∃g,a=some ⟨g,0,none⟩/\w.heap.size<=g/\g<w'.heap.size/\w'.cell? ⟨g,i,none⟩=some (.int .i64 (F i).id))/\Below w.heap.size w w':=by
 have hs:Maps.size (DataW.map (gA (eo F G n)))=n:=by rw[rB,nf]
 refine (st b _ _ RP w h.map (by rw[hs];unfold maxLen;omega) (by rw[hs];omega)).mono ?_
 rintro e w' ⟨v,ss,rfl,hp,hrow,_,hb⟩
 rw[rA] at hp
 rw[oN (jw hR) hp] at hrow
 have hl:ss.length=((eo F G n).map (·.1)).length:=hp.length_eq
 obtain ⟨a,c,rfl,hc⟩:=su hrow hl
 have e1:((eo F G n).map (·.1)).length=n:=by simp[eo]
 rw[e1] at hc ⊢
 refine ⟨a,c,rfl,fun i hi=>?_,hb⟩
 obtain ⟨g,h1,h2,h3,h4⟩:=hc i hi
 refine ⟨g,h1,h2,h3,?_⟩
 rw[h4]
 simp[eo,List.getD,hi]
open Go.RowKit
set_option maxRecDepth 8000
theorem oO (x:Int) (w:World):(Instr.makeMap 91 (some (.int .i64 x))).run Pg w=.ok (.map (some w.heap.size)) (w.alloc (.map #[] 0)):=by
 simp[Instr.makeMap,run_underlying Tryz.underlying91,asInt,go_sem]
theorem gC.grow {wr w1:World} {B b k n:Nat} {F:Nat->aj} {G:Nat->Nat} (h:gC wr B b k F G) (hB:B<=wr.heap.size) (hR:eL F n) (hk:k<n)
  (hg:(wr.alloc (.cells #[.int .i64 (F k).id,.int .i64 (F k).up,.int .i64 (F k).limit,.int .i64 (F k).rate,.int .i64 (F k).target,.bool (F k).frozen,.int .i64 (F k).balance,.int .i64 (F k).carry] 30)).grownBy w1 (some b))
  (hown:w1.ownsMap Pg 2 RP b ((eo F G k).length+1) ((DataW.map (gA (eo F G k))).put (.int .i64 (F k).id) (.lit (.int .i64 wr.heap.size)))):
  gC w1 B b (k+1) F (fun i=>if i=k then wr.heap.size else G i):=by
 have hblt:=h.map.lt
 rw[sr] at hown
 ·refine ⟨h.base,?_,fun i hi=>?_,fun i j hi hj e=>?_⟩
  ·have e:eo F (fun i=>if i=k then wr.heap.size else G i) (k+1)=eo F G k++[((F k).id,wr.heap.size)]:=by
    rw[qo]
    congr 1
    ·exact gB fun i hi=>⟨rfl,if_neg (by omega)⟩
    ·simp
   unfold te
   rw[e,List.length_append]
   exact hown
  ·by_cases he:i=k
   ·subst he
    simp only[if_true]
    refine ⟨hB,by omega,?_⟩
    exact (bV.new wr (F i) 30).same (hg.block wr.heap.size (by simp) (by simp;omega))
   ·have hi':i<k:=by omega
    obtain ⟨h1,h2,h3⟩:=h.acc i hi'
    simp only[if_neg he]
    refine ⟨h1,h2,?_⟩
    have:=h3.2.2
    exact h3.same ((hg.block (G i) (by simp;omega) (by simp;exact h2)).trans (Below.heap_alloc _ _ _ this))
  ·by_cases hi':i=k <;>by_cases hj':j=k
   ·omega
   ·have:=(h.acc j (by omega)).2.2.2.2
    simp[hi',hj'] at e
    omega
   ·have:=(h.acc i (by omega)).2.2.2.2
    simp[hi',hj'] at e
    omega
   ·simp[hi',hj'] at e
    exact h.one i j (by omega) (by omega) e
 ·intro p hp
  unfold eo at hp
  obtain ⟨i,hi,rfl⟩:=List.mem_map.1 hp
  exact hR i k (by simpa using hi) hk
theorem ng (a:Option Addr) (n c:Nat) (F:Nat->aj) (w:World) (h:Fo w a n F) (hR:eL F n) (hn:n<=12) (hW:∀i,i<n->(Lit.int .i64 (F i).id).wf=true):
  Calls Pg 56 #[.slice a n c] w fun e w'=>e=.returned (.map (some w.heap.size))/\(∃G,gC w' w.heap.size w.heap.size n F G)/\Below w.heap.size w w':=by
 have H:=aa h
 have HR:=aa hR
 have HW:=aa hW
 clear h hR hW
 have hmm:=oO
 go_enter Tryz.func56,Tryz.ntmps56
 go_wp2
 go_loopw[11] (fun i wr=>∃k:Nat,k<=n/\i=.int .i64 k/\Hid (∃G,gC wr w.heap.size w.heap.size k F G)/\Hid (Below w.heap.size w wr)) (fun i _=>n-(eH i).toNat)
 case atStart=>
  refine ⟨0,Nat.zero_le _,rfl,⟨fun _=>0,⟨Nf _,World.ownsMap_made _ _ _ _,fun i hi=>by omega,fun i j hi=>by omega⟩⟩,(Below.refl _ _).alloc (Nf _) _⟩
 case round=>
  obtain ⟨k,hk,rfl,hL,hB⟩:=hrel
  by_cases hlt:k<n
  ·obtain ⟨G,hL⟩:=hL.out
   obtain ⟨b,o,rfl,hb,hA⟩:=(H.out.below hB.out).acc hlt
   obtain ⟨c0,c1,c2,c3,c4,c5,c6,c7⟩:=hA
   have hwf:=HW.out k hlt
   have hsz:=hB.out.size
   have hL':=aa hL
   have hown:Hid (te wr w.heap.size (eo F G k)):=hL.map
   clear hL
   go_wp2_with (first
    | (at_mapUpdate;refine wpList_mapUpdate_own _ rfl _ _ _ 91 rfl 2 95 rC Tryz.underlying91 RP w.heap.size _ _ rfl (World.ownsMap.alloc hown.out _) (by rw[nf];unfold maxLen;omega) _ _ (.int .i64 (F k).id) rfl rfl (Maps.keyOf_int_mk Tryz.underlying2 hwf) _ [] (tU _) ?_;intro w1 hown1 hgrow1)
    | go_in)
   go_roundw
   case rel=>exact ⟨k+1,by omega,by go_num,⟨_,hL'.out.grow hsz HR.out hlt hgrow1 hown1⟩,(hB.out.alloc hB.out.size _).grown hgrow1 (by simp;omega) (fun j hj=>by cases hj;exact Nf _)⟩
   case measure=>simp[eH];omega
  ·obtain rfl:k=n:=by omega
   go_wp2
   go_ret
   exact ⟨rfl,hL.out,hB.out⟩
open Go.RowKit
set_option maxRecDepth 8000
theorem th (w:World):(zeroValue 95).run Pg w=.ok (.pointer none) w:=by kernel_rfl
theorem gC.look {w:World} {B b n:Nat} {F:Nat->aj} {G:Nat->Nat} (h:gC w B b n F G) (hR:eL F n) {i:Nat} (hi:i<n) (hwf:(Lit.int .i64 (F i).id).wf=true):
  (Instr.lookup 91 (.map (some b)) (.int .i64 (F i).id) false).run Pg w=.ok (.pointer (some ⟨G i,0,none⟩)) w:=by
 obtain ⟨v,ps,hrun,hv⟩:=World.ownsMap.lookup h.map rC Tryz.underlying91 (th w) (zd:=.lit (.int .i64 (-1))) (zp:=[]) rfl (Maps.keyOf_int_mk Tryz.underlying2 hwf)
 rw[nc _ _ (jw hR) _ _ (rD hi)] at hv
 rw[hrun,td hv]
def ex (F:Nat->aj) (n:Nat):List aj:=(List.range n).map F
theorem jx (F:Nat->aj) (n:Nat):(ex F n).length=n:=by simp[ex]
theorem ni (F:Nat->aj) (n:Nat):ex F (n+1)=ex F n++[F n]:=by simp[ex,List.range_succ]
theorem rE (w:World) (a:aj):∀j u,(ab a)[j]? =some u->(w.alloc (.cells #[.int .i64 a.id,.int .i64 a.up,.int .i64 a.limit,.int .i64 a.rate,.int .i64 a.target,.bool a.frozen,.int .i64 a.balance,.int .i64 a.carry] 30)).cell? (Addr.add ⟨w.heap.size,0,none⟩ j)=some u:=by
 intro j u h
 have hj:j<8:=(List.getElem?_eq_some_iff.1 h).1
 have e:(w.alloc (.cells #[.int .i64 a.id,.int .i64 a.up,.int .i64 a.limit,.int .i64 a.rate,.int .i64 a.target,.bool a.frozen,.int .i64 a.balance,.int .i64 a.carry] 30)).heap[w.heap.size]? =some (.cells #[.int .i64 a.id,.int .i64 a.up,.int .i64 a.limit,.int .i64 a.rate,.int .i64 a.target,.bool a.frozen,.int .i64 a.balance,.int .i64 a.carry] 30):=(MapKept.heap_alloc w _).1
 have ea:Addr.add ⟨w.heap.size,0,none⟩ j=⟨w.heap.size,j,none⟩:=by
  unfold Addr.add
  by_cases h0:j=0 <;>simp[h0]
 rw[ea,←h]
 unfold World.cell?
 simp only[e]
 simp[ab]
theorem fU (a:aj):∀u ∈ ab a,u.oneCell'=true:=by
 intro u hu
 simp[ab] at hu
 rcases hu with rfl|rfl|rfl|rfl|rfl|rfl|rfl|rfl <;>rfl
theorem ij (B b n:Nat) (F:Nat->aj) (G:Nat->Nat) (w:World) (hR:eL F n) (hn:n<=12) (hW:∀i,i<n->(Lit.int .i64 (F i).id).wf=true) (h:gC w B b n F G):
  Calls Pg 59 #[.map (some b)] w fun e w'=>∃v,e=.returned v/\AL w' w.heap.size v (ex F n)/\Below w.heap.size w w':=by
 have H:=aa h
 have HR:=aa hR
 have HW:=aa hW
 clear h hR hW
 obtain ⟨i0,hi,hz0,hz1,hz2⟩:=info_parts dq
 go_enter Tryz.func59,Tryz.ntmps59
 go_wp2_with (go_at_call 57;refine (vx B b n F G _ HR.out hn H.out).mono ?_;rintro e w1 ⟨a,c,rfl,hI,B1⟩)
 have HI:=aa hI
 have B1':=aa B1
 clear hI B1
 go_wp2
 go_loopw[9,3] (fun i v wr=>∃k:Nat,k<=n/\i=.int .i64 k/\Hid (AL wr w1.heap.size v (ex F k))/\Hid (Below w1.heap.size w1 wr)) (fun i _ _=>n-(eH i).toNat)
 case atStart=>exact ⟨0,Nat.zero_le _,rfl,World.ownsRow_nil _ _ _ _,Below.refl _ _⟩
 case round=>
  obtain ⟨k,hk,rfl,hA,hB⟩:=hrel
  by_cases hlt:k<n
  ·obtain ⟨g,rfl,hg1,hg2,hc⟩:=HI.out k hlt
   have hc':wr.cell? ⟨g,k,none⟩=some (.int .i64 (F k).id):=(hB.out.cell (p:=⟨g,k,none⟩) hg2).trans hc
   clear hc
   have hL:gC wr B b n F G:=(H.out.below B1'.out (Nf _)).below hB.out (Nf _)
   have hlook:=hL.look HR.out hlt (HW.out k hlt)
   obtain ⟨c0,c1,c2,c3,c4,c5,c6,c7⟩:=(hL.acc k hlt).2.2.1
   have hlen:Hid ((ex F k).length=k):=jx F k
   have hGl:=(hL.acc k hlt).2.2.2.2
   clear hL
   go_wp2_with (at_builtin;refine wpList_append_own _ rfl _ _ 24 rfl w1.heap.size 30 i0 _ 8 64 Tryz.underlying24 hi hz0 hz1 hz2 rfl (by decide) _ _ _ rfl (World.ownsRow.alloc hA.out _) ⟨_,0,none⟩ 1 1 (ab (F k)) rfl rfl (rE wr (F k)) (fU _) (by rw[hlen.out];unfold maxLen;omega) (by rw[hlen.out];omega) (by have:=hB.out.size;simp;omega) ?_;intro v' w2 hown hgrow _)
   go_roundw
   case rel=>
    refine ⟨k+1,by omega,by go_num,?_,?_⟩
    ·show AL _ _ _ _
     unfold AL
     rw[ni,List.flatMap_append,List.length_append]
     simpa using hown
    ·exact (hB.out.alloc hB.out.size _).grown hgrow (by have:=hB.out.size;simp;omega) (fun j hj=>(World.ownsRow.lt hA.out _ hj).1)
   case measure=>simp[eH];omega
  ·obtain rfl:k=n:=by omega
   go_wp2
   go_ret
   exact ⟨_,rfl,⟨hA.out.1,hA.out.2.elim Or.inl (fun ⟨g,cap,cur,hv,hg,r⟩=>Or.inr ⟨g,cap,cur,hv,Nat.le_trans B1'.out.size hg,r⟩)⟩,B1'.out.trans (hB.out.mono B1'.out.size)⟩
end Go.Proofs.YtghkbhggopiajaaGreatDoor
