/- Ran of the program. -/
import Derived.Test.YtghkbhggopiajaaGreatDoorRunKe
namespace Go.Proofs.YtghkbhggopiajaaGreatDoor
open Go.RowKit
set_option maxRecDepth 8000
set_option linter.unusedVariables false
theorem ran_head (a b:Option Addr) (c d:Nat) (L:List Acc) (O:List Ord) (k:Bk) (K n:Int) (x:OpF) (o:Ord) (w:World):∃W0,W0=((w.alloc (.cells #[.int .i64 k.day,.slice a L.length c,.slice b O.length d,.int .i64 k.inn,.int .i64 k.out,.int .i64 k.posted,.int .i64 k.missed] 38)).alloc (.cells #[.int .i64 K,.int .i64 x.k,.int .i64 x.i,.int .i64 x.t,.int .i64 x.m,.int .i64 x.r,.int .i64 o.id,.int .i64 o.src,.int .i64 o.dst,.int .i64 o.amount,.int .i64 o.first,.int .i64 o.every,.int .i64 o.times,.int .i64 n] 51)).alloc (.cells #[.int .i64 0,.slice none 0 0,.slice none 0 0,.int .i64 0,.int .i64 0,.int .i64 0,.int .i64 0] 38)/\W0.heap.size=w.heap.size+1+1+1/\Below w.heap.size w W0/\BxK W0 w.heap.size (.slice a L.length c) (.slice b O.length d) k/\Bx14 W0 (w.heap.size+1) K x o n/\BxZ W0 (w.heap.size+1+1):=by
 refine ⟨_,rfl,by simp,(((Below.refl _ _).alloc (Nat.le_refl _) _).alloc (by simp) _).alloc (by simp;omega) _,((Box7.new w _ _ _ _ _ _ _ 38).kept ((Below.refl _ _).alloc (Nat.le_refl _) _) (by simp)).kept ((Below.refl _ _).alloc (Nat.le_refl _) _) (by simp;omega),?_,?_⟩
 ·have:=Bx14.new (w.alloc (.cells #[.int .i64 k.day,.slice a L.length c,.slice b O.length d,.int .i64 k.inn,.int .i64 k.out,.int .i64 k.posted,.int .i64 k.missed] 38)) K x o n 51
  rw[World.size_alloc] at this
  exact this.kept ((Below.refl _ _).alloc (Nat.le_refl _) _) (by simp)
 ·have:=Box7.new ((w.alloc (.cells #[.int .i64 k.day,.slice a L.length c,.slice b O.length d,.int .i64 k.inn,.int .i64 k.out,.int .i64 k.posted,.int .i64 k.missed] 38)).alloc (.cells #[.int .i64 K,.int .i64 x.k,.int .i64 x.i,.int .i64 x.t,.int .i64 x.m,.int .i64 x.r,.int .i64 o.id,.int .i64 o.src,.int .i64 o.dst,.int .i64 o.amount,.int .i64 o.first,.int .i64 o.every,.int .i64 o.times,.int .i64 n] 51)) (.int .i64 0) (.slice none 0 0) (.slice none 0 0) (.int .i64 0) (.int .i64 0) (.int .i64 0) (.int .i64 0) 38
  simp only[World.size_alloc] at this
  exact this
theorem ranS_no {L:List Acc} {O:List Ord} {k:Bk} {K n:Int} {x:OpF} {o:Ord} (h:(ranS L O k K x o n).code≠0):ranS L O k K x o n=⟨(ranS L O k K x o n).code,L,O,k⟩:=by
 unfold ranS finR at h ⊢
 split
 ·rename_i h0
  rw[if_pos h0] at h
  split
  ·rename_i h1
   rw[if_pos h1] at h
   exact absurd h0 h
  ·rfl
 ·rfl
theorem ranS_ok {L:List Acc} {O:List Ord} {k:Bk} {K n:Int} {x:OpF} {o:Ord} (h:(ranS L O k K x o n).code=0):(ranS L O k K x o n).ok:=by
 unfold ranS finR at h ⊢
 split
 ·rename_i h0
  rw[if_pos h0] at h
  split
  ·assumption
  ·rename_i h1
   rw[if_neg h1] at h
   simp at h
 ·rename_i h0
  rw[if_neg h0] at h
  exact absurd h h0
theorem ranS_bank {L:List Acc} {O:List Ord} {k:Bk} (K n:Int) (x:OpF) (o:Ord) (hb:bankOk (FL L) L.length (OrdF O) O.length k):(ranS L O k K x o n).ok:=by
 by_cases h:(ranS L O k K x o n).code=0
 ·exact ranS_ok h
 ·rw[ranS_no h];exact hb
end Go.Proofs.YtghkbhggopiajaaGreatDoor
