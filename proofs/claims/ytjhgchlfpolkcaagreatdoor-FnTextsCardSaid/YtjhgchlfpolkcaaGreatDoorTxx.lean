/- Texts of ops of a bank. -/
import Derived.Test.YtjhgchlfpolkcaaGreatDoorBasx
import Derived.Test.YtjhgchlfpolkcaaGreatDoorBosx
import Derived.Deep.RegionWith
import Derived.BigRegion
namespace Go.Proofs.YtjhgchlfpolkcaaGreatDoor
open Value renaming int → Ii,slice → Sl
open IntKind renaming i64 → Jj
open Nat renaming le_refl → Nf
open Go.RowKit.Below renaming refl → Bf
open Go.Proofs.Tryz renaming prog → Pg
set_option maxHeartbeats 4000000
open Go.RowKit
set_option maxRecDepth 8000
def bm (K:Int) (x:bB) (o:am) (n:Int):ByteArray×List Int:=
 if K=20 then (⟨#[111,114,100,101,114]⟩,[o.id,o.src,o.dst,o.amount,o.first,o.every,o.times]) else if K=21 then (⟨#[99,97,110,99,101,108]⟩,[n]) else if K=22 then (⟨#[100,97,121]⟩,[])
 else if x.k=1 then (⟨#[111,112,101,110]⟩,[x.i,x.t,x.m,x.r])
 else if x.k=2 then (⟨#[102,114,101,101,122,101]⟩,[x.i])
 else if x.k=3 then (⟨#[116,104,97,119]⟩,[x.i])
 else if x.k=4 then (⟨#[99,108,111,115,101]⟩,[x.i])
 else if x.k=5 then (⟨#[112,117,116]⟩,[x.i,x.m])
 else if x.k=6 then (⟨#[116,97,107,101]⟩,[x.i,x.m])
 else if x.k=7 then (⟨#[112,97,121]⟩,[x.i,x.t,x.m])
 else if x.k=8 then (⟨#[108,105,109,105,116]⟩,[x.i,x.m])
 else if x.k=9 then (⟨#[104,97,110,103]⟩,[x.i,x.t])
 else if x.k=10 then (⟨#[116,97,114,103,101,116]⟩,[x.i,x.m])
 else (⟨#[]⟩,[])
def aC (w:World) (R:Nat) (wd:ByteArray) (ps:List Nat) (e:Ending) (w':World):Prop:=
 ∃a c,e=.returned (.tuple #[.string wd,Sl a ps.length c])/\eh w' a R ps/\Below w.heap.size w w'
theorem mc (R:Nat) (K n:Int) (x:bB) (o:am) (w:World) (h:aG w R K x o n) (hk:x.k=1):
  Calls Pg 70 #[.pointer (some ⟨R,1,none⟩)] w fun e w'=>aC w R ⟨#[111,112,101,110]⟩ [2,3,4,5] e w':=by
 obtain ⟨⟨c0,c1,c2,c3,c4,c5,_⟩,hR⟩:=h
 have FI:Hid (aC w R ⟨#[111,112,101,110]⟩ [2,3,4,5] (.returned (.tuple #[.string ⟨#[111,112,101,110]⟩,Sl (some ⟨w.heap.size,0,none⟩) 4 4])) ((w.alloc (.cells #[.pointer (some ⟨R,2,none⟩),.pointer (some ⟨R,3,none⟩),.pointer (some ⟨R,4,none⟩),.pointer (some ⟨R,5,none⟩)] 57)).drew)):=
  ⟨_,_,rfl,eh.lit hR [2,3,4,5],((Bf _ _).alloc (Nf _) _).drew⟩
 rw[hk] at c1
 clear hk
 go_enter Tryz.func70,Tryz.ntmps70
 go_wp2_with fail
 go_region
 all_goals go_wp2
 all_goals refine bodyPost_ret (v:=.tuple #[.string ⟨#[111,112,101,110]⟩,Sl (some ⟨w.heap.size,0,none⟩) 4 4]) (by simp[results,Tryz.results70,go_sem]) rfl ?_
 all_goals exact FI.out
theorem md (R:Nat) (K n:Int) (x:bB) (o:am) (w:World) (h:aG w R K x o n) (hk:x.k=2):
  Calls Pg 70 #[.pointer (some ⟨R,1,none⟩)] w fun e w'=>aC w R ⟨#[102,114,101,101,122,101]⟩ [2] e w':=by
 obtain ⟨⟨c0,c1,c2,c3,c4,c5,_⟩,hR⟩:=h
 have FI:Hid (aC w R ⟨#[102,114,101,101,122,101]⟩ [2] (.returned (.tuple #[.string ⟨#[102,114,101,101,122,101]⟩,Sl (some ⟨w.heap.size,0,none⟩) 1 1])) ((w.alloc (.cells #[.pointer (some ⟨R,2,none⟩)] 57)).drew)):=
  ⟨_,_,rfl,eh.lit hR [2],((Bf _ _).alloc (Nf _) _).drew⟩
 rw[hk] at c1
 clear hk
 go_enter Tryz.func70,Tryz.ntmps70
 go_wp2_with fail
 go_region
 all_goals go_wp2
 all_goals refine bodyPost_ret (v:=.tuple #[.string ⟨#[102,114,101,101,122,101]⟩,Sl (some ⟨w.heap.size,0,none⟩) 1 1]) (by simp[results,Tryz.results70,go_sem]) rfl ?_
 all_goals exact FI.out
theorem me (R:Nat) (K n:Int) (x:bB) (o:am) (w:World) (h:aG w R K x o n) (hk:x.k=3):
  Calls Pg 70 #[.pointer (some ⟨R,1,none⟩)] w fun e w'=>aC w R ⟨#[116,104,97,119]⟩ [2] e w':=by
 obtain ⟨⟨c0,c1,c2,c3,c4,c5,_⟩,hR⟩:=h
 have FI:Hid (aC w R ⟨#[116,104,97,119]⟩ [2] (.returned (.tuple #[.string ⟨#[116,104,97,119]⟩,Sl (some ⟨w.heap.size,0,none⟩) 1 1])) ((w.alloc (.cells #[.pointer (some ⟨R,2,none⟩)] 57)).drew)):=
  ⟨_,_,rfl,eh.lit hR [2],((Bf _ _).alloc (Nf _) _).drew⟩
 rw[hk] at c1
 clear hk
 go_enter Tryz.func70,Tryz.ntmps70
 go_wp2_with fail
 go_region
 all_goals go_wp2
 all_goals refine bodyPost_ret (v:=.tuple #[.string ⟨#[116,104,97,119]⟩,Sl (some ⟨w.heap.size,0,none⟩) 1 1]) (by simp[results,Tryz.results70,go_sem]) rfl ?_
 all_goals exact FI.out
theorem mf (R:Nat) (K n:Int) (x:bB) (o:am) (w:World) (h:aG w R K x o n) (hk:x.k=4):
  Calls Pg 70 #[.pointer (some ⟨R,1,none⟩)] w fun e w'=>aC w R ⟨#[99,108,111,115,101]⟩ [2] e w':=by
 obtain ⟨⟨c0,c1,c2,c3,c4,c5,_⟩,hR⟩:=h
 have FI:Hid (aC w R ⟨#[99,108,111,115,101]⟩ [2] (.returned (.tuple #[.string ⟨#[99,108,111,115,101]⟩,Sl (some ⟨w.heap.size,0,none⟩) 1 1])) ((w.alloc (.cells #[.pointer (some ⟨R,2,none⟩)] 57)).drew)):=
  ⟨_,_,rfl,eh.lit hR [2],((Bf _ _).alloc (Nf _) _).drew⟩
 rw[hk] at c1
 clear hk
 go_enter Tryz.func70,Tryz.ntmps70
 go_wp2_with fail
 go_region
 all_goals go_wp2
 all_goals refine bodyPost_ret (v:=.tuple #[.string ⟨#[99,108,111,115,101]⟩,Sl (some ⟨w.heap.size,0,none⟩) 1 1]) (by simp[results,Tryz.results70,go_sem]) rfl ?_
 all_goals exact FI.out
theorem mg (R:Nat) (K n:Int) (x:bB) (o:am) (w:World) (h:aG w R K x o n) (hk:x.k=5):
  Calls Pg 70 #[.pointer (some ⟨R,1,none⟩)] w fun e w'=>aC w R ⟨#[112,117,116]⟩ [2,4] e w':=by
 obtain ⟨⟨c0,c1,c2,c3,c4,c5,_⟩,hR⟩:=h
 have FI:Hid (aC w R ⟨#[112,117,116]⟩ [2,4] (.returned (.tuple #[.string ⟨#[112,117,116]⟩,Sl (some ⟨w.heap.size,0,none⟩) 2 2])) ((w.alloc (.cells #[.pointer (some ⟨R,2,none⟩),.pointer (some ⟨R,4,none⟩)] 57)).drew)):=
  ⟨_,_,rfl,eh.lit hR [2,4],((Bf _ _).alloc (Nf _) _).drew⟩
 rw[hk] at c1
 clear hk
 go_enter Tryz.func70,Tryz.ntmps70
 go_wp2_with fail
 go_region
 all_goals go_wp2
 all_goals refine bodyPost_ret (v:=.tuple #[.string ⟨#[112,117,116]⟩,Sl (some ⟨w.heap.size,0,none⟩) 2 2]) (by simp[results,Tryz.results70,go_sem]) rfl ?_
 all_goals exact FI.out
theorem mh (R:Nat) (K n:Int) (x:bB) (o:am) (w:World) (h:aG w R K x o n) (hk:x.k=6):
  Calls Pg 70 #[.pointer (some ⟨R,1,none⟩)] w fun e w'=>aC w R ⟨#[116,97,107,101]⟩ [2,4] e w':=by
 obtain ⟨⟨c0,c1,c2,c3,c4,c5,_⟩,hR⟩:=h
 have FI:Hid (aC w R ⟨#[116,97,107,101]⟩ [2,4] (.returned (.tuple #[.string ⟨#[116,97,107,101]⟩,Sl (some ⟨w.heap.size,0,none⟩) 2 2])) ((w.alloc (.cells #[.pointer (some ⟨R,2,none⟩),.pointer (some ⟨R,4,none⟩)] 57)).drew)):=
  ⟨_,_,rfl,eh.lit hR [2,4],((Bf _ _).alloc (Nf _) _).drew⟩
 rw[hk] at c1
 clear hk
 go_enter Tryz.func70,Tryz.ntmps70
 go_wp2_with fail
 go_region
 all_goals go_wp2
 all_goals refine bodyPost_ret (v:=.tuple #[.string ⟨#[116,97,107,101]⟩,Sl (some ⟨w.heap.size,0,none⟩) 2 2]) (by simp[results,Tryz.results70,go_sem]) rfl ?_
 all_goals exact FI.out
theorem mj (R:Nat) (K n:Int) (x:bB) (o:am) (w:World) (h:aG w R K x o n) (hk:x.k=7):
  Calls Pg 70 #[.pointer (some ⟨R,1,none⟩)] w fun e w'=>aC w R ⟨#[112,97,121]⟩ [2,3,4] e w':=by
 obtain ⟨⟨c0,c1,c2,c3,c4,c5,_⟩,hR⟩:=h
 have FI:Hid (aC w R ⟨#[112,97,121]⟩ [2,3,4] (.returned (.tuple #[.string ⟨#[112,97,121]⟩,Sl (some ⟨w.heap.size,0,none⟩) 3 3])) ((w.alloc (.cells #[.pointer (some ⟨R,2,none⟩),.pointer (some ⟨R,3,none⟩),.pointer (some ⟨R,4,none⟩)] 57)).drew)):=
  ⟨_,_,rfl,eh.lit hR [2,3,4],((Bf _ _).alloc (Nf _) _).drew⟩
 rw[hk] at c1
 clear hk
 go_enter Tryz.func70,Tryz.ntmps70
 go_wp2_with fail
 go_region
 all_goals go_wp2
 all_goals refine bodyPost_ret (v:=.tuple #[.string ⟨#[112,97,121]⟩,Sl (some ⟨w.heap.size,0,none⟩) 3 3]) (by simp[results,Tryz.results70,go_sem]) rfl ?_
 all_goals exact FI.out
theorem ml (R:Nat) (K n:Int) (x:bB) (o:am) (w:World) (h:aG w R K x o n) (hk:x.k=8):
  Calls Pg 70 #[.pointer (some ⟨R,1,none⟩)] w fun e w'=>aC w R ⟨#[108,105,109,105,116]⟩ [2,4] e w':=by
 obtain ⟨⟨c0,c1,c2,c3,c4,c5,_⟩,hR⟩:=h
 have FI:Hid (aC w R ⟨#[108,105,109,105,116]⟩ [2,4] (.returned (.tuple #[.string ⟨#[108,105,109,105,116]⟩,Sl (some ⟨w.heap.size,0,none⟩) 2 2])) ((w.alloc (.cells #[.pointer (some ⟨R,2,none⟩),.pointer (some ⟨R,4,none⟩)] 57)).drew)):=
  ⟨_,_,rfl,eh.lit hR [2,4],((Bf _ _).alloc (Nf _) _).drew⟩
 rw[hk] at c1
 clear hk
 go_enter Tryz.func70,Tryz.ntmps70
 go_wp2_with fail
 go_region
 all_goals go_wp2
 all_goals refine bodyPost_ret (v:=.tuple #[.string ⟨#[108,105,109,105,116]⟩,Sl (some ⟨w.heap.size,0,none⟩) 2 2]) (by simp[results,Tryz.results70,go_sem]) rfl ?_
 all_goals exact FI.out
theorem mm (R:Nat) (K n:Int) (x:bB) (o:am) (w:World) (h:aG w R K x o n) (hk:x.k=9):
  Calls Pg 70 #[.pointer (some ⟨R,1,none⟩)] w fun e w'=>aC w R ⟨#[104,97,110,103]⟩ [2,3] e w':=by
 obtain ⟨⟨c0,c1,c2,c3,c4,c5,_⟩,hR⟩:=h
 have FI:Hid (aC w R ⟨#[104,97,110,103]⟩ [2,3] (.returned (.tuple #[.string ⟨#[104,97,110,103]⟩,Sl (some ⟨w.heap.size,0,none⟩) 2 2])) ((w.alloc (.cells #[.pointer (some ⟨R,2,none⟩),.pointer (some ⟨R,3,none⟩)] 57)).drew)):=
  ⟨_,_,rfl,eh.lit hR [2,3],((Bf _ _).alloc (Nf _) _).drew⟩
 rw[hk] at c1
 clear hk
 go_enter Tryz.func70,Tryz.ntmps70
 go_wp2_with fail
 go_region
 all_goals go_wp2
 all_goals refine bodyPost_ret (v:=.tuple #[.string ⟨#[104,97,110,103]⟩,Sl (some ⟨w.heap.size,0,none⟩) 2 2]) (by simp[results,Tryz.results70,go_sem]) rfl ?_
 all_goals exact FI.out
theorem kp (R:Nat) (K n:Int) (x:bB) (o:am) (w:World) (h:aG w R K x o n) (hk:x.k=10):
  Calls Pg 70 #[.pointer (some ⟨R,1,none⟩)] w fun e w'=>aC w R ⟨#[116,97,114,103,101,116]⟩ [2,4] e w':=by
 obtain ⟨⟨c0,c1,c2,c3,c4,c5,_⟩,hR⟩:=h
 have FI:Hid (aC w R ⟨#[116,97,114,103,101,116]⟩ [2,4] (.returned (.tuple #[.string ⟨#[116,97,114,103,101,116]⟩,Sl (some ⟨w.heap.size,0,none⟩) 2 2])) ((w.alloc (.cells #[.pointer (some ⟨R,2,none⟩),.pointer (some ⟨R,4,none⟩)] 57)).drew)):=
  ⟨_,_,rfl,eh.lit hR [2,4],((Bf _ _).alloc (Nf _) _).drew⟩
 rw[hk] at c1
 clear hk
 go_enter Tryz.func70,Tryz.ntmps70
 go_wp2_with fail
 go_region
 all_goals go_wp2
 all_goals refine bodyPost_ret (v:=.tuple #[.string ⟨#[116,97,114,103,101,116]⟩,Sl (some ⟨w.heap.size,0,none⟩) 2 2]) (by simp[results,Tryz.results70,go_sem]) rfl ?_
 all_goals exact FI.out
theorem sk (R:Nat) (K n:Int) (x:bB) (o:am) (w:World) (h:aG w R K x o n):
  Calls Pg 25 #[.pointer (some ⟨R,6,none⟩)] w fun e w'=>∃a c,e=.returned (Sl a 7 c)/\eh w' a R [6,7,8,9,10,11,12]/\Below w.heap.size w w':=by
 obtain ⟨⟨_,_,_,_,_,_,c6,c7,c8,c9,c10,c11,c12,_⟩,hR⟩:=h
 have FI:Hid (eh ((w.alloc (.cells #[.pointer (some ⟨R,6,none⟩),.pointer (some ⟨R,7,none⟩),.pointer (some ⟨R,8,none⟩),.pointer (some ⟨R,9,none⟩),.pointer (some ⟨R,10,none⟩),.pointer (some ⟨R,11,none⟩),.pointer (some ⟨R,12,none⟩)] 57)).drew) (some ⟨w.heap.size,0,none⟩) R [6,7,8,9,10,11,12]/\Below w.heap.size w ((w.alloc (.cells #[.pointer (some ⟨R,6,none⟩),.pointer (some ⟨R,7,none⟩),.pointer (some ⟨R,8,none⟩),.pointer (some ⟨R,9,none⟩),.pointer (some ⟨R,10,none⟩),.pointer (some ⟨R,11,none⟩),.pointer (some ⟨R,12,none⟩)] 57)).drew)):=
  ⟨eh.lit hR [6,7,8,9,10,11,12],((Bf _ _).alloc (Nf _) _).drew⟩
 go_enter Tryz.func25,Tryz.ntmps25
 go_wp2_with fail
 go_region
 all_goals go_wp2
 all_goals go_ret
 all_goals exact ⟨_,_,rfl,FI.out.1,FI.out.2⟩
theorem oi (R:Nat) (n:Int) (x:bB) (o:am) (w:World) (h:aG w R 20 x o n):
  Calls Pg 33 #[.pointer (some ⟨R,0,none⟩)] w fun e w'=>aC w R ⟨#[111,114,100,101,114]⟩ [6,7,8,9,10,11,12] e w':=by
 have H:Hid (aG w R 20 x o n):=h
 obtain ⟨⟨c0,_⟩,hR⟩:=h
 go_enter Tryz.func33,Tryz.ntmps33
 go_wp2_with fail
 refine (sk R 20 n x o w H.out).mono ?_
 rintro e w1 ⟨a,c,rfl,P1,B1⟩
 have FI:Hid (aC w R ⟨#[111,114,100,101,114]⟩ [6,7,8,9,10,11,12] (.returned (.tuple #[.string ⟨#[111,114,100,101,114]⟩,Sl a 7 c])) w1):=⟨a,c,rfl,P1,B1⟩
 clear P1 B1 H
 go_wp2
 refine bodyPost_ret (v:=.tuple #[.string ⟨#[111,114,100,101,114]⟩,Sl a 7 c]) (by simp[results,Tryz.results33,go_sem]) rfl ?_
 exact FI.out
theorem oj (R:Nat) (n:Int) (x:bB) (o:am) (w:World) (h:aG w R 21 x o n):
  Calls Pg 33 #[.pointer (some ⟨R,0,none⟩)] w fun e w'=>aC w R ⟨#[99,97,110,99,101,108]⟩ [13] e w':=by
 obtain ⟨⟨c0,_,_,_,_,_,_,_,_,_,_,_,_,c13⟩,hR⟩:=h
 have FI:Hid (aC w R ⟨#[99,97,110,99,101,108]⟩ [13] (.returned (.tuple #[.string ⟨#[99,97,110,99,101,108]⟩,Sl (some ⟨w.heap.size,0,none⟩) 1 1])) ((w.alloc (.cells #[.pointer (some ⟨R,13,none⟩)] 57)).drew)):=
  ⟨_,_,rfl,eh.lit hR [13],((Bf _ _).alloc (Nf _) _).drew⟩
 go_enter Tryz.func33,Tryz.ntmps33
 go_wp2_with fail
 go_region
 all_goals go_wp2
 all_goals refine bodyPost_ret (v:=.tuple #[.string ⟨#[99,97,110,99,101,108]⟩,Sl (some ⟨w.heap.size,0,none⟩) 1 1]) (by simp[results,Tryz.results33,go_sem]) rfl ?_
 all_goals exact FI.out
theorem ol (R:Nat) (n:Int) (x:bB) (o:am) (w:World) (h:aG w R 22 x o n):
  Calls Pg 33 #[.pointer (some ⟨R,0,none⟩)] w fun e w'=>aC w R ⟨#[100,97,121]⟩ [] e w':=by
 obtain ⟨⟨c0,_⟩,hR⟩:=h
 have FI:Hid (aC w R ⟨#[100,97,121]⟩ [] (.returned (.tuple #[.string ⟨#[100,97,121]⟩,Sl none 0 0])) w):=⟨_,_,rfl,Or.inl rfl,Bf _ _⟩
 go_enter Tryz.func33,Tryz.ntmps33
 go_wp2
 refine bodyPost_ret (v:=.tuple #[.string ⟨#[100,97,121]⟩,Sl none 0 0]) (by simp[results,Tryz.results33,go_sem]) rfl ?_
 exact FI.out
theorem bC (R:Nat) (n:Int) (x:bB) (o:am) (w:World) (h:aG w R 19 x o n) (wd:ByteArray) (ps:List Nat) (hf:∀w,aG w R 19 x o n->Calls Pg 70 #[.pointer (some ⟨R,1,none⟩)] w fun e w'=>aC w R wd ps e w'):
  Calls Pg 33 #[.pointer (some ⟨R,0,none⟩)] w fun e w'=>aC w R wd ps e w':=by
 have H:Hid (aG w R 19 x o n):=h
 have HF:Hid (∀w,aG w R 19 x o n->Calls Pg 70 #[.pointer (some ⟨R,1,none⟩)] w fun e w'=>aC w R wd ps e w'):=hf
 obtain ⟨⟨c0,_⟩,hR⟩:=h
 clear hf
 go_enter Tryz.func33,Tryz.ntmps33
 go_wp2_with fail
 refine (HF.out w H.out).mono ?_
 rintro e w1 ⟨a,c,rfl,P1,B1⟩
 have FI:Hid (aC w R wd ps (.returned (.tuple #[.string wd,Sl a ps.length c])) w1):=⟨a,c,rfl,P1,B1⟩
 clear P1 B1 H HF
 generalize ps.length=q at*
 go_wp2
 refine bodyPost_ret (v:=.tuple #[.string wd,Sl a q c]) (by simp[results,Tryz.results33,go_sem]) rfl ?_
 exact FI.out
end Go.Proofs.YtjhgchlfpolkcaaGreatDoor
