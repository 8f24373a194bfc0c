/- The draws of forests with an account's id, and the laws' own look at the code's length. -/
import Derived.Test.YtjhgchlfpolkcaaGreatDoorRdsx
import Derived.Laws.Concat
import Derived.Deep.RegionWith
namespace Go.Proofs.YtjhgchlfpolkcaaGreatDoor
section
open Go.RowKit
theorem iP (a:Option Addr) (len cap:Nat) (w:World) (hm:len<=9223372036854775807)
  (hz:∀i:Nat,i<len->∃(b off:Nat) (z:Int),a=some ⟨b,off,none⟩/\b<w.heap.size/\w.cell? ⟨b,off+i,none⟩=some (.int .u8 z)/\0<=z/\z<=255):
  Calls Tryz.prog 19 #[.slice a len cap] w fun e w'=>e=.returned (.pointer (some ⟨w.heap.size,0,none⟩))/\Rd w' w.heap.size a len cap/\Below w.heap.size w w':=by
 have HZ:Hid (∀i:Nat,i<len->∃(b off:Nat) (z:Int),a=some ⟨b,off,none⟩/\b<w.heap.size/\w.cell? ⟨b,off+i,none⟩=some (.int .u8 z)/\0<=z/\z<=255):=hz
 clear hz
 go_enter Tryz.func19,Tryz.ntmps19
 go_wp2
 go_ret
 refine ⟨rfl,⟨by simp[go_sem],⟨0,Nat.zero_le _,by simp[go_sem]⟩,by simp[go_sem],by simp,hm,fun i hi=>?_⟩,(Below.refl _ _).alloc (Nat.le_refl _) _⟩
 obtain ⟨b,off,z,ha,hb,hc,h⟩:=HZ.out i hi
 exact ⟨b,off,z,ha,hb,by rw[World.cell?_alloc_lt _ _ _ (by exact hb)];exact hc,h⟩
end
section
open Go.RowKit
set_option maxRecDepth 8000
theorem AL.stp {B Bs:Nat} {w w':World} {v:Value} {L:List al} (h:AL w Bs v L) (hs:an B w w') (hB:B<Bs):AL w' Bs v L:=by
 refine World.ownsRow.kept (row:=some B) h ⟨hs.os,hs.tape,hs.output,hs.size,fun k hk hn=>hs.block k hk (fun e=>hn (by rw[e]))⟩ (Or.inr ?_)
 intro e
 have:=(World.ownsRow.lt h B e).1
 omega
end
section
open Go.RowKit
theorem kF (w:World) (ys:List ByteArray) (i:Nat) (hi:i<ys.length):(w.alloc (.cells (ys.map Value.string).toArray 9)).cell? ⟨w.heap.size,i,none⟩=some (.string ys[i]):=by
 rw[World.cell?_alloc_mark]
 simp[List.getElem?_eq_getElem hi]
def kf:List ByteArray:=[⟨#[48]⟩,⟨#[49]⟩,⟨#[32]⟩,⟨#[45]⟩,⟨#[57]⟩,⟨#[120]⟩]
theorem qo:∀y ∈ kf,y.size=1:=by
 intro y hy
 simp only[kf,List.mem_cons,List.not_mem_nil,or_false] at hy
 rcases hy with e|e|e|e|e|e <;>subst e <;>decide
def kG:List ByteArray:=[⟨#[32]⟩,⟨#[48]⟩,⟨#[10]⟩]
theorem rK:∀y ∈ kG,y.size=1:=by
 intro y hy
 simp only[kG,List.mem_cons,List.not_mem_nil,or_false] at hy
 rcases hy with e|e|e <;>subst e <;>decide
theorem ti (W:World) (x y:ByteArray) (hx:x.size<=100000) (hy:y.size<=100000):(Op.stringOp .add x y).run Tryz.prog W=.ok (.string (x++y)) W:=run_string_add_sum W x y (by omega)
theorem Rd.drewd {w:World} {B:Nat} {a:Option Addr} {len cap:Nat} (h:Rd w B a len cap):Rd w.drew B a len cap:=h
theorem an.drewd {B:Nat} {a w:World} (h:an B a w):an B a w.drew:=⟨h.os,h.tape,h.output,h.size,h.block⟩
set_option maxHeartbeats 4000000 in
theorem oG (B : Nat) (a : Option Addr) (len cap : Nat) (s : ByteArray) (w : World) (h : Rd w B a len cap) (hs : s.size <= 10000) :
    Calls Tryz.prog 49 #[.pointer (some ⟨B,0,none⟩),.string s] w fun e w'=>∃y:ByteArray,e=.returned (.string y)/\y.size<=10001/\Rd w' B a len cap/\an B w w':=by
  have H:Hid (Rd w B a len cap):=h
  have hBQ:B<w.heap.size:=h.2.2.2.1
  clear h
  go_enter Tryz.func49,Tryz.ntmps49
  go_wp2_with fail
  refine (aq B a len cap 6 _ H.out (by omega) (by omega)).mono ?_
  rintro e w1 ⟨v,rfl,v1,v2,R1,S1⟩
  obtain ⟨n,rfl⟩:=Int.eq_ofNat_of_zero_le v1
  have hn:n<6:=by omega
  have RX1:Hid (Rd w1 B a len cap):=R1
  have SX1:Hid (an B w w1):=S1
  have hB1:B<w1.heap.size:=R1.2.2.2.1
  clear R1 S1 H
  by_cases n1:n=1
  · subst n1
    have q1:(((1:Nat):Int) == 1)=true:=rfl
    go_wp2_with fail
    refine (aq B a len cap ((s.size:Int)+1) _ RX1.out (by omega) (by omega)).mono ?_
    rintro e w2 ⟨k,rfl,k1,k2,R2,S2⟩
    obtain ⟨m,rfl⟩:=Int.eq_ofNat_of_zero_le k1
    have hm:(m:Int)<=(s.size:Int):=by omega
    have RX2:Hid (Rd w2 B a len cap):=R2
    have SX2:Hid (an B w w2):=SX1.out.trans S2
    clear R2 S2
    go_wp2
    go_ret
    exact ⟨_,rfl,by rw[ByteArray.size_extract];omega,RX2.out,SX2.out⟩
  have q1:(((n:Nat):Int) == 1)=false:=beq_eq_false_iff_ne.2 (by omega)
  by_cases n3:n=3
  · subst n3
    go_wp2_with fail
    refine (aq B a len cap 3 _ (RX1.out.alloc _) (by omega) (by omega)).mono ?_
    rintro e w2 ⟨k,rfl,k1,k2,R2,S2⟩
    obtain ⟨m,rfl⟩:=Int.eq_ofNat_of_zero_le k1
    have hm:m<3:=by omega
    have hm':(m:Int)<3:=by omega
    obtain ⟨y,hy⟩:∃y,y=kG[m]'(by simpa [kG] using hm):=⟨_,rfl⟩
    have hys:y.size=1:=by rw[hy];exact rK _ (List.getElem_mem _)
    have hc:w2.cell? ⟨w1.heap.size,m,none⟩=some (.string y):=by
      rw[S2.cell (p:=⟨w1.heap.size,m,none⟩) (by simp) (by simp;omega),hy]
      exact kF w1 kG m (by simpa [kG] using hm)
    have ha:=fun W=>ti W s y (by omega) (by omega)
    have RX2:Hid (Rd w2 B a len cap):=R2
    have SX2:Hid (an B w w2):=(SX1.out.alloc _).trans S2
    have HZ:Hid ((s++y).size<=10001):=(by rw[ByteArray.size_append];omega:(s++y).size<=10001)
    clear R2 S2 hy
    go_wp2
    go_ret
    exact ⟨_,rfl,HZ.out,RX2.out,SX2.out⟩
  have q3:(((n:Nat):Int) == 3)=false:=beq_eq_false_iff_ne.2 (by omega)
  by_cases n2:n=2/\0<s.size
  · obtain ⟨rfl,hs0⟩:=n2
    have hs0':(0:Int)<(s.size:Int):=by omega
    go_wp2_with fail
    refine (aq B a len cap (s.size:Int) _ RX1.out (by omega) (by omega)).mono ?_
    rintro e w2 ⟨k,rfl,k1,k2,R2,S2⟩
    obtain ⟨i,rfl⟩:=Int.eq_ofNat_of_zero_le k1
    have hi:(i:Int)<(s.size:Int):=by omega
    have hi2:(i:Int)<=(s.size:Int):=by omega
    have hi3:(i:Int)+1<=(s.size:Int):=by omega
    have hi4:(0:Int)<=(i:Int)+1:=by omega
    have hi5:IntKind.i64.wrap ((i:Int)+1)=(i:Int)+1:=by rw[IntKind.wrap_i64];omega
    have hi6:((i:Int)+1).toNat=i+1:=by omega
    have RX2:Hid (Rd w2 B a len cap):=R2
    have SX2:Hid (an B w w2):=SX1.out.trans S2
    have hB2:B<w2.heap.size:=R2.2.2.2.1
    clear R2 S2 RX1 SX1
    go_wp2
    go_region_with (first
      | (go_at_call 54
         refine (aq B a len cap 6 _ (by first|exact RX2.out|exact RX2.out.drewd|exact (RX2.out.alloc _).drewd) (by omega) (by omega)).mono ?_
         rintro e w3 ⟨k,rfl,k1,k2,R3,S3⟩
         obtain ⟨m,rfl⟩:=Int.eq_ofNat_of_zero_le k1
         have hm:m<6:=by omega
         have hm':(m:Int)<6:=by omega
         obtain ⟨y,hy⟩:∃y,y=kf[m]'(by simpa [kf] using hm):=⟨_,rfl⟩
         have hys:y.size=1:=by rw[hy];exact qo _ (List.getElem_mem _)
         have hcA:∀W:World,(W.alloc (.cells #[.string ⟨#[48]⟩,.string ⟨#[49]⟩,.string ⟨#[32]⟩,.string ⟨#[45]⟩,.string ⟨#[57]⟩,.string ⟨#[120]⟩] 9)).cell? ⟨W.heap.size,m,none⟩=some (.string y):=fun W=>by rw[hy];exact kF W kf m (by simpa [kf] using hm)
         first
           | (have hcB : w3.cell? ⟨w2.heap.size, m, none⟩ = some (.string y) := by
                rw[S3.cell (p:=⟨w2.heap.size,m,none⟩) (by show w2.heap.size<(World.alloc w2 _).heap.size;simp) (by show w2.heap.size≠B;omega)]
                exact hcA w2)
           | skip
         have hx1:(s.extract 0 i).size<=10000:=by rw[ByteArray.size_extract];omega
         have hx2:(s.extract (i+1) s.size).size<=10000:=by rw[ByteArray.size_extract];omega
         have hx3:(s.extract 0 i++y).size<=10001:=by rw[ByteArray.size_append];omega
         have ha1:=fun W=>ti W (s.extract 0 i) y (by omega) (by omega)
         have ha2:=fun W=>ti W (s.extract 0 i++y) (s.extract (i+1) s.size) (by omega) (by omega)
         have HZ:Hid ((s.extract 0 i++y++s.extract (i+1) s.size).size<=10001):=(by rw[ByteArray.size_append,ByteArray.size_append,ByteArray.size_extract,ByteArray.size_extract];omega:(s.extract 0 i++y++s.extract (i+1) s.size).size<=10001)
         have RX3:Hid (Rd w3 B a len cap):=R3
         have SX3:Hid (an B w w3):=by first|exact SX2.out.trans S3|exact SX2.out.drewd.trans S3|exact (SX2.out.alloc _).drewd.trans S3
         clear R3 S3 hy))
    all_goals go_wp2
    all_goals go_ret
    all_goals first
      | exact ⟨_,rfl,HZ.out,RX3.out,SX3.out⟩
      | exact ⟨_,rfl,HZ.out,RX3.out.alloc _,SX3.out.alloc _⟩
  · by_cases n2':n=2
    · subst n2'
      have hs0:¬(0:Int)<(s.size:Int):=by omega
      go_wp2
      go_ret
      exact ⟨_,rfl,by omega,RX1.out,SX1.out⟩
    · have q2:(((n:Nat):Int) == 2)=false:=beq_eq_false_iff_ne.2 (by omega)
      go_wp2
      go_ret
      exact ⟨_,rfl,by omega,RX1.out,SX1.out⟩
end
section
open Go.RowKit
set_option maxRecDepth 8000
def Code (w:World) (a:Option Addr) (len:Nat):Prop:=len<=9223372036854775807/\
 ∀i:Nat,i<len->∃(b off:Nat) (z:Int),a=some ⟨b,off,none⟩/\b<w.heap.size/\w.cell? ⟨b,off+i,none⟩=some (.int .u8 z)/\0<=z/\z<=255
theorem tl (a:Option Addr) (len cap:Nat) (w:World) (h:len<=1048576):
  Calls Tryz.prog 4 #[.slice a len cap] w fun e w'=>e=.returned (.bool false)/\w'=w:=by
 have h':¬(1048576<len):=by omega
 go_enter Tryz.func4,Tryz.ntmps4
 go_wp2
 go_ret
 exact ⟨by simp;omega,rfl⟩
theorem rR (a:Option Addr) (len cap:Nat) (w:World) (h:1048576<len):
  Calls Tryz.prog 4 #[.slice a len cap] w fun e w'=>e=.returned (.bool true)/\w'=w:=by
 go_enter Tryz.func4,Tryz.ntmps4
 go_wp2
 go_ret
 exact ⟨by simp;omega,rfl⟩
end
end Go.Proofs.YtjhgchlfpolkcaaGreatDoor
