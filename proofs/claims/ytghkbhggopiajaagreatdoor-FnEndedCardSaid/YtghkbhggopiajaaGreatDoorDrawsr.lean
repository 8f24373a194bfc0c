/- The draws of forests with an account's id. -/
import Derived.Test.YtghkbhggopiajaaGreatDoorForestr
namespace Go.Proofs.YtghkbhggopiajaaGreatDoor
open Go.RowKit
set_option maxRecDepth 8000
def Code (w:World) (a:Option Addr) (len:Nat):Prop:=len<=9223372036854775807/\
 ∀i:Nat,i<len->∃(b off:Nat) (z:Int),a=some ⟨b,off,none⟩/\b<w.heap.size/\w.cell? ⟨b,off+i,none⟩=some (.int .u8 z)/\0<=z/\z<=255
theorem big_no (a:Option Addr) (len cap:Nat) (w:World) (h:len<=1048576):
  Calls Tryz.prog 11 #[.slice a len cap] w fun e w'=>e=.returned (.bool false)/\w'=w:=by
 have h':¬(1048576<len):=by omega
 go_enter Tryz.func11,Tryz.ntmps11
 go_wp2
 go_ret
 exact ⟨by simp;omega,rfl⟩
theorem big_yes (a:Option Addr) (len cap:Nat) (w:World) (h:1048576<len):
  Calls Tryz.prog 11 #[.slice a len cap] w fun e w'=>e=.returned (.bool true)/\w'=w:=by
 go_enter Tryz.func11,Tryz.ntmps11
 go_wp2
 go_ret
 exact ⟨by simp;omega,rfl⟩
end Go.Proofs.YtghkbhggopiajaaGreatDoor
