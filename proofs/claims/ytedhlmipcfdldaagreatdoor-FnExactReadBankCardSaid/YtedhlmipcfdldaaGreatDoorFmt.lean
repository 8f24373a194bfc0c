/- strconv.FormatInt at base 10, by the library's own contract laid at this program. Condition: the library's table of powers of ten as its text lays it. -/
import Derived.Shelf.Strconv.Itoa4
import Derived.Shelf.Lay
import Derived.Ground.NamesProg
import Derived.Test.YtedhlmipcfdldaaGreatDoorChecked
namespace Go.Proofs.YtedhlmipcfdldaaGreatDoor
open Go.Shelf Go.RowKit

shelf_lay LaysM.n173 Nm 173 at Tryz as Tryz.lays173
theorem formatInt (n : Int) (h0 : -9223372036854775808 ≤ n) (h1 : n ≤ 9223372036854775807) (w : World) (htab : Lib.TabIs Tryz.prog w "internal/strconv.uint64pow10" .u64 Lib.pow10Tab) :
    Calls Tryz.prog 63 #[.int .i64 n, .int .i64 10] w fun e w' => e = .returned (.string ⟨(Lib.itoa n).toArray⟩) ∧ ∃ k os, w' = Sort.grow (w.drewN k) os := Any.strconv_FormatInt_10 Tryz.lays173 n h0 h1 w htab
end Go.Proofs.YtedhlmipcfdldaaGreatDoor
