/-
  An error as a number, in the statements' own words.
-/
import Derived.Test.YtljjgpjaleekdaaGreatDoorBase
import Derived.Test.YtljjgpjaleekdaaGreatDoorProg
namespace Go.Proofs.YtljjgpjaleekdaaGreatDoor
open Go.RowKit

set_option linter.unusedSimpArgs false in
theorem num1_any (w : World) (n : Int) : Calls Tryz.prog 15 #[.int .i64 n] w fun e w' => e = .returned (.int .i64 n) ∧ w = w' := by
  go_enter Tryz.func15, Tryz.ntmps15
  go_wp2
  go_ret
  exact ⟨rfl, rfl⟩
end Go.Proofs.YtljjgpjaleekdaaGreatDoor
