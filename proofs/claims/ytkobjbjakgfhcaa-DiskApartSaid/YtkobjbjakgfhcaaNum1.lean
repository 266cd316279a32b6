/-
  An error as a number, in the statements' own words.
-/
import Derived.Test.YtkobjbjakgfhcaaBase
import Derived.Test.YtkobjbjakgfhcaaProg
namespace Go.Proofs.Ytkobjbjakgfhcaa
open Go.RowKit

set_option linter.unusedSimpArgs false in
theorem num1_any (w : World) (n : Int) : Calls Try.prog 21 #[.int .i64 n] w fun e w' => e = .returned (.int .i64 n) ∧ w = w' := by
  go_enter Try.func21, Try.ntmps21
  go_wp2
  go_ret
  exact ⟨rfl, rfl⟩
end Go.Proofs.Ytkobjbjakgfhcaa
