/-
  An error as a number, in the statements' own words.
-/
import Derived.Test.YtaljebhiacglpaaBase
import Derived.Test.YtaljebhiacglpaaProg
namespace Go.Proofs.Ytaljebhiacglpaa
open Go.RowKit

set_option linter.unusedSimpArgs false in
theorem num1_any (w : World) (n : Int) : Calls Try.prog 31 #[.int .i64 n] w fun e w' => e = .returned (.int .i64 n) ∧ w = w' := by
  go_enter Try.func31, Try.ntmps31
  go_wp2
  go_ret
  exact ⟨rfl, rfl⟩
end Go.Proofs.Ytaljebhiacglpaa
