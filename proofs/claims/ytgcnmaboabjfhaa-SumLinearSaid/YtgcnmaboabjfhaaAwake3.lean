/-
  The example that the statements of layer 3 begin with.
-/
import Derived.Test.YtgcnmaboabjfhaaSum
import Derived.Test.YtgcnmaboabjfhaaHash
namespace Go.Proofs.Ytgcnmaboabjfhaa
open Go.RowKit

set_option maxRecDepth 100000 in
theorem awake3_any (w : World) : Calls Try.prog 7 #[] w fun e w' => e = .returned (.bool true) ∧ w = w' := by
  have h1 := sum_any (.slice none 0 0) [] w (Rd.nil w 1)
  have h2 := hash_any ⟨#[]⟩ (by decide) w
  have e1 : sumL [] = 0 := by decide
  have e2 : hashL (⟨#[]⟩ : ByteArray).data.toList = 2166136261 := rfl
  rw [e1] at h1
  rw [e2] at h2
  have H1 := Lib.hid h1
  have H2 := Lib.hid h2
  clear h1 h2 e1 e2
  go_enter Try.func7, Try.ntmps7
  go_wp2_with (first | (go_at_call 8; refine H1.out.mono ?_; rintro e w1 ⟨rfl, rfl⟩) | (go_at_call 10; refine H2.out.mono ?_; rintro e w2 ⟨rfl, rfl⟩))
  go_ret
  exact ⟨rfl, rfl⟩
end Go.Proofs.Ytgcnmaboabjfhaa
