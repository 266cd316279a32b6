/-
  The example that the statements of layer 2 begin with.
-/
import Derived.Test.YtmeddhjhdjgagaaKeyCmp
import Derived.Test.YtmeddhjhdjgagaaKeyGet
namespace Go.Proofs.Ytmeddhjhdjgagaa
open Go.RowKit

set_option maxRecDepth 100000 in
set_option maxHeartbeats 1000000 in
theorem awake2_any (w : World) : Calls Try.prog 6 #[] w fun e w' => e = .returned (.bool true) ∧ Below w.heap.size w w' := by
  have hcmp := cmp_any ⟨#[97]⟩ 2 1 ⟨#[97]⟩ 1 1 (by unfold maxLen; decide) (by unfold maxLen; decide)
  have hmay := may_any ⟨#[97]⟩ 2 1 (by unfold maxLen; decide)
  have e1 : cmpK (⟨#[97]⟩ : ByteArray).data.toList 2 1 (⟨#[97]⟩ : ByteArray).data.toList 1 1 = -1 := by decide
  have e2 : mayB (⟨#[97]⟩ : ByteArray).data.toList 2 1 = true := by decide
  rw [e1] at hcmp
  rw [e2] at hmay
  have HC := Lib.hid hcmp
  have HM := Lib.hid hmay
  clear hcmp hmay e1 e2
  go_enter Try.func6, Try.ntmps6
  go_wp2_with (first | (go_at_call 13; refine (HC.out _).mono ?_; rintro e w1 ⟨rfl, hb⟩; obtain ⟨hc, hf⟩ := bcell hb; have hz := hb.size; simp at hz) | (go_at_call 11; refine (HM.out _).mono ?_; rintro e w2 ⟨rfl, hb2⟩))
  go_ret
  exact ⟨rfl, ((((Below.refl _ _).alloc (Nat.le_refl _) _).alloc (by simp) _).trans (hb.mono (by simp; omega))).trans (hb2.mono (by omega))⟩
end Go.Proofs.Ytmeddhjhdjgagaa
