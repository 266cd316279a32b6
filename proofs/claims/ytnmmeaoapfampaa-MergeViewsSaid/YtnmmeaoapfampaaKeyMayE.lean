/-
  What key.MayEntry and the document's MayEntry do, for every entry.
-/
import Derived.Test.YtnmmeaoapfampaaKeyMay
import Derived.WalkLawsBesides
namespace Go.Proofs.Ytnmmeaoapfampaa
open Go.RowKit

/-- May it be an entry? -/
def mayE (u : List UInt8) (s k : Int) (v : List UInt8) : Bool := mayB u s k && (decide (v.length ≤ 512) && (k == 1 || v.isEmpty))

theorem and_yes {l : List UInt8} (b : Bool) (h : l.length ≤ 512) : b = (decide (l.length ≤ 512) && b) := by simp [h]
theorem and_no {l : List UInt8} (b : Bool) (h : 512 < l.length) : false = (decide (l.length ≤ 512) && b) := by
  have : ¬ l.length ≤ 512 := by omega
  simp [this]


set_option maxRecDepth 100000 in
set_option maxHeartbeats 1000000 in
theorem rmayE_any (u : ByteArray) (s k : Int) (v : ByteArray) (hu : u.size ≤ maxLen) (hv : v.size ≤ maxLen) (w : World) :
    Calls Try.prog 39 #[.agg #[.string u, .int .i64 s, .int .i64 k, .string v]] w fun e w' => e = .returned (.bool (mayE u.data.toList s k v.data.toList)) ∧ Below w.heap.size w w' := by
  have hmay := rmay_any u s k hu
  unfold maxLen at hu hv
  cases hm : mayB u.data.toList s k with
  | false =>
    rw [hm] at hmay
    have HM := Lib.hid hmay
    have HR : Hid (false = mayE u.data.toList s k v.data.toList) := Lib.hid (by unfold mayE; rw [hm]; rfl)
    clear hmay hm
    go_enter Try.func39, Try.ntmps39
    go_wp2_with (go_at_call 45; refine (HM.out _).mono ?_; rintro e w1 ⟨rfl, hb⟩; obtain ⟨hc, hf⟩ := bcell hb)
    go_ret
    exact ⟨ret_bool HR.out, ((Below.refl _ _).alloc (Nat.le_refl _) _).trans (hb.mono (by simp))⟩
  | true =>
    rw [hm] at hmay
    have HM := Lib.hid hmay
    have HR : Hid (mayE u.data.toList s k v.data.toList = (decide (v.data.toList.length ≤ 512) && (k == 1 || v.data.toList.isEmpty))) := Lib.hid (by unfold mayE; rw [hm]; rfl)
    have HL := Lib.hid (str_len v)
    have HD := Lib.hid (toList_data v)
    clear hmay hm
    go_enter Try.func39, Try.ntmps39
    go_wp2_with (go_at_call 45; refine (HM.out _).mono ?_; rintro e w1 ⟨rfl, hb⟩; obtain ⟨hc, hf⟩ := bcell hb)
    all_goals
      go_ret
      refine ⟨ret_bool ?_, ((Below.refl _ _).alloc (Nat.le_refl _) _).trans (hb.mono (by simp))⟩
      rw [HR.out]
      first
      | exact and_no _ (by rw [HL.out]; omega)
      | (have hk : (k == 1) = true := (by simp only [‹k = 1›]; rfl)
         rw [hk]
         exact and_yes true (by rw [HL.out]; omega))
      | (rw [HD.out]; exact and_yes _ (by rw [HL.out]; omega))
end Go.Proofs.Ytnmmeaoapfampaa
