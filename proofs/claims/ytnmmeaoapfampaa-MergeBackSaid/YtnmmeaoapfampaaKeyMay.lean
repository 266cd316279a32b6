/-
  What key.May and the document's MayKey do, for every key.
-/
import Derived.Test.YtnmmeaoapfampaaWords
import Derived.Test.YtnmmeaoapfampaaKeyMath
import Derived.Lib.Strings
namespace Go.Proofs.Ytnmmeaoapfampaa
open Go.RowKit

theorem ret_bool {a b : Bool} (h : a = b) : Ending.returned (.bool a) = .returned (.bool b) := by rw [h]
theorem ret_num {k : IntKind} {a b : Int} (h : a = b) : Ending.returned (.int k a) = .returned (.int k b) := by rw [h]

/-- What was there is there as it was. -/
theorem bcell {W w1 : World} (hb : Below W.heap.size W w1) : (∀ b o, b < W.heap.size → w1.cell? ⟨b, o, none⟩ = W.cell? ⟨b, o, none⟩) ∧ (∀ b o, b < W.heap.size → w1.frozen? ⟨b, o, none⟩ = W.frozen? ⟨b, o, none⟩) :=
  ⟨fun b o h => hb.cell (p := ⟨b, o, none⟩) h, fun b o h => hb.frozen (p := ⟨b, o, none⟩) h⟩

theorem str_len (u : ByteArray) : u.data.toList.length = u.size := by rw [Array.length_toList]; rfl

theorem toList_data (u : ByteArray) : u.toList = u.data.toList := Lib.toList_data u

theorem str_at (u : ByteArray) (k : Nat) (h : k < u.size) : u.data.toList.getD k 0 = u[k] := by
  have h' : k < u.data.toList.length := by rw [str_len]; exact h
  simp only [List.getD, List.getElem?_eq_getElem h', Option.getD_some]
  rfl


set_option maxRecDepth 100000 in
theorem number_any (n : Int) (w : World) : Calls Try.prog 50 #[.int .i64 n] w fun e w' => e = .returned (.bool (decide (0 ≤ n) && decide (n ≤ 9007199254740992))) ∧ w = w' := by
  go_enter Try.func50, Try.ntmps50
  go_wp2
  all_goals
    go_ret
    refine ⟨ret_bool ?_, rfl⟩
    simp
    try omega

set_option maxRecDepth 100000 in
theorem rmay_any (u : ByteArray) (s k : Int) (hu : u.size ≤ maxLen) (w : World) :
    Calls Try.prog 45 #[.agg #[.string u, .int .i64 s, .int .i64 k]] w fun e w' => e = .returned (.bool (mayB u.data.toList s k)) ∧ Below w.heap.size w w' := by
  unfold maxLen at hu
  have H := Lib.hid (str_len u)
  obtain ⟨b, hb⟩ : ∃ b, b = (decide (0 ≤ s) && decide (s ≤ 9007199254740992)) := ⟨_, rfl⟩
  have hn := number_any s
  rw [← hb] at hn
  have HN := Lib.hid hn
  have hb' : b = true → 0 ≤ s ∧ s ≤ 9007199254740992 := by rintro rfl; simpa using hb.symm
  have hb'' : b = false → s < 0 ∨ 9007199254740992 < s := by
    rintro rfl
    have := hb.symm
    simp at this
    omega
  have HB := Lib.hid hb'
  have HB2 := Lib.hid hb''
  clear hn hb hb' hb''
  cases b
  all_goals
    go_enter Try.func45, Try.ntmps45
    go_wp2_with (go_at_call 50; refine (HN.out _).mono ?_; rintro e w' ⟨rfl, rfl⟩)
    all_goals
      go_ret
      refine ⟨ret_bool (Eq.symm ?_), (Below.refl _ _).alloc (Nat.le_refl _) _⟩
      have h1 := HB.out
      have h2 := HB2.out
      simp only [forall_const, reduceCtorEq, false_implies] at h1 h2
      first
      | exact mayB_no (by rw [H.out]; omega)
      | exact mayB_mk (by rw [H.out]; omega) (by omega) (by omega) (by omega)
      | exact mayB_kind k (by rw [H.out]; omega) (by omega) (by omega)
end Go.Proofs.Ytnmmeaoapfampaa
