/-
  What the document's Cmp does, for every two keys.
-/
import Derived.Test.YtnmmeaoapfampaaKeyMay
import Derived.WalkLawsBesides
namespace Go.Proofs.Ytnmmeaoapfampaa
open Go.RowKit

theorem less_cmp : ∀ a b : List UInt8, Op.bytesLess a b = (cmpL a b == -1)
  | [], [] => rfl
  | [], _ :: _ => rfl
  | _ :: _, [] => rfl
  | a :: r, b :: t => by
    have ih := less_cmp r t
    rw [Op.bytesLess, cmpL, ih]
    rcases Nat.lt_trichotomy a.toNat b.toNat with h | h | h
    · have e : a < b := UInt8.lt_iff_toNat_lt.2 h
      rw [if_pos h]
      simp [e]
    · have e : a = b := UInt8.toNat_inj.1 h
      subst e
      rw [if_neg (by omega), if_neg (by omega)]
      have : ¬ a < a := fun h => by have := UInt8.lt_iff_toNat_lt.1 h; omega
      simp [this]
    · have e : ¬ a < b := fun h' => by have := UInt8.lt_iff_toNat_lt.1 h'; omega
      have e' : (a == b) = false := by
        have : a ≠ b := fun h' => by subst h'; omega
        simpa using this
      rw [if_neg (by omega), if_pos h, e']
      simp [e]

section
variable {l1 l2 : List UInt8} {s1 k1 s2 k2 : Int}
theorem rc_less (_h : (!l1 == l2) = true) (h2 : Op.bytesLess l1 l2 = true) : -1 = cmpK l1 s1 k1 l2 s2 k2 := by
  rw [less_cmp, beq_iff_eq] at h2
  unfold cmpK lex
  rw [h2]
  rfl
theorem rc_more (h : (!l1 == l2) = true) (h2 : Op.bytesLess l1 l2 = false) : 1 = cmpK l1 s1 k1 l2 s2 k2 := by
  rw [less_cmp, beq_eq_false_iff_ne] at h2
  have h0 : cmpL l1 l2 ≠ 0 := fun e => by rw [(cmpL_zero l1 l2).1 e] at h; simp at h
  have := cmpL_sgn l1 l2
  unfold Sgn at this
  have e : cmpL l1 l2 = 1 := by omega
  unfold cmpK lex
  rw [e]
  rfl
theorem rc_same (h : (!l1 == l2) = false) : cmpL l1 l2 = 0 := by
  have : l1 = l2 := by simpa using h
  exact (cmpL_zero l1 l2).2 this
theorem rc_newer (h : (!l1 == l2) = false) (_h2 : (s1 != s2) = true) (h3 : s2 < s1) : -1 = cmpK l1 s1 k1 l2 s2 k2 := by
  unfold cmpK lex cmpZ
  rw [rc_same h, if_pos rfl]
  (repeat' split) <;> omega
theorem rc_older (h : (!l1 == l2) = false) (h2 : (s1 != s2) = true) (h3 : s1 ≤ s2) : 1 = cmpK l1 s1 k1 l2 s2 k2 := by
  have : s1 ≠ s2 := by simpa using h2
  unfold cmpK lex cmpZ
  rw [rc_same h, if_pos rfl]
  (repeat' split) <;> omega
theorem rc_ahead (h : (!l1 == l2) = false) (h2 : (s1 != s2) = false) (_h3 : (k1 != k2) = true) (h4 : k2 < k1) : -1 = cmpK l1 s1 k1 l2 s2 k2 := by
  have : s1 = s2 := by simpa using h2
  subst this
  unfold cmpK lex cmpZ
  rw [rc_same h, if_pos rfl]
  (repeat' split) <;> omega
theorem rc_behind (h : (!l1 == l2) = false) (h2 : (s1 != s2) = false) (h3 : (k1 != k2) = true) (h4 : k1 ≤ k2) : 1 = cmpK l1 s1 k1 l2 s2 k2 := by
  have : s1 = s2 := by simpa using h2
  subst this
  have : k1 ≠ k2 := by simpa using h3
  unfold cmpK lex cmpZ
  rw [rc_same h, if_pos rfl]
  (repeat' split) <;> omega
theorem rc_zero (h : (!l1 == l2) = false) (h2 : (s1 != s2) = false) (h3 : (k1 != k2) = false) : 0 = cmpK l1 s1 k1 l2 s2 k2 := by
  have e1 : s1 = s2 := by simpa using h2
  have e2 : k1 = k2 := by simpa using h3
  exact ((cmpK_zero _ _ _ _ _ _).2 ⟨(cmpL_zero _ _).1 (rc_same h), e1, e2⟩).symm
end

set_option maxRecDepth 100000 in
set_option maxHeartbeats 1000000 in
theorem rcmp_any (u1 : ByteArray) (s1 k1 : Int) (u2 : ByteArray) (s2 k2 : Int) (w : World) :
    Calls Try.prog 24 #[.agg #[.string u1, .int .i64 s1, .int .i64 k1], .agg #[.string u2, .int .i64 s2, .int .i64 k2]] w
      fun e w' => e = .returned (.int .i64 (cmpK u1.data.toList s1 k1 u2.data.toList s2 k2)) ∧ Below w.heap.size w w' := by
  have H1 := Lib.hid (toList_data u1)
  have H2 := Lib.hid (toList_data u2)
  go_enter Try.func24, Try.ntmps24
  go_wp2
  all_goals
    go_ret
    rw [← H1.out, ← H2.out]
    refine ⟨ret_num ?_, ((Below.refl _ _).alloc (Nat.le_refl _) _).alloc (by simp) _⟩
    first
    | exact rc_less ‹_› ‹_›
    | exact rc_more ‹_› ‹_›
    | exact rc_newer ‹_› ‹_› ‹_›
    | exact rc_older ‹_› ‹_› ‹_›
    | exact rc_ahead ‹_› ‹_› ‹_› ‹_›
    | exact rc_behind ‹_› ‹_› ‹_› ‹_›
    | exact rc_zero ‹_› ‹_› ‹_›
end Go.Proofs.Ytnmmeaoapfampaa
