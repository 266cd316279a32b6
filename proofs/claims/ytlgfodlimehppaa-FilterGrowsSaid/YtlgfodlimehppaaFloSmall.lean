/-
  Whole numbers as words of float64: the lesser one, the greater one, back to a number. Plain facts.
-/
import Derived.Test.YtlgfodlimehppaaFloWords
import Derived.Laws.FloatArith
namespace Go.Proofs.Ytlgfodlimehppaa
open Ieee

theorem rungH_inf : rungH double infD = 4503599627370496 * 2 ^ infP := by
  unfold rungH
  rw [binD, if_neg (by decide)]
  have e1 : infD % 4503599627370496 = 0 := by decide
  have e2 : infD / 4503599627370496 - 1 = infP := by decide
  rw [e1, e2, Nat.add_zero]

theorem wordN_exact {n : Nat} (h : n < 9007199254740992) : wordN n < infD ∧ rungH double (wordN n) = n * 2 ^ leastP := by
  have hB : n < 2 * double.binade := by rw [binD]; omega
  have hx := rung_exact double (d := leastP) hB
  rw [lpD] at hx
  by_cases h0 : n = 0
  · subst h0
    have : wordN 0 = 0 := by decide
    rw [this]
    refine ⟨by decide, ?_⟩
    rw [Nat.zero_mul]
    decide
  · have hw : wordN n = min (rungOf double (-1074) (n * 2 ^ leastP)) infD := by
      have := nearest_rung double (m := n) (e := 0) (b := -1074) h0 (by omega) (by rw [lpD]; omega)
      have e5 : flV (-1074) n 0 = n * 2 ^ leastP := by
        unfold flV
        rw [show ((0 : Int) - -1074).toNat = leastP from by decide]
      rw [infD_eq, e5] at this
      exact this
    have hlt : rungOf double (-1074) (n * 2 ^ leastP) < infD := by
      refine Classical.byContradiction fun hn => ?_
      have h1 := rungH_mono double (show infD ≤ rungOf double (-1074) (n * 2 ^ leastP) by omega)
      rw [hx, rungH_inf] at h1
      have h2 : n * 2 ^ leastP < 2 ^ 53 * 2 ^ leastP := (Nat.mul_lt_mul_right (Nat.two_pow_pos _)).2 (by
        have : (2 : Nat) ^ 53 = 9007199254740992 := by decide
        omega)
      have h3 : (2 : Nat) ^ 53 * 2 ^ leastP ≤ 4503599627370496 * 2 ^ infP := by
        have e1 : (2 : Nat) ^ 53 * 2 ^ leastP = 2 ^ (53 + leastP) := by rw [← Nat.pow_add]
        have key2 : ∀ a b : Nat, a ≤ b → 2 ^ a ≤ 2 ^ b := fun a b h => Nat.pow_le_pow_right (by omega) h
        have e2 := key2 (53 + leastP) infP (by decide)
        have key : ∀ x : Nat, x ≤ 4503599627370496 * x := fun x => by omega
        rw [e1]
        exact Nat.le_trans e2 (key (2 ^ infP))
      omega
    rw [hw, Nat.min_eq_left (Nat.le_of_lt hlt)]
    exact ⟨hlt, hx⟩

theorem wholeD_word {n : Nat} (h : n < 9007199254740992) : wholeD (wordN n) = n := by
  unfold wholeD
  rw [(wordN_exact h).2]
  exact Nat.mul_div_cancel _ (Nat.two_pow_pos _)

theorem wordN_strict {a b : Nat} (h : a < b) (ha : a < 9007199254740992) : wordN a < wordN b := by
  rcases Nat.lt_or_ge b 9007199254740992 with hb | hb
  · refine Classical.byContradiction fun hn => ?_
    have := wholeD_mono (show wordN b ≤ wordN a by omega)
    rw [wholeD_word ha, wholeD_word hb] at this
    omega
  · have h1 := (wordN_exact ha).1
    have h2 : wordN a < wordN 9007199254740992 := by
      have e : wordN 9007199254740992 = 4845873199050653696 := by decide
      rcases Nat.lt_or_ge a 9007199254740991 with h3 | h3
      · refine Nat.lt_of_lt_of_le ?_ (wordN_mono (show 9007199254740991 ≤ 9007199254740992 by omega))
        refine Classical.byContradiction fun hn => ?_
        have := wholeD_mono (show wordN 9007199254740991 ≤ wordN a by omega)
        rw [wholeD_word ha, wholeD_word (by omega)] at this
        omega
      · have : a = 9007199254740991 := by omega
        subst this
        rw [e]
        decide
    exact Nat.lt_of_lt_of_le h2 (wordN_mono hb)

/-- How whole numbers compare as words, one of them small. -/
theorem order_wordN {a b : Nat} (h : a < 9007199254740992) : double.order (wordN a) (wordN b) = some (compare a b) := by
  rw [order_words (wordN_le a) (wordN_le b)]
  have cmpN : ∀ x y : Nat, compare x y = if x < y then .lt else if x = y then .eq else .gt := fun x y => rfl
  rw [cmpN, cmpN]
  rcases Nat.lt_trichotomy a b with h1 | h1 | h1
  · rw [if_pos (wordN_strict h1 h), if_pos h1]
  · subst h1; simp
  · have := wordN_strict h1 (by omega)
    rw [if_neg (by omega), if_neg (by omega), if_neg (by omega), if_neg (by omega)]

theorem cut_zero (n drop : Nat) : Toward.zero.cut false n drop = n / 2 ^ drop := by
  have := cut_down n drop
  unfold Toward.cut at *
  simpa using this

/-- Back to a number. -/
theorem toInt_wordN {n : Nat} (h : n < 9007199254740992) : floatToIntVal .f64 (wordN n) .i64 = some (n : Int) := by
  obtain ⟨m, i, e1, e2, e3⟩ := read_rung double (r := wordN n) (by rw [infD_eq]; exact (wordN_exact h).1)
  rw [lpD] at e2 e3
  unfold floatToIntVal
  have hd : FloatKind.f64.decode (wordN n) = .number false m i := e1
  rw [hd]
  have hc : Toward.zero.cut false (m <<< i.toNat) (-i).toNat = n := by
    have h1 := floor_flV (m := m) e2 (by omega)
    rw [cut_down] at h1
    rw [cut_zero, h1, e3]
    have e4 : (-(-1074 : Int)).toNat = leastP := by decide
    rw [e4]
    exact wholeD_word h
  have ht : (Datum.number false m i).toInt .zero = some (n : Int) := by
    unfold Datum.toInt Datum.integral
    simp only
    rw [hc]
    unfold signed
    simp
  rw [ht]
  simp only
  rw [if_pos]
  simp only [IntKind.min, IntKind.max, IntKind.signed, IntKind.bits]
  simp
  omega
end Go.Proofs.Ytlgfodlimehppaa
