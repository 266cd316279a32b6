/-
  Floating point numbers that are exact; how two compare; a part of a number, down to a whole one. Plain facts.
-/
import Derived.Test.YtlgfodlimehppaaFloMath
namespace Go.Proofs.Ytlgfodlimehppaa
open Ieee

theorem rnd_exact (q g : Nat) (hg : 0 < g) : rnd (q * g) g = q := by
  unfold rnd
  rw [Nat.mul_div_cancel _ hg, Nat.mul_mod_left]
  rw [if_neg (by omega)]
  omega

/-- A number of few digits is told exactly. -/
theorem rung_exact (f : Format) {q d : Nat} (hq : q < 2 * f.binade) : rungH f (rungOf f f.leastPlace (q * 2 ^ d)) = q * 2 ^ d := by
  have hB : 0 < f.binade := Nat.two_pow_pos _
  by_cases h0 : q = 0
  · subst h0
    have : rungOf f f.leastPlace 0 = 0 := by
      unfold rungOf rnd
      have e : max (f.leastPlace + ((Nat.log2 0 : Nat) : Int) - f.fractionBits) f.leastPlace = f.leastPlace := by
        rw [Nat.log2_zero]; omega
      rw [e]
      simp
    rw [Nat.zero_mul, this]
    unfold rungH
    rw [if_pos hB]
  · have hlog := log2_shift h0 d
    have hql : q.log2 ≤ f.fractionBits := by
      have : q.log2 < f.fractionBits + 1 := (Nat.log2_lt h0).2 (by
        have : 2 ^ (f.fractionBits + 1) = 2 * f.binade := by unfold Format.binade; rw [Nat.pow_succ, Nat.mul_comm]
        omega)
      omega
    have hq1 := Nat.log2_self_le h0
    have hq2 : q < 2 ^ (q.log2 + 1) := (Nat.log2_lt h0).1 (by omega)
    unfold rungOf
    rw [hlog]
    obtain ⟨s, hs⟩ : ∃ s : Nat, max (f.leastPlace + ((q.log2 + d : Nat) : Int) - f.fractionBits) f.leastPlace = f.leastPlace + (s : Int) := ⟨(max (f.leastPlace + ((q.log2 + d : Nat) : Int) - f.fractionBits) f.leastPlace - f.leastPlace).toNat, by omega⟩
    rw [hs]
    have e1 : (f.leastPlace + (s : Int) - f.leastPlace).toNat = s := by omega
    rw [e1]
    have hsd : s ≤ d := by omega
    have hsv : q * 2 ^ d = q * 2 ^ (d - s) * 2 ^ s := by rw [Nat.mul_assoc, ← Nat.pow_add]; congr 2; omega
    rw [hsv, rnd_exact _ _ (Nat.two_pow_pos _)]
    -- the digits that are kept
    have hk2 : q * 2 ^ (d - s) < 2 * f.binade := by
      have h1 : q * 2 ^ (d - s) < 2 ^ (q.log2 + 1) * 2 ^ (d - s) := (Nat.mul_lt_mul_right (Nat.two_pow_pos _)).2 hq2
      have h2 : 2 ^ (q.log2 + 1) * 2 ^ (d - s) ≤ 2 ^ (f.fractionBits + 1) := by
        rw [← Nat.pow_add]
        exact Nat.pow_le_pow_right (by omega) (by omega)
      have h3 : 2 ^ (f.fractionBits + 1) = 2 * f.binade := by unfold Format.binade; rw [Nat.pow_succ, Nat.mul_comm]
      omega
    have hk1 : 0 < s → f.binade ≤ q * 2 ^ (d - s) := by
      intro hs0
      have h1 : 2 ^ q.log2 * 2 ^ (d - s) ≤ q * 2 ^ (d - s) := Nat.mul_le_mul_right _ hq1
      have h2 : f.binade = 2 ^ q.log2 * 2 ^ (d - s) := by
        unfold Format.binade
        rw [← Nat.pow_add]
        congr 1
        omega
      omega
    generalize q * 2 ^ (d - s) = k at *
    unfold rungH
    generalize f.binade = B at *
    by_cases hkB : k < B
    · have hs0 : s = 0 := by
        rcases Nat.eq_zero_or_pos s with h | h
        · exact h
        · have := hk1 h; omega
      subst hs0
      rw [Nat.zero_mul, Nat.zero_add, if_pos hkB]
      simp
    · have h1 : ¬ s * B + k < B := by omega
      rw [if_neg h1]
      have h2 : s * B + k = B * (s + 1) + (k - B) := by rw [Nat.mul_succ, Nat.mul_comm B s]; omega
      have h3 : k - B < B := by omega
      rw [h2, Nat.mul_add_mod, Nat.mod_eq_of_lt h3, Nat.mul_add_div hB, Nat.div_eq_of_lt h3, Nat.add_zero, Nat.add_sub_cancel]
      congr 1
      omega

/-- How two that are not below nought compare. -/
theorem order_pos {m n : Nat} {i j b : Int} (hi : b ≤ i) (hj : b ≤ j) : Datum.order (.number false m i) (.number false n j) = some (compare (flV b m i) (flV b n j)) := by
  unfold Datum.order
  simp only
  congr 1
  obtain ⟨c, hc⟩ : ∃ c : Int, c = min i j := ⟨_, rfl⟩
  rw [← hc]
  have e1 : flV b m i = (m <<< (i - c).toNat) * 2 ^ (c - b).toNat := by
    unfold flV
    rw [Nat.shiftLeft_eq, Nat.mul_assoc, ← Nat.pow_add]
    congr 2; omega
  have e2 : flV b n j = (n <<< (j - c).toNat) * 2 ^ (c - b).toNat := by
    unfold flV
    rw [Nat.shiftLeft_eq, Nat.mul_assoc, ← Nat.pow_add]
    congr 2; omega
  rw [e1, e2]
  unfold signed
  simp only [Bool.false_eq_true, if_false]
  generalize m <<< (i - c).toNat = x
  generalize n <<< (j - c).toNat = y
  have hp := Nat.two_pow_pos (c - b).toNat
  generalize 2 ^ (c - b).toNat = p at *
  show compareOfLessAndEq (x : Int) (y : Int) = compareOfLessAndEq (x * p) (y * p)
  unfold compareOfLessAndEq
  by_cases h1 : x < y
  · rw [if_pos (by omega), if_pos ((Nat.mul_lt_mul_right hp).2 h1)]
  · rw [if_neg (by omega), if_neg (fun h => h1 ((Nat.mul_lt_mul_right hp).1 h))]
    by_cases h2 : x = y
    · subst h2; simp
    · rw [if_neg (by omega), if_neg (fun h => h2 (Nat.eq_of_mul_eq_mul_right hp h))]
end Go.Proofs.Ytlgfodlimehppaa
