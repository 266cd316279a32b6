/-
  Words of float64 that are not below one: what they read as, a product rounded, a part down to a whole number. Plain facts.
-/
import Derived.Test.YtlgfodlimehppaaFloExact
namespace Go.Proofs.Ytlgfodlimehppaa
open Ieee

/-- The word of infinity, of 1, of 12. -/
abbrev infD : Nat := 9218868437227405312
abbrev oneD : Nat := 4607182418800017408

theorem infD_eq : double.infRung = infD := by decide
theorem lpD : double.leastPlace = -1074 := by decide
theorem binD : double.binade = 4503599627370496 := by decide
theorem sgnD : double.signWeight = 9223372036854775808 := by decide

/-- A word: below nought, or no number, or one of the rungs up to infinity. -/
theorem word_ways {b : Nat} (h : b < 2 ^ 64) : (b < infD) ∨ b = infD ∨ (∃ s t, double.read b = .nan s t) ∨ (∃ m e, double.read b = .number true m e) ∨ double.read b = .infinity true := by
  by_cases h1 : b < infD
  · exact .inl h1
  · by_cases h2 : b = infD
    · exact .inr (.inl h2)
    · right; right
      unfold Format.read
      rw [infD_eq, binD, sgnD]
      simp only
      by_cases h3 : b < 9223372036854775808
      · have e1 : b / 9223372036854775808 = 0 := Nat.div_eq_of_lt h3
        have e2 : b % 9223372036854775808 = b := Nat.mod_eq_of_lt h3
        rw [e1, e2, if_neg (by unfold infD at *; omega), if_neg h1, if_neg h2]
        exact .inl ⟨_, _, rfl⟩
      · have e1 : b / 9223372036854775808 = 1 := by omega
        rw [e1]
        simp only [show ((1 : Nat) % 2 == 1) = true from rfl]
        split
        · exact .inr (.inl ⟨_, _, rfl⟩)
        · split
          · exact .inr (.inl ⟨_, _, rfl⟩)
          · split
            · exact .inr (.inr rfl)
            · exact .inl ⟨_, _, rfl⟩

theorem read_inf : double.read infD = .infinity false := by decide

/-- How words that are not below nought compare. -/
theorem order_words {a b : Nat} (ha : a ≤ infD) (hb : b ≤ infD) : double.order a b = some (compare a b) := by
  unfold Format.order
  have key : ∀ r, r < infD → ∃ m e, double.read r = .number false m e ∧ (-1074 : Int) ≤ e ∧ flV (-1074) m e = rungH double r := by
    intro r hr
    have := read_rung double (r := r) (by rw [infD_eq]; exact hr)
    rw [lpD] at this
    exact this
  have cmpN : ∀ x y : Nat, compare x y = if x < y then .lt else if x = y then .eq else .gt := by
    intro x y
    show compareOfLessAndEq x y = _
    rfl
  rcases Nat.lt_or_ge a infD with h1 | h1 <;> rcases Nat.lt_or_ge b infD with h2 | h2
  · obtain ⟨m, i, e1, e2, e3⟩ := key a h1
    obtain ⟨n, j, e4, e5, e6⟩ := key b h2
    rw [e1, e4, order_pos e2 e5, e3, e6, cmpN, cmpN]
    rcases Nat.lt_trichotomy a b with h | h | h
    · rw [if_pos (rungH_strict _ h), if_pos h]
    · subst h; simp
    · have := rungH_strict double h
      rw [if_neg (by omega), if_neg (by omega), if_neg (by omega), if_neg (by omega)]
  · have hb' : b = infD := by omega
    subst hb'
    obtain ⟨m, i, e1, _, _⟩ := key a h1
    rw [e1, read_inf, cmpN, if_pos h1]
    rfl
  · have ha' : a = infD := by omega
    subst ha'
    obtain ⟨m, i, e1, _, _⟩ := key b h2
    rw [e1, read_inf, cmpN, if_neg (by omega), if_neg (by omega)]
    rfl
  · have ha' : a = infD := by omega
    have hb' : b = infD := by omega
    subst ha' hb'
    decide

/-- Below one: the words that are less, and those below nought. -/
theorem order_neg {b : Nat} (h : (∃ m e, double.read b = .number true m e) ∨ double.read b = .infinity true) : double.order b oneD = some .lt := by
  unfold Format.order
  have h1 : double.read oneD = .number false 4503599627370496 (-52) := by decide
  rw [h1]
  rcases h with ⟨m, e, h⟩ | h
  · rw [h]
    unfold Datum.order
    simp only
    congr 1
    have hpos : 0 < 4503599627370496 <<< (-52 - min e (-52)).toNat := by
      rw [Nat.shiftLeft_eq]; exact Nat.mul_pos (by decide) (Nat.two_pow_pos _)
    show compareOfLessAndEq (signed true m (e - min e (-52)).toNat) (signed false 4503599627370496 (-52 - min e (-52)).toNat) = .lt
    unfold compareOfLessAndEq signed
    generalize 4503599627370496 <<< (-52 - min e (-52)).toNat = y at *
    generalize m <<< (e - min e (-52)).toNat = x
    rw [if_pos]
    simp only [if_true, Bool.false_eq_true, if_false]
    omega
  · rw [h]; rfl

/-- The product of two, rounded: by their rungs. -/
def mulR (a b : Nat) : Nat := if rungH double a * rungH double b = 0 then 0 else min (rungOf double (-2148) (rungH double a * rungH double b)) infD

theorem mul_words {a b : Nat} (ha : a < infD) (hb : b < infD) : double.mul a b = some (mulR a b) := by
  obtain ⟨m, i, e1, e2, e3⟩ := read_rung double (r := a) (by rw [infD_eq]; exact ha)
  obtain ⟨n, j, e4, e5, e6⟩ := read_rung double (r := b) (by rw [infD_eq]; exact hb)
  rw [lpD] at e2 e3 e5 e6
  unfold Format.mul
  rw [e1, e4]
  show some (double.nearest (false ^^ false) (m * n) (i + j)) = _
  congr 1
  have hv : flV (-2148) (m * n) (i + j) = rungH double a * rungH double b := by
    rw [← e3, ← e6]
    unfold flV
    have h1 : (i + j - -2148).toNat = (i - -1074).toNat + (j - -1074).toNat := by omega
    rw [h1, Nat.pow_add]
    simp only [Nat.mul_assoc, Nat.mul_left_comm]
  unfold mulR
  rw [← hv]
  by_cases h0 : m * n = 0
  · have : flV (-2148) (m * n) (i + j) = 0 := by unfold flV; rw [h0, Nat.zero_mul]
    rw [if_pos this, h0]
    unfold Format.nearest Format.word
    simp
  · have : flV (-2148) (m * n) (i + j) ≠ 0 := by
      unfold flV
      have := Nat.mul_pos (Nat.pos_of_ne_zero h0) (Nat.two_pow_pos (i + j - -2148).toNat)
      omega
    rw [if_neg this, ← infD_eq]
    exact nearest_rung double h0 (by omega) (by rw [lpD]; omega)

theorem mulR_le (a b : Nat) : mulR a b ≤ infD := by
  unfold mulR
  split
  · unfold infD; omega
  · exact Nat.min_le_right _ _

theorem mulR_mono {a b c : Nat} (h : b ≤ c) : mulR a b ≤ mulR a c := by
  have h1 := rungH_mono double h
  have h2 : rungH double a * rungH double b ≤ rungH double a * rungH double c := Nat.mul_le_mul_left _ h1
  unfold mulR
  by_cases h0 : rungH double a * rungH double b = 0
  · rw [if_pos h0]; omega
  · rw [if_neg h0, if_neg (by omega)]
    have := rungOf_mono double (b := -2148) (by rw [lpD]; omega) h0 h2
    omega

/-- The exponent of the least place. (A name: a power that stands written out is reckoned.) -/
def leastP : Nat := 1074
def infP : Nat := 2046
/-- A word's whole part. -/
def wholeD (r : Nat) : Nat := rungH double r / 2 ^ leastP
theorem wholeD_mono {r s : Nat} (h : r ≤ s) : wholeD r ≤ wholeD s := Nat.div_le_div_right (rungH_mono _ h)

/-- The word of a whole number. -/
def wordN (n : Nat) : Nat := double.nearest false n 0
theorem wordN_mono {n m : Nat} (h : n ≤ m) : wordN n ≤ wordN m := nearest_mono double (b := -1074) (by omega) (by omega) (by rw [lpD]; omega) (by unfold flV; exact Nat.mul_le_mul_right _ h)
theorem wordN_le (n : Nat) : wordN n ≤ infD := by
  unfold wordN Format.nearest Format.word
  rw [infD_eq]
  simp only [Bool.false_eq_true, if_false]
  split
  · unfold infD; omega
  · exact Nat.min_le_right _ _

/-- Down to a whole number. -/
theorem floor_word {r : Nat} (h : r < infD) : double.write ((double.read r).integral .down) = wordN (wholeD r) := by
  obtain ⟨m, i, e1, e2, e3⟩ := read_rung double (r := r) (by rw [infD_eq]; exact h)
  rw [lpD] at e2 e3
  rw [e1]
  show double.nearest false (Toward.down.cut false (m <<< i.toNat) (-i).toNat) 0 = _
  have e4 : (-(-1074 : Int)).toNat = leastP := by decide
  rw [floor_flV e2 (by omega), e3, e4]
  unfold wordN wholeD
  rfl
theorem floor_inf : double.write ((double.read infD).integral .down) = infD := by decide
end Go.Proofs.Ytlgfodlimehppaa
