import Derived.Laws.FloatBits
import Derived.Laws.FloatArith
import Derived.Test.YteeikmpfgbfeoaaGreatWords
import Derived.WalkLawsBesides
import Derived.Laws.Externs
import Derived.Test.YteeikmpfgbfeoaaGreatSumTurn

/-
  Rounding to the nearest: what is not less is not less when it is rounded. Plain facts on the words of floating point numbers.
-/
namespace Go.Proofs.YteeikmpfgbfeoaaGreat
open Ieee

/-- 'n / g' to the nearest, between two the even one. -/
def rnd (n g : Nat) : Nat := n / g + (if g < 2 * (n % g) ∨ (2 * (n % g) = g ∧ n / g % 2 = 1) then 1 else 0)

theorem rnd_le (n g : Nat) : n / g ≤ rnd n g ∧ rnd n g ≤ n / g + 1 := by unfold rnd; split <;> omega

theorem rnd_mono {n m g : Nat} (hg : 0 < g) (h : n ≤ m) : rnd n g ≤ rnd m g := by
  have hd := Nat.div_le_div_right (c := g) h
  rcases Nat.lt_or_ge (n / g) (m / g) with h1 | h1
  · have := (rnd_le n g).2
    have := (rnd_le m g).1
    omega
  · have he : n / g = m / g := by omega
    have e1 := Nat.div_add_mod n g
    have e2 := Nat.div_add_mod m g
    rw [he] at e1
    have hr : n % g ≤ m % g := by omega
    unfold rnd
    rw [he]
    split
    · rename_i hc
      rw [if_pos]
      · omega
      · have := Nat.mod_lt m hg
        omega
    · split <;> omega

theorem rnd_scale (n g k : Nat) (hk : 0 < k) : rnd (n * k) (g * k) = rnd n g := by
  unfold rnd
  rw [Nat.mul_div_mul_right _ _ hk, Nat.mul_mod_mul_right]
  have e1 : (g * k < 2 * (n % g * k)) ↔ (g < 2 * (n % g)) := by
    rw [← Nat.mul_assoc]
    exact Nat.mul_lt_mul_right hk
  have e2 : (2 * (n % g * k) = g * k) ↔ (2 * (n % g) = g) := by
    rw [← Nat.mul_assoc]
    exact Nat.mul_left_inj (by omega)
  simp only [e1, e2]

theorem rnd_one (n : Nat) : rnd n 1 = n := by
  unfold rnd
  rw [Nat.div_one, Nat.mod_one]
  simp

theorem cut_even (neg : Bool) (n drop : Nat) : Toward.even.cut neg n drop = rnd n (2 ^ drop) := by
  unfold Toward.cut
  simp only
  rw [Nat.one_shiftLeft]
  by_cases h : drop ≤ n.log2 + 2
  · rw [Nat.min_eq_left h]
    unfold rnd
    congr 1
    by_cases hc : 2 ^ drop < 2 * (n % 2 ^ drop) ∨ (2 * (n % 2 ^ drop) = 2 ^ drop ∧ n / 2 ^ drop % 2 = 1)
    · rw [if_pos hc]
      have : (decide (2 ^ drop < 2 * (n % 2 ^ drop)) || (2 ^ drop == 2 * (n % 2 ^ drop) && n / 2 ^ drop % 2 == 1)) = true := by
        simp only [Bool.or_eq_true, Bool.and_eq_true, decide_eq_true_eq, beq_iff_eq]
        omega
      rw [this]; rfl
    · rw [if_neg hc]
      have : (decide (2 ^ drop < 2 * (n % 2 ^ drop)) || (2 ^ drop == 2 * (n % 2 ^ drop) && n / 2 ^ drop % 2 == 1)) = false := by
        rw [Bool.eq_false_iff]
        simp only [ne_eq, Bool.or_eq_true, Bool.and_eq_true, decide_eq_true_eq, beq_iff_eq]
        omega
      rw [this]; rfl
  · rw [Nat.min_eq_right (by omega)]
    have hn : n < 2 ^ (n.log2 + 1) := by
      by_cases h0 : n = 0
      · subst h0; exact Nat.two_pow_pos _
      · exact (Nat.log2_lt h0).1 (by omega)
    have h2 : 2 ^ (n.log2 + 2) = 2 * 2 ^ (n.log2 + 1) := by rw [Nat.pow_succ, Nat.mul_comm]
    have h3 : 2 ^ (n.log2 + 2) ≤ 2 ^ drop := Nat.pow_le_pow_right (by omega) (by omega)
    have key : ∀ g, 2 * n < g → n / g = 0 ∧ n % g = n := fun g hg => ⟨Nat.div_eq_of_lt (by omega), Nat.mod_eq_of_lt (by omega)⟩
    obtain ⟨a1, a2⟩ := key (2 ^ (n.log2 + 2)) (by omega)
    obtain ⟨b1, b2⟩ := key (2 ^ drop) (by omega)
    unfold rnd
    rw [a1, a2, b1, b2]
    have : (decide (2 ^ (n.log2 + 2) < 2 * n) || (2 ^ (n.log2 + 2) == 2 * n && 0 % 2 == 1)) = false := by
      rw [Bool.eq_false_iff]
      simp only [ne_eq, Bool.or_eq_true, Bool.and_eq_true, decide_eq_true_eq, beq_iff_eq]
      omega
    rw [this, if_neg (by omega)]
    rfl

/-- 'm * 2 ^ e' in units of '2 ^ b'. -/
def flV (b : Int) (m : Nat) (e : Int) : Nat := m * 2 ^ (e - b).toNat

theorem log2_shift {m : Nat} (hm : m ≠ 0) (k : Nat) : (m * 2 ^ k).log2 = m.log2 + k := by
  have hp := Nat.two_pow_pos k
  refine (Nat.log2_eq_iff (by have := Nat.mul_pos (Nat.pos_of_ne_zero hm) hp; omega)).2 ?_
  have h1 := Nat.log2_self_le hm
  have h2 : m < 2 ^ (m.log2 + 1) := (Nat.log2_lt hm).1 (by omega)
  constructor
  · rw [Nat.pow_add]; exact Nat.mul_le_mul_right _ h1
  · have : 2 ^ (m.log2 + k + 1) = 2 ^ (m.log2 + 1) * 2 ^ k := by rw [← Nat.pow_add]; congr 1; omega
    rw [this]
    exact (Nat.mul_lt_mul_right hp).2 h2

/-- The rung that is nearest to 'v' units of '2 ^ b'. -/
def rungOf (f : Format) (b : Int) (v : Nat) : Nat :=
  (max (b + v.log2 - f.fractionBits) f.leastPlace - f.leastPlace).toNat * f.binade + rnd v (2 ^ (max (b + v.log2 - f.fractionBits) f.leastPlace - b).toNat)

theorem nearest_rung (f : Format) {m : Nat} {e b : Int} (hm : m ≠ 0) (hb : b ≤ e) (hl : b ≤ f.leastPlace) : f.nearest false m e = min (rungOf f b (flV b m e)) f.infRung := by
  unfold Format.nearest Format.word
  rw [if_neg hm]
  simp only [Bool.false_eq_true, if_false]
  unfold rungOf
  have hlog : (flV b m e).log2 = m.log2 + (e - b).toNat := log2_shift hm _
  have e1 : b + ((flV b m e).log2 : Int) - f.fractionBits = e + (m.log2 : Int) - f.fractionBits := by rw [hlog]; omega
  rw [e1]
  generalize hlast : max (e + (m.log2 : Int) - f.fractionBits) f.leastPlace = last at *
  congr 1
  rw [cut_even, Nat.shiftLeft_eq]
  have hbl : b ≤ last := by
    have : f.leastPlace ≤ last := by rw [← hlast]; exact Int.le_max_right _ _
    omega
  unfold flV
  have hk := Nat.two_pow_pos (min e last - b).toNat
  rw [← rnd_scale (m * 2 ^ (e - last).toNat) (2 ^ (last - e).toNat) _ hk, Nat.mul_assoc, ← Nat.pow_add, ← Nat.pow_add]
  have a1 : (e - last).toNat + (min e last - b).toNat = (e - b).toNat := by omega
  have a2 : (last - e).toNat + (min e last - b).toNat = (last - b).toNat := by omega
  rw [a1, a2]

theorem log2_mono {v w : Nat} (hv : v ≠ 0) (h : v ≤ w) : v.log2 ≤ w.log2 :=
  (Nat.le_log2 (by omega)).2 (Nat.le_trans (Nat.log2_self_le hv) h)

theorem rungOf_mono (f : Format) {b : Int} (hl : b ≤ f.leastPlace) {v w : Nat} (hv : v ≠ 0) (h : v ≤ w) : rungOf f b v ≤ rungOf f b w := by
  have hlog := log2_mono hv h
  have hw : w ≠ 0 := by omega
  unfold rungOf
  generalize hLv : max (b + (v.log2 : Int) - f.fractionBits) f.leastPlace = Lv
  generalize hLw : max (b + (w.log2 : Int) - f.fractionBits) f.leastPlace = Lw
  have hle : Lv ≤ Lw := by omega
  have hlv : f.leastPlace ≤ Lv := by omega
  have hB : 0 < f.binade := Nat.two_pow_pos _
  rcases Int.lt_or_le Lv Lw with hlt | hge
  · have hLw' : Lw = b + (w.log2 : Int) - f.fractionBits := by omega
    have hGv := Nat.two_pow_pos (Lv - b).toNat
    have hGw := Nat.two_pow_pos (Lw - b).toNat
    have u1 : v < 2 ^ (Lv - b).toNat * (2 * f.binade) := by
      have h1 : v < 2 ^ (v.log2 + 1) := (Nat.log2_lt hv).1 (by omega)
      have h2 : 2 ^ (v.log2 + 1) ≤ 2 ^ ((Lv - b).toNat + (f.fractionBits + 1)) := Nat.pow_le_pow_right (by omega) (by omega)
      have h3 : 2 ^ ((Lv - b).toNat + (f.fractionBits + 1)) = 2 ^ (Lv - b).toNat * (2 * f.binade) := by
        unfold Format.binade
        rw [Nat.pow_add, Nat.pow_succ 2 f.fractionBits, Nat.mul_comm (2 ^ f.fractionBits) 2]
      omega
    have u2 : v / 2 ^ (Lv - b).toNat < 2 * f.binade := (Nat.div_lt_iff_lt_mul hGv).2 (by rw [Nat.mul_comm]; exact u1)
    have u3 : 2 ^ (Lw - b).toNat * f.binade ≤ w := by
      have h1 := Nat.log2_self_le hw
      have h2 : 2 ^ (Lw - b).toNat * f.binade = 2 ^ w.log2 := by
        unfold Format.binade
        rw [← Nat.pow_add]
        congr 1
        omega
      omega
    have u4 : f.binade ≤ w / 2 ^ (Lw - b).toNat := (Nat.le_div_iff_mul_le hGw).2 (by rw [Nat.mul_comm]; exact u3)
    have r1 := (rnd_le v (2 ^ (Lv - b).toNat)).2
    have r2 := (rnd_le w (2 ^ (Lw - b).toNat)).1
    have key : (Lv - f.leastPlace).toNat * f.binade + f.binade ≤ (Lw - f.leastPlace).toNat * f.binade := by
      rw [← Nat.succ_mul]
      exact Nat.mul_le_mul_right _ (by omega)
    omega
  · have : Lv = Lw := by omega
    subst this
    exact Nat.add_le_add_left (rnd_mono (Nat.two_pow_pos _) h) _

/-- **What is not less is not less when it is rounded.** -/
theorem nearest_mono (f : Format) {m1 m2 : Nat} {e1 e2 b : Int} (h1 : b ≤ e1) (h2 : b ≤ e2) (hl : b ≤ f.leastPlace) (h : flV b m1 e1 ≤ flV b m2 e2) : f.nearest false m1 e1 ≤ f.nearest false m2 e2 := by
  by_cases z1 : m1 = 0
  · subst z1
    unfold Format.nearest Format.word
    simp
  · have hv : flV b m1 e1 ≠ 0 := by
      unfold flV
      have := Nat.mul_pos (Nat.pos_of_ne_zero z1) (Nat.two_pow_pos (e1 - b).toNat)
      omega
    have z2 : m2 ≠ 0 := by
      rintro rfl
      unfold flV at h hv
      rw [Nat.zero_mul] at h
      omega
    rw [nearest_rung f z1 h1 hl, nearest_rung f z2 h2 hl]
    have := rungOf_mono f hl hv h
    omega

/-! ### What a word stands for. -/
/-- The number of a rung, in units of the least place. -/
def rungH (f : Format) (r : Nat) : Nat := if r < f.binade then r else (f.binade + r % f.binade) * 2 ^ (r / f.binade - 1)

theorem rungH_succ (f : Format) (r : Nat) : rungH f r < rungH f (r + 1) := by
  have hB : 0 < f.binade := Nat.two_pow_pos _
  unfold rungH
  generalize f.binade = B at *
  by_cases h1 : r + 1 < B
  · rw [if_pos (by omega), if_pos h1]; omega
  · by_cases h2 : r < B
    · have : r + 1 = B := by omega
      rw [if_pos h2, if_neg h1, this, Nat.mod_self, Nat.div_self hB]
      omega
    · rw [if_neg h2, if_neg h1]
      have e1 := Nat.div_add_mod r B
      have hm := Nat.mod_lt r hB
      have hq : 1 ≤ r / B := (Nat.le_div_iff_mul_le hB).2 (by omega)
      have hp := Nat.two_pow_pos (r / B - 1)
      by_cases h3 : r % B + 1 < B
      · have d1 : (r + 1) / B = r / B := by
          rw [Nat.div_eq_iff hB]
          constructor
          · rw [Nat.mul_comm]; omega
          · rw [Nat.mul_comm]; omega
        have d2 : (r + 1) % B = r % B + 1 := by
          have e2 := Nat.div_add_mod (r + 1) B
          rw [d1] at e2
          omega
        rw [d1, d2]
        exact (Nat.mul_lt_mul_right hp).2 (by omega)
      · have h4 : r % B + 1 = B := by omega
        have h5 : r + 1 = B * (r / B + 1) := by rw [Nat.mul_succ]; omega
        have d1 : (r + 1) / B = r / B + 1 := by rw [h5, Nat.mul_div_cancel_left _ hB]
        have d2 : (r + 1) % B = 0 := by rw [h5, Nat.mul_mod_right]
        rw [d1, d2, Nat.add_zero, Nat.add_sub_cancel]
        have h6 : 2 ^ (r / B) = 2 * 2 ^ (r / B - 1) := by rw [← Nat.pow_succ']; congr 1; omega
        rw [h6, ← Nat.mul_assoc]
        exact (Nat.mul_lt_mul_right hp).2 (by omega)

theorem rungH_strict (f : Format) {r s : Nat} (h : r < s) : rungH f r < rungH f s := by
  induction h with
  | refl => exact rungH_succ f _
  | step _ ih => exact Nat.lt_trans ih (rungH_succ f _)
theorem rungH_mono (f : Format) {r s : Nat} (h : r ≤ s) : rungH f r ≤ rungH f s := by
  rcases Nat.lt_or_ge r s with h1 | h1
  · exact Nat.le_of_lt (rungH_strict f h1)
  · rw [show r = s by omega]; exact Nat.le_refl _

/-- What a word below infinity reads as. -/
theorem read_rung (f : Format) {r : Nat} (h : r < f.infRung) : ∃ m e, f.read r = .number false m e ∧ f.leastPlace ≤ e ∧ flV f.leastPlace m e = rungH f r := by
  have hB : 0 < f.binade := Nat.two_pow_pos _
  have hs := f.infRung_lt
  unfold Format.read
  rw [Nat.div_eq_of_lt (show r < f.signWeight by omega), Nat.mod_eq_of_lt (show r < f.signWeight by omega)]
  simp only
  unfold rungH
  by_cases h1 : r < f.binade
  · rw [if_pos h1, if_pos h1]
    exact ⟨_, _, rfl, by omega, by unfold flV; simp⟩
  · rw [if_neg h1, if_pos h, if_neg h1]
    refine ⟨_, _, rfl, by omega, ?_⟩
    unfold flV
    congr 2
    omega

/-- Down to a whole number. -/
theorem cut_down (n drop : Nat) : Toward.down.cut false n drop = n / 2 ^ drop := by
  unfold Toward.cut
  simp only [Bool.false_and, Bool.toNat_false, Nat.add_zero]
  rw [Nat.one_shiftLeft]
  by_cases h : drop ≤ n.log2 + 2
  · rw [Nat.min_eq_left h]
  · rw [Nat.min_eq_right (by omega)]
    have hn : n < 2 ^ (n.log2 + 1) := by
      by_cases h0 : n = 0
      · subst h0; exact Nat.two_pow_pos _
      · exact (Nat.log2_lt h0).1 (by omega)
    have h2 : 2 ^ (n.log2 + 1) ≤ 2 ^ (n.log2 + 2) := Nat.pow_le_pow_right (by omega) (by omega)
    have h3 : 2 ^ (n.log2 + 2) ≤ 2 ^ drop := Nat.pow_le_pow_right (by omega) (by omega)
    rw [Nat.div_eq_of_lt (by omega), Nat.div_eq_of_lt (by omega)]

theorem floor_flV {m : Nat} {e b : Int} (hb : b ≤ e) (h0 : b ≤ 0) : Toward.down.cut false (m <<< e.toNat) (-e).toNat = flV b m e / 2 ^ (-b).toNat := by
  rw [cut_down, Nat.shiftLeft_eq]
  unfold flV
  rcases Int.lt_or_le e 0 with h | h
  · have e1 : e.toNat = 0 := by omega
    have e2 : (-b).toNat = (-e).toNat + (e - b).toNat := by omega
    rw [e1, Nat.pow_zero, Nat.mul_one, e2, Nat.pow_add, Nat.mul_div_mul_right _ _ (Nat.two_pow_pos _)]
  · have e1 : (-e).toNat = 0 := by omega
    have e2 : (e - b).toNat = e.toNat + (-b).toNat := by omega
    rw [e1, Nat.pow_zero, Nat.div_one, e2, Nat.pow_add, ← Nat.mul_assoc, Nat.mul_div_cancel _ (Nat.two_pow_pos _)]
end Go.Proofs.YteeikmpfgbfeoaaGreat

/-
  Floating point numbers that are exact; how two compare; a part of a number, down to a whole one. Plain facts.
-/
namespace Go.Proofs.YteeikmpfgbfeoaaGreat
open Ieee

theorem rnd_exact (q g : Nat) (hg : 0 < g) : rnd (q * g) g = q := by
  unfold rnd
  rw [Nat.mul_div_cancel _ hg, Nat.mul_mod_left]
  rw [if_neg (by omega)]
  omega

/-- A number of few digits is told exactly. -/
theorem rung_exact (f : Format) {q d : Nat} (hq : q < 2 * f.binade) : rungH f (rungOf f f.leastPlace (q * 2 ^ d)) = q * 2 ^ d := by
  have hB : 0 < f.binade := Nat.two_pow_pos _
  by_cases h0 : q = 0
  · subst h0
    have : rungOf f f.leastPlace 0 = 0 := by
      unfold rungOf rnd
      have e : max (f.leastPlace + ((Nat.log2 0 : Nat) : Int) - f.fractionBits) f.leastPlace = f.leastPlace := by
        rw [Nat.log2_zero]; omega
      rw [e]
      simp
    rw [Nat.zero_mul, this]
    unfold rungH
    rw [if_pos hB]
  · have hlog := log2_shift h0 d
    have hql : q.log2 ≤ f.fractionBits := by
      have : q.log2 < f.fractionBits + 1 := (Nat.log2_lt h0).2 (by
        have : 2 ^ (f.fractionBits + 1) = 2 * f.binade := by unfold Format.binade; rw [Nat.pow_succ, Nat.mul_comm]
        omega)
      omega
    have hq1 := Nat.log2_self_le h0
    have hq2 : q < 2 ^ (q.log2 + 1) := (Nat.log2_lt h0).1 (by omega)
    unfold rungOf
    rw [hlog]
    obtain ⟨s, hs⟩ : ∃ s : Nat, max (f.leastPlace + ((q.log2 + d : Nat) : Int) - f.fractionBits) f.leastPlace = f.leastPlace + (s : Int) := ⟨(max (f.leastPlace + ((q.log2 + d : Nat) : Int) - f.fractionBits) f.leastPlace - f.leastPlace).toNat, by omega⟩
    rw [hs]
    have e1 : (f.leastPlace + (s : Int) - f.leastPlace).toNat = s := by omega
    rw [e1]
    have hsd : s ≤ d := by omega
    have hsv : q * 2 ^ d = q * 2 ^ (d - s) * 2 ^ s := by rw [Nat.mul_assoc, ← Nat.pow_add]; congr 2; omega
    rw [hsv, rnd_exact _ _ (Nat.two_pow_pos _)]
    -- the digits that are kept
    have hk2 : q * 2 ^ (d - s) < 2 * f.binade := by
      have h1 : q * 2 ^ (d - s) < 2 ^ (q.log2 + 1) * 2 ^ (d - s) := (Nat.mul_lt_mul_right (Nat.two_pow_pos _)).2 hq2
      have h2 : 2 ^ (q.log2 + 1) * 2 ^ (d - s) ≤ 2 ^ (f.fractionBits + 1) := by
        rw [← Nat.pow_add]
        exact Nat.pow_le_pow_right (by omega) (by omega)
      have h3 : 2 ^ (f.fractionBits + 1) = 2 * f.binade := by unfold Format.binade; rw [Nat.pow_succ, Nat.mul_comm]
      omega
    have hk1 : 0 < s → f.binade ≤ q * 2 ^ (d - s) := by
      intro hs0
      have h1 : 2 ^ q.log2 * 2 ^ (d - s) ≤ q * 2 ^ (d - s) := Nat.mul_le_mul_right _ hq1
      have h2 : f.binade = 2 ^ q.log2 * 2 ^ (d - s) := by
        unfold Format.binade
        rw [← Nat.pow_add]
        congr 1
        omega
      omega
    generalize q * 2 ^ (d - s) = k at *
    unfold rungH
    generalize f.binade = B at *
    by_cases hkB : k < B
    · have hs0 : s = 0 := by
        rcases Nat.eq_zero_or_pos s with h | h
        · exact h
        · have := hk1 h; omega
      subst hs0
      rw [Nat.zero_mul, Nat.zero_add, if_pos hkB]
      simp
    · have h1 : ¬ s * B + k < B := by omega
      rw [if_neg h1]
      have h2 : s * B + k = B * (s + 1) + (k - B) := by rw [Nat.mul_succ, Nat.mul_comm B s]; omega
      have h3 : k - B < B := by omega
      rw [h2, Nat.mul_add_mod, Nat.mod_eq_of_lt h3, Nat.mul_add_div hB, Nat.div_eq_of_lt h3, Nat.add_zero, Nat.add_sub_cancel]
      congr 1
      omega

/-- How two that are not below nought compare. -/
theorem order_pos {m n : Nat} {i j b : Int} (hi : b ≤ i) (hj : b ≤ j) : Datum.order (.number false m i) (.number false n j) = some (compare (flV b m i) (flV b n j)) := by
  unfold Datum.order
  simp only
  congr 1
  obtain ⟨c, hc⟩ : ∃ c : Int, c = min i j := ⟨_, rfl⟩
  rw [← hc]
  have e1 : flV b m i = (m <<< (i - c).toNat) * 2 ^ (c - b).toNat := by
    unfold flV
    rw [Nat.shiftLeft_eq, Nat.mul_assoc, ← Nat.pow_add]
    congr 2; omega
  have e2 : flV b n j = (n <<< (j - c).toNat) * 2 ^ (c - b).toNat := by
    unfold flV
    rw [Nat.shiftLeft_eq, Nat.mul_assoc, ← Nat.pow_add]
    congr 2; omega
  rw [e1, e2]
  unfold signed
  simp only [Bool.false_eq_true, if_false]
  generalize m <<< (i - c).toNat = x
  generalize n <<< (j - c).toNat = y
  have hp := Nat.two_pow_pos (c - b).toNat
  generalize 2 ^ (c - b).toNat = p at *
  show compareOfLessAndEq (x : Int) (y : Int) = compareOfLessAndEq (x * p) (y * p)
  unfold compareOfLessAndEq
  by_cases h1 : x < y
  · rw [if_pos (by omega), if_pos ((Nat.mul_lt_mul_right hp).2 h1)]
  · rw [if_neg (by omega), if_neg (fun h => h1 ((Nat.mul_lt_mul_right hp).1 h))]
    by_cases h2 : x = y
    · subst h2; simp
    · rw [if_neg (by omega), if_neg (fun h => h2 (Nat.eq_of_mul_eq_mul_right hp h))]
end Go.Proofs.YteeikmpfgbfeoaaGreat

/-
  Words of float64 that are not below one: what they read as, a product rounded, a part down to a whole number. Plain facts.
-/
namespace Go.Proofs.YteeikmpfgbfeoaaGreat
open Ieee

/-- The word of infinity, of 1, of 12. -/
abbrev infD : Nat := 9218868437227405312
abbrev oneD : Nat := 4607182418800017408

theorem infD_eq : double.infRung = infD := by decide
theorem lpD : double.leastPlace = -1074 := by decide
theorem binD : double.binade = 4503599627370496 := by decide
theorem sgnD : double.signWeight = 9223372036854775808 := by decide

/-- A word: below nought, or no number, or one of the rungs up to infinity. -/
theorem word_ways {b : Nat} (h : b < 2 ^ 64) : (b < infD) ∨ b = infD ∨ (∃ s t, double.read b = .nan s t) ∨ (∃ m e, double.read b = .number true m e) ∨ double.read b = .infinity true := by
  by_cases h1 : b < infD
  · exact .inl h1
  · by_cases h2 : b = infD
    · exact .inr (.inl h2)
    · right; right
      unfold Format.read
      rw [infD_eq, binD, sgnD]
      simp only
      by_cases h3 : b < 9223372036854775808
      · have e1 : b / 9223372036854775808 = 0 := Nat.div_eq_of_lt h3
        have e2 : b % 9223372036854775808 = b := Nat.mod_eq_of_lt h3
        rw [e1, e2, if_neg (by unfold infD at *; omega), if_neg h1, if_neg h2]
        exact .inl ⟨_, _, rfl⟩
      · have e1 : b / 9223372036854775808 = 1 := by omega
        rw [e1]
        simp only [show ((1 : Nat) % 2 == 1) = true from rfl]
        split
        · exact .inr (.inl ⟨_, _, rfl⟩)
        · split
          · exact .inr (.inl ⟨_, _, rfl⟩)
          · split
            · exact .inr (.inr rfl)
            · exact .inl ⟨_, _, rfl⟩

theorem read_inf : double.read infD = .infinity false := by decide

/-- How words that are not below nought compare. -/
theorem order_words {a b : Nat} (ha : a ≤ infD) (hb : b ≤ infD) : double.order a b = some (compare a b) := by
  unfold Format.order
  have key : ∀ r, r < infD → ∃ m e, double.read r = .number false m e ∧ (-1074 : Int) ≤ e ∧ flV (-1074) m e = rungH double r := by
    intro r hr
    have := read_rung double (r := r) (by rw [infD_eq]; exact hr)
    rw [lpD] at this
    exact this
  have cmpN : ∀ x y : Nat, compare x y = if x < y then .lt else if x = y then .eq else .gt := by
    intro x y
    show compareOfLessAndEq x y = _
    rfl
  rcases Nat.lt_or_ge a infD with h1 | h1 <;> rcases Nat.lt_or_ge b infD with h2 | h2
  · obtain ⟨m, i, e1, e2, e3⟩ := key a h1
    obtain ⟨n, j, e4, e5, e6⟩ := key b h2
    rw [e1, e4, order_pos e2 e5, e3, e6, cmpN, cmpN]
    rcases Nat.lt_trichotomy a b with h | h | h
    · rw [if_pos (rungH_strict _ h), if_pos h]
    · subst h; simp
    · have := rungH_strict double h
      rw [if_neg (by omega), if_neg (by omega), if_neg (by omega), if_neg (by omega)]
  · have hb' : b = infD := by omega
    subst hb'
    obtain ⟨m, i, e1, _, _⟩ := key a h1
    rw [e1, read_inf, cmpN, if_pos h1]
    rfl
  · have ha' : a = infD := by omega
    subst ha'
    obtain ⟨m, i, e1, _, _⟩ := key b h2
    rw [e1, read_inf, cmpN, if_neg (by omega), if_neg (by omega)]
    rfl
  · have ha' : a = infD := by omega
    have hb' : b = infD := by omega
    subst ha' hb'
    decide

/-- Below one: the words that are less, and those below nought. -/
theorem order_neg {b : Nat} (h : (∃ m e, double.read b = .number true m e) ∨ double.read b = .infinity true) : double.order b oneD = some .lt := by
  unfold Format.order
  have h1 : double.read oneD = .number false 4503599627370496 (-52) := by decide
  rw [h1]
  rcases h with ⟨m, e, h⟩ | h
  · rw [h]
    unfold Datum.order
    simp only
    congr 1
    have hpos : 0 < 4503599627370496 <<< (-52 - min e (-52)).toNat := by
      rw [Nat.shiftLeft_eq]; exact Nat.mul_pos (by decide) (Nat.two_pow_pos _)
    show compareOfLessAndEq (signed true m (e - min e (-52)).toNat) (signed false 4503599627370496 (-52 - min e (-52)).toNat) = .lt
    unfold compareOfLessAndEq signed
    generalize 4503599627370496 <<< (-52 - min e (-52)).toNat = y at *
    generalize m <<< (e - min e (-52)).toNat = x
    rw [if_pos]
    simp only [if_true, Bool.false_eq_true, if_false]
    omega
  · rw [h]; rfl

/-- The product of two, rounded: by their rungs. -/
def mulR (a b : Nat) : Nat := if rungH double a * rungH double b = 0 then 0 else min (rungOf double (-2148) (rungH double a * rungH double b)) infD

theorem mul_words {a b : Nat} (ha : a < infD) (hb : b < infD) : double.mul a b = some (mulR a b) := by
  obtain ⟨m, i, e1, e2, e3⟩ := read_rung double (r := a) (by rw [infD_eq]; exact ha)
  obtain ⟨n, j, e4, e5, e6⟩ := read_rung double (r := b) (by rw [infD_eq]; exact hb)
  rw [lpD] at e2 e3 e5 e6
  unfold Format.mul
  rw [e1, e4]
  show some (double.nearest (false ^^ false) (m * n) (i + j)) = _
  congr 1
  have hv : flV (-2148) (m * n) (i + j) = rungH double a * rungH double b := by
    rw [← e3, ← e6]
    unfold flV
    have h1 : (i + j - -2148).toNat = (i - -1074).toNat + (j - -1074).toNat := by omega
    rw [h1, Nat.pow_add]
    simp only [Nat.mul_assoc, Nat.mul_left_comm]
  unfold mulR
  rw [← hv]
  by_cases h0 : m * n = 0
  · have : flV (-2148) (m * n) (i + j) = 0 := by unfold flV; rw [h0, Nat.zero_mul]
    rw [if_pos this, h0]
    unfold Format.nearest Format.word
    simp
  · have : flV (-2148) (m * n) (i + j) ≠ 0 := by
      unfold flV
      have := Nat.mul_pos (Nat.pos_of_ne_zero h0) (Nat.two_pow_pos (i + j - -2148).toNat)
      omega
    rw [if_neg this, ← infD_eq]
    exact nearest_rung double h0 (by omega) (by rw [lpD]; omega)

theorem mulR_le (a b : Nat) : mulR a b ≤ infD := by
  unfold mulR
  split
  · unfold infD; omega
  · exact Nat.min_le_right _ _

theorem mulR_mono {a b c : Nat} (h : b ≤ c) : mulR a b ≤ mulR a c := by
  have h1 := rungH_mono double h
  have h2 : rungH double a * rungH double b ≤ rungH double a * rungH double c := Nat.mul_le_mul_left _ h1
  unfold mulR
  by_cases h0 : rungH double a * rungH double b = 0
  · rw [if_pos h0]; omega
  · rw [if_neg h0, if_neg (by omega)]
    have := rungOf_mono double (b := -2148) (by rw [lpD]; omega) h0 h2
    omega

/-- The exponent of the least place. (A name: a power that stands written out is reckoned.) -/
def leastP : Nat := 1074
def infP : Nat := 2046
/-- A word's whole part. -/
def wholeD (r : Nat) : Nat := rungH double r / 2 ^ leastP
theorem wholeD_mono {r s : Nat} (h : r ≤ s) : wholeD r ≤ wholeD s := Nat.div_le_div_right (rungH_mono _ h)

/-- The word of a whole number. -/
def wordN (n : Nat) : Nat := double.nearest false n 0
theorem wordN_mono {n m : Nat} (h : n ≤ m) : wordN n ≤ wordN m := nearest_mono double (b := -1074) (by omega) (by omega) (by rw [lpD]; omega) (by unfold flV; exact Nat.mul_le_mul_right _ h)
theorem wordN_le (n : Nat) : wordN n ≤ infD := by
  unfold wordN Format.nearest Format.word
  rw [infD_eq]
  simp only [Bool.false_eq_true, if_false]
  split
  · unfold infD; omega
  · exact Nat.min_le_right _ _

/-- Down to a whole number. -/
theorem floor_word {r : Nat} (h : r < infD) : double.write ((double.read r).integral .down) = wordN (wholeD r) := by
  obtain ⟨m, i, e1, e2, e3⟩ := read_rung double (r := r) (by rw [infD_eq]; exact h)
  rw [lpD] at e2 e3
  rw [e1]
  show double.nearest false (Toward.down.cut false (m <<< i.toNat) (-i).toNat) 0 = _
  have e4 : (-(-1074 : Int)).toNat = leastP := by decide
  rw [floor_flV e2 (by omega), e3, e4]
  unfold wordN wholeD
  rfl
theorem floor_inf : double.write ((double.read infD).integral .down) = infD := by decide
end Go.Proofs.YteeikmpfgbfeoaaGreat

/-
  Whole numbers as words of float64: the lesser one, the greater one, back to a number. Plain facts.
-/
namespace Go.Proofs.YteeikmpfgbfeoaaGreat
open Ieee

theorem rungH_inf : rungH double infD = 4503599627370496 * 2 ^ infP := by
  unfold rungH
  rw [binD, if_neg (by decide)]
  have e1 : infD % 4503599627370496 = 0 := by decide
  have e2 : infD / 4503599627370496 - 1 = infP := by decide
  rw [e1, e2, Nat.add_zero]

theorem wordN_exact {n : Nat} (h : n < 9007199254740992) : wordN n < infD ∧ rungH double (wordN n) = n * 2 ^ leastP := by
  have hB : n < 2 * double.binade := by rw [binD]; omega
  have hx := rung_exact double (d := leastP) hB
  rw [lpD] at hx
  by_cases h0 : n = 0
  · subst h0
    have : wordN 0 = 0 := by decide
    rw [this]
    refine ⟨by decide, ?_⟩
    rw [Nat.zero_mul]
    decide
  · have hw : wordN n = min (rungOf double (-1074) (n * 2 ^ leastP)) infD := by
      have := nearest_rung double (m := n) (e := 0) (b := -1074) h0 (by omega) (by rw [lpD]; omega)
      have e5 : flV (-1074) n 0 = n * 2 ^ leastP := by
        unfold flV
        rw [show ((0 : Int) - -1074).toNat = leastP from by decide]
      rw [infD_eq, e5] at this
      exact this
    have hlt : rungOf double (-1074) (n * 2 ^ leastP) < infD := by
      refine Classical.byContradiction fun hn => ?_
      have h1 := rungH_mono double (show infD ≤ rungOf double (-1074) (n * 2 ^ leastP) by omega)
      rw [hx, rungH_inf] at h1
      have h2 : n * 2 ^ leastP < 2 ^ 53 * 2 ^ leastP := (Nat.mul_lt_mul_right (Nat.two_pow_pos _)).2 (by
        have : (2 : Nat) ^ 53 = 9007199254740992 := by decide
        omega)
      have h3 : (2 : Nat) ^ 53 * 2 ^ leastP ≤ 4503599627370496 * 2 ^ infP := by
        have e1 : (2 : Nat) ^ 53 * 2 ^ leastP = 2 ^ (53 + leastP) := by rw [← Nat.pow_add]
        have key2 : ∀ a b : Nat, a ≤ b → 2 ^ a ≤ 2 ^ b := fun a b h => Nat.pow_le_pow_right (by omega) h
        have e2 := key2 (53 + leastP) infP (by decide)
        have key : ∀ x : Nat, x ≤ 4503599627370496 * x := fun x => by omega
        rw [e1]
        exact Nat.le_trans e2 (key (2 ^ infP))
      omega
    rw [hw, Nat.min_eq_left (Nat.le_of_lt hlt)]
    exact ⟨hlt, hx⟩

theorem wholeD_word {n : Nat} (h : n < 9007199254740992) : wholeD (wordN n) = n := by
  unfold wholeD
  rw [(wordN_exact h).2]
  exact Nat.mul_div_cancel _ (Nat.two_pow_pos _)

theorem wordN_strict {a b : Nat} (h : a < b) (ha : a < 9007199254740992) : wordN a < wordN b := by
  rcases Nat.lt_or_ge b 9007199254740992 with hb | hb
  · refine Classical.byContradiction fun hn => ?_
    have := wholeD_mono (show wordN b ≤ wordN a by omega)
    rw [wholeD_word ha, wholeD_word hb] at this
    omega
  · have h1 := (wordN_exact ha).1
    have h2 : wordN a < wordN 9007199254740992 := by
      have e : wordN 9007199254740992 = 4845873199050653696 := by decide
      rcases Nat.lt_or_ge a 9007199254740991 with h3 | h3
      · refine Nat.lt_of_lt_of_le ?_ (wordN_mono (show 9007199254740991 ≤ 9007199254740992 by omega))
        refine Classical.byContradiction fun hn => ?_
        have := wholeD_mono (show wordN 9007199254740991 ≤ wordN a by omega)
        rw [wholeD_word ha, wholeD_word (by omega)] at this
        omega
      · have : a = 9007199254740991 := by omega
        subst this
        rw [e]
        decide
    exact Nat.lt_of_lt_of_le h2 (wordN_mono hb)

/-- How whole numbers compare as words, one of them small. -/
theorem order_wordN {a b : Nat} (h : a < 9007199254740992) : double.order (wordN a) (wordN b) = some (compare a b) := by
  rw [order_words (wordN_le a) (wordN_le b)]
  have cmpN : ∀ x y : Nat, compare x y = if x < y then .lt else if x = y then .eq else .gt := fun x y => rfl
  rw [cmpN, cmpN]
  rcases Nat.lt_trichotomy a b with h1 | h1 | h1
  · rw [if_pos (wordN_strict h1 h), if_pos h1]
  · subst h1; simp
  · have := wordN_strict h1 (by omega)
    rw [if_neg (by omega), if_neg (by omega), if_neg (by omega), if_neg (by omega)]

theorem cut_zero (n drop : Nat) : Toward.zero.cut false n drop = n / 2 ^ drop := by
  have := cut_down n drop
  unfold Toward.cut at *
  simpa using this

/-- Back to a number. -/
theorem toInt_wordN {n : Nat} (h : n < 9007199254740992) : floatToIntVal .f64 (wordN n) .i64 = some (n : Int) := by
  obtain ⟨m, i, e1, e2, e3⟩ := read_rung double (r := wordN n) (by rw [infD_eq]; exact (wordN_exact h).1)
  rw [lpD] at e2 e3
  unfold floatToIntVal
  have hd : FloatKind.f64.decode (wordN n) = .number false m i := e1
  rw [hd]
  have hc : Toward.zero.cut false (m <<< i.toNat) (-i).toNat = n := by
    have h1 := floor_flV (m := m) e2 (by omega)
    rw [cut_down] at h1
    rw [cut_zero, h1, e3]
    have e4 : (-(-1074 : Int)).toNat = leastP := by decide
    rw [e4]
    exact wholeD_word h
  have ht : (Datum.number false m i).toInt .zero = some (n : Int) := by
    unfold Datum.toInt Datum.integral
    simp only
    rw [hc]
    unfold signed
    simp
  rw [ht]
  simp only
  rw [if_pos]
  simp only [IntKind.min, IntKind.max, IntKind.signed, IntKind.bits]
  simp
  omega
end Go.Proofs.YteeikmpfgbfeoaaGreat

/-
  math.Floor, math.IsNaN; what the document's Probes does, for every word.
-/
namespace Go.Proofs.YteeikmpfgbfeoaaGreat
open Go.RowKit Ieee

/-- What math.archFloor does, by what its word stands for. -/
noncomputable def archF (b : Nat) (d : Datum) : Sem Value :=
  Datum.casesOn d (fun s m i => pure (.float .f64 (FloatKind.f64.encode ((Datum.number s m i).integral .down)))) (fun s => pure (.float .f64 (FloatKind.f64.encode ((Datum.infinity s).integral .down))))
    fun s t => if FloatKind.f64.format.quiet t = t then pure (.float .f64 b) else do
      let kept ← choose (.extern "math.Floor,Ceil,Trunc,RoundToEven.signallingNaN kept" 2)
      pure (.float .f64 (if kept == 1 then b else FloatKind.f64.encode (.nan s (FloatKind.f64.format.quiet t))))
theorem archF_eq (b : Nat) : Extern.MathFloor.toIntegral "math.archFloor" .down #[.float .f64 b] = archF b (FloatKind.f64.decode b) := by
  show (match FloatKind.f64.decode b with
    | .nan s t => _
    | d => _) = _
  cases FloatKind.f64.decode b <;> rfl

set_option maxRecDepth 100000 in
theorem run_archFloor {b : Nat} (h : ∀ s t, double.read b ≠ .nan s t) (w : World) : (callFunc 87 #[.float .f64 b]).run Tryz.prog w = .ok (.value (.float .f64 (double.write ((double.read b).integral .down)))) w := by
  rw [run_callFunc_extern (e := Extern.MathFloor.toIntegral "math.archFloor" .down) Tryz.func87 (by kernel_rfl) (by kernel_rfl) (by kernel_rfl) (by kernel_rfl), archF_eq]
  have e : FloatKind.f64.decode b = double.read b := rfl
  rw [e]
  cases hr : double.read b with
  | nan s t => exact absurd hr (h s t)
  | number s m i => rfl
  | infinity s => rfl

set_option maxRecDepth 100000 in
theorem floor_any {b : Nat} (h : ∀ s t, double.read b ≠ .nan s t) (w : World) : Calls Tryz.prog 62 #[.float .f64 b] w fun e w' => e = .returned (.float .f64 (double.write ((double.read b).integral .down))) ∧ w = w' := by
  have hfl := run_archFloor h
  generalize double.write ((double.read b).integral .down) = r at *
  clear h
  go_enter Tryz.func62, Tryz.ntmps62
  go_wp2
  go_ret
  exact ⟨rfl, rfl⟩

set_option maxRecDepth 100000 in
theorem isNaN_any (b : Nat) (w : World) : Calls Tryz.prog 79 #[.float .f64 b] w fun e w' => e = .returned (.bool (double.order b b != some .eq)) ∧ w = w' := by
  go_enter Tryz.func79, Tryz.ntmps79
  go_wp2
  go_ret
  exact ⟨rfl, rfl⟩

theorem order_nan {b : Nat} (h : ∃ s t, double.read b = .nan s t) (c : Nat) : double.order b c = none := by
  obtain ⟨s, t, h⟩ := h
  unfold Format.order
  rw [h]
  rfl
theorem order_self {b : Nat} (h : ∀ s t, double.read b ≠ .nan s t) : double.order b b = some .eq := by
  unfold Format.order
  cases hr : double.read b with
  | nan s t => exact absurd hr (h s t)
  | number s m i =>
    unfold Datum.order
    simp only
    congr 1
    show compareOfLessAndEq (signed s m (i - min i i).toNat) (signed s m (i - min i i).toNat) = .eq
    unfold compareOfLessAndEq
    rw [if_neg (Int.lt_irrefl _), if_pos rfl]
  | infinity s =>
    unfold Datum.order
    simp only
    cases s <;> rfl

/-- 0.7 as a word. -/
abbrev sevenD : Nat := 4604480259023595110
/-- How often a filter is asked. -/
def probesW (b : Nat) : Nat := if oneD ≤ b ∧ b ≤ infD then max 1 (min 12 (if b = infD then 12 else wholeD (mulR sevenD b))) else 0

/-- A word in one of three ways: no number; below one; one or more. -/
theorem probes_ways {b : Nat} (h : b < 2 ^ 64) : ((∃ s t, double.read b = .nan s t) ∧ probesW b = 0) ∨ ((∀ s t, double.read b ≠ .nan s t) ∧ double.order b oneD = some .lt ∧ probesW b = 0) ∨ (oneD ≤ b ∧ b ≤ infD ∧ (∀ s t, double.read b ≠ .nan s t)) := by
  have key : ∀ r, r < infD → ∀ s t, double.read r ≠ .nan s t := fun r hr s t he => by
    obtain ⟨m, i, e1, _, _⟩ := read_rung double (r := r) (by rw [infD_eq]; exact hr)
    rw [e1] at he
    cases he
  have big : ∀ s m e, (double.read b = .nan s m ∨ double.read b = .number true m e ∨ double.read b = .infinity true) → probesW b = 0 := by
    intro s m e hr
    unfold probesW
    rw [if_neg]
    rintro ⟨_, h2⟩
    rcases Nat.lt_or_ge b infD with h3 | h3
    · obtain ⟨m', i, e1, _, _⟩ := read_rung double (r := b) (by rw [infD_eq]; exact h3)
      rcases hr with hr | hr | hr <;> rw [e1] at hr <;> cases hr
    · have : b = infD := by omega
      subst this
      rcases hr with hr | hr | hr <;> rw [read_inf] at hr <;> cases hr
  rcases word_ways h with h1 | h1 | ⟨s, t, h1⟩ | ⟨m, e, h1⟩ | h1
  · rcases Nat.lt_or_ge b oneD with h2 | h2
    · refine .inr (.inl ⟨key b h1, ?_, ?_⟩)
      · rw [order_words (Nat.le_of_lt h1) (by decide)]
        congr 1
        show compareOfLessAndEq b oneD = .lt
        unfold compareOfLessAndEq
        rw [if_pos h2]
      · unfold probesW; rw [if_neg (by omega)]
    · exact .inr (.inr ⟨h2, Nat.le_of_lt h1, key b h1⟩)
  · subst h1
    exact .inr (.inr ⟨by decide, Nat.le_refl _, fun s t he => by rw [read_inf] at he; cases he⟩)
  · exact .inl ⟨⟨s, t, h1⟩, big s t 0 (.inl h1)⟩
  · exact .inr (.inl ⟨fun s t he => (by rw [h1] at he; cases he), order_neg (.inl ⟨m, e, h1⟩), big true m e (.inr (.inl h1))⟩)
  · exact .inr (.inl ⟨fun s t he => (by rw [h1] at he; cases he), order_neg (.inr h1), big true 0 0 (.inr (.inr h1))⟩)

theorem compare_nat (x y : Nat) : compare x y = if x < y then .lt else if x = y then .eq else .gt := rfl

/-- The lesser one of two words, the greater one. -/
theorem run_min_words {P : Program} {a b : Nat} (ha : a ≤ infD) (hb : b ≤ infD) (ts : Array TypeId) (t : TypeId) (w : World) : (Builtin.min_ ts t #[.float .f64 a, .float .f64 b]).run P w = .ok (.float .f64 (min a b)) w := by
  have ho : FloatKind.f64.format.order a b = some (compare a b) := order_words ha hb
  rw [compare_nat] at ho
  rcases Nat.lt_trichotomy a b with h | h | h
  · rw [if_pos h] at ho
    rw [Nat.min_eq_left (Nat.le_of_lt h)]
    simp [Builtin.min_, Builtin.min2, ho]
  · subst h
    rw [if_neg (by omega), if_pos rfl] at ho
    rw [Nat.min_self]
    simp [Builtin.min_, Builtin.min2, ho]
  · rw [if_neg (by omega), if_neg (by omega)] at ho
    rw [Nat.min_eq_right (Nat.le_of_lt h)]
    simp [Builtin.min_, Builtin.min2, ho]
theorem run_max_words {P : Program} {a b : Nat} (ha : a ≤ infD) (hb : b ≤ infD) (ts : Array TypeId) (t : TypeId) (w : World) : (Builtin.max_ ts t #[.float .f64 a, .float .f64 b]).run P w = .ok (.float .f64 (max a b)) w := by
  have ho : FloatKind.f64.format.order a b = some (compare a b) := order_words ha hb
  rw [compare_nat] at ho
  rcases Nat.lt_trichotomy a b with h | h | h
  · rw [if_pos h] at ho
    rw [Nat.max_eq_right (Nat.le_of_lt h)]
    simp [Builtin.max_, Builtin.max2, ho]
  · subst h
    rw [if_neg (by omega), if_pos rfl] at ho
    rw [Nat.max_self]
    simp [Builtin.max_, Builtin.max2, ho]
  · rw [if_neg (by omega), if_neg (by omega)] at ho
    rw [Nat.max_eq_left (Nat.le_of_lt h)]
    simp [Builtin.max_, Builtin.max2, ho]
theorem min_wordN (a b : Nat) : min (wordN a) (wordN b) = wordN (min a b) := by
  rcases Nat.le_total a b with h | h
  · rw [Nat.min_eq_left h, Nat.min_eq_left (wordN_mono h)]
  · rw [Nat.min_eq_right h, Nat.min_eq_right (wordN_mono h)]
theorem max_wordN (a b : Nat) : max (wordN a) (wordN b) = wordN (max a b) := by
  rcases Nat.le_total a b with h | h
  · rw [Nat.max_eq_right h, Nat.max_eq_right (wordN_mono h)]
  · rw [Nat.max_eq_left h, Nat.max_eq_left (wordN_mono h)]

/-- What 0.7 times a word is, down to a whole number. -/
theorem seven_times {b : Nat} (h1 : oneD ≤ b) (h2 : b ≤ infD) : ∃ r, floatBits .mul .f64 sevenD b = some r ∧ (∀ s t, double.read r ≠ .nan s t) ∧ ((double.write ((double.read r).integral .down) = infD ∧ probesW b = 12) ∨ ∃ k, double.write ((double.read r).integral .down) = wordN k ∧ probesW b = max 1 (min 12 k)) := by
  have key : ∀ r, r ≤ infD → ∀ s t, double.read r ≠ .nan s t := fun r hr s t he => by
    rcases Nat.lt_or_ge r infD with h3 | h3
    · obtain ⟨m, i, e1, _, _⟩ := read_rung double (r := r) (by rw [infD_eq]; exact h3)
      rw [e1] at he; cases he
    · have : r = infD := by omega
      subst this
      rw [read_inf] at he; cases he
  by_cases hb : b = infD
  · subst hb
    refine ⟨infD, by decide, key _ (Nat.le_refl _), .inl ⟨floor_inf, ?_⟩⟩
    unfold probesW
    rw [if_pos ⟨h1, h2⟩, if_pos rfl]
    rfl
  · have hlt : b < infD := by omega
    refine ⟨mulR sevenD b, mul_words (by decide) hlt, key _ (mulR_le _ _), ?_⟩
    have hp : probesW b = max 1 (min 12 (wholeD (mulR sevenD b))) := by
      unfold probesW
      rw [if_pos ⟨h1, h2⟩, if_neg hb]
    rcases Nat.lt_or_ge (mulR sevenD b) infD with h3 | h3
    · exact .inr ⟨_, floor_word h3, hp⟩
    · have h4 : mulR sevenD b = infD := by have := mulR_le sevenD b; omega
      rw [h4] at hp ⊢
      refine .inl ⟨floor_inf, ?_⟩
      rw [hp]
      have : 12 ≤ wholeD infD := by
        have h5 := wholeD_mono (wordN_le 12)
        rw [wholeD_word (by omega)] at h5
        exact h5
      omega

set_option maxRecDepth 100000 in
set_option maxHeartbeats 2000000 in
theorem rprobes_any {b : Nat} (hb : (Lit.float .f64 b).wf = true) (w : World) : Calls Tryz.prog 61 #[.float .f64 b] w fun e w' => e = .returned (.int .i64 (probesW b : Int)) ∧ w = w' := by
  have hb' : b < 2 ^ 64 := by simpa [Lit.wf] using hb
  rcases probes_ways hb' with ⟨h1, h2⟩ | ⟨h1, h2, h3⟩ | ⟨h1, h2, h3⟩
  · have ho : FloatKind.f64.format.order b oneD = none := order_nan h1 _
    have hn := order_nan h1 b
    rw [h2]
    have HN := Lib.hid (isNaN_any b)
    rw [hn] at HN
    clear h1 h2 hb hb' hn
    go_enter Tryz.func61, Tryz.ntmps61
    go_wp2_with (go_at_call 79; (refine (HN.out _).mono ?_); rintro e w1 ⟨rfl, rfl⟩)
    go_ret
    exact ⟨rfl, rfl⟩
  · have ho : FloatKind.f64.format.order b oneD = some .lt := h2
    have hn := order_self h1
    rw [h3]
    have HN := Lib.hid (isNaN_any b)
    rw [hn] at HN
    clear h1 h2 h3 hb hb' hn
    go_enter Tryz.func61, Tryz.ntmps61
    go_wp2_with (go_at_call 79; (refine (HN.out _).mono ?_); rintro e w1 ⟨rfl, rfl⟩)
    go_ret
    exact ⟨rfl, rfl⟩
  · have hn := order_self h3
    have HN := Lib.hid (isNaN_any b)
    rw [hn] at HN
    have ho : (FloatKind.f64.format.order b oneD == some .lt) = false := by
      have : FloatKind.f64.format.order b oneD = some (compare b oneD) := order_words h2 (by decide)
      rw [this]
      have : compare b oneD ≠ .lt := by
        show compareOfLessAndEq b oneD ≠ .lt
        unfold compareOfLessAndEq
        rw [if_neg (by omega)]
        split <;> decide
      simpa using this
    obtain ⟨r, hr, hrn, hrw⟩ := seven_times h1 h2
    have hmul : ∀ (t : TypeId) (w : World), (binOp .mul t (.float .f64 sevenD) (.float .f64 b)).run Tryz.prog w = .ok (.float .f64 r) w := fun t w => run_float_arith w .mul t .f64 sevenD b r hr
    have HF := Lib.hid (floor_any hrn)
    have e12 : wordN 12 = 4622945017495814144 := by decide
    have e1 : wordN 1 = oneD := by decide
    obtain ⟨W, hW⟩ : ∃ W, W = double.write ((double.read r).integral .down) := ⟨_, rfl⟩
    have hfin : W ≤ infD ∧ max (wordN 1) (min (wordN 12) W) = wordN (probesW b) ∧ probesW b ≤ 12 := by
      rcases hrw with ⟨g1, g2⟩ | ⟨k, g1, g2⟩
      · rw [hW, g1, g2, Nat.min_eq_left (wordN_le 12), max_wordN]
        exact ⟨Nat.le_refl _, rfl, by omega⟩
      · rw [hW, g1, g2, min_wordN, max_wordN]
        exact ⟨wordN_le k, rfl, by omega⟩
    rw [← hW] at HF
    have hmin := fun ts t w => run_min_words (P := Tryz.prog) (wordN_le 12) hfin.1 ts t w
    have hmax := fun ts t w => run_max_words (P := Tryz.prog) (wordN_le 1) (show min (wordN 12) W ≤ infD from Nat.le_trans (Nat.min_le_left _ _) (wordN_le 12)) ts t w
    have hcv := fun w => run_convert_float_int (P := Tryz.prog) w 23 3 .f64 .i64 (wordN (probesW b)) _ (by kernel_rfl) Tryz.underlying3 (toInt_wordN (by have := hfin.2.2; omega))
    rw [hfin.2.1] at hmax
    rw [e12] at hmin hmax
    rw [e1] at hmax
    generalize wordN (probesW b) = m2 at *
    generalize min 4622945017495814144 W = m1 at *
    clear hb hb' hn hr hrn hrw hW hfin e12 e1
    go_enter Tryz.func61, Tryz.ntmps61
    go_wp2_with (first | (go_at_call 79; (refine (HN.out _).mono ?_); rintro e w1 ⟨rfl, rfl⟩) | (go_at_call 62; (refine (HF.out _).mono ?_); rintro e w1 ⟨rfl, rfl⟩))
    go_ret
    exact ⟨rfl, rfl⟩
end Go.Proofs.YteeikmpfgbfeoaaGreat

/-
  What sum.Hash does, for all that it is given, and the document's.
-/
namespace Go.Proofs.YteeikmpfgbfeoaaGreat
open Go.RowKit

theorem hashG_take (h : Nat) (l : List UInt8) (k : Nat) (hk : k < l.length) : hashG h (l.take (k + 1)) = hashB (hashG h (l.take k)) (l.getD k 0) := by
  rw [take_snoc' l k hk, hashG_snoc]

theorem hash_step (x : Nat) (c : UInt8) (hx : x < 4294967296) : bits .xor .u32 (x : Int) (c.toNat : Int) * 16777619 % 4294967296 = ((hashB x c : Nat) : Int) := by
  have := c.toNat_lt
  rw [xor_u32 _ _ hx (by omega), hashB]
  generalize x ^^^ c.toNat = z
  omega

theorem str_size (s : ByteArray) : s.data.toList.length = s.size := by rw [Array.length_toList]; rfl

set_option maxRecDepth 100000 in
set_option maxHeartbeats 1000000 in
theorem hash_any (s : ByteArray) (hs : s.size ≤ maxLen) (w : World) :
    Calls Tryz.prog 82 #[.string s] w fun e w' => e = .returned (.int .i64 (hashL s.data.toList : Nat)) ∧ w = w' := by
  have hsz := str_size s
  unfold maxLen at hs
  go_enter Tryz.func82, Tryz.ntmps82
  go_wp2
  go_loop [3, 7] (fun x i => ∃ k : Nat, k ≤ s.size ∧ i = .int .i64 k ∧ x = .int .u32 (hashG 2166136261 (s.data.toList.take k) : Nat)) (fun _ i => s.size - (intOf i).toNat)
  case atStart => exact ⟨0, Nat.zero_le _, rfl, rfl⟩
  case round =>
    obtain ⟨k, hk, rfl, rfl⟩ := hrel
    have hlt := hashG_lt 2166136261 (by decide) (s.data.toList.take k)
    by_cases hkl : k < s.size
    · have hst := hashG_take 2166136261 s.data.toList k (by omega)
      have hnx := hash_step (hashG 2166136261 (s.data.toList.take k)) (s.data.toList.getD k 0) hlt
      have hsk : s[k] = s.data.toList.getD k 0 := by
        simp only [ByteArray.getElem_eq_getElem_data, List.getD_eq_getElem?_getD]
        rw [List.getElem?_eq_getElem (by omega)]
        simp
      have hcb := byte_le (s.data.toList.getD k 0)
      have hm : ((s[k].toNat : Int) % 4294967296) = ((s.data.toList.getD k 0).toNat : Int) := by rw [hsk]; omega
      rw [← hm] at hnx
      clear hsk hcb hm
      generalize s.data.toList.getD k 0 = c at *
      generalize hashG 2166136261 (s.data.toList.take k) = x at *
      have hr := hnx.trans (congrArg (fun n : Nat => (n : Int)) hst.symm)
      have H := Lib.hid hr
      clear hr hnx hst
      go_wp2
      go_round
      case rel => exact ⟨k + 1, by omega, by go_num, congrArg (Value.int .u32) H.out⟩
      case measure => simp [intOf]; omega
    · obtain rfl : k = s.size := by omega
      have he : s.data.toList.take s.size = s.data.toList := by rw [← hsz, List.take_length]
      have hh : hashG 2166136261 (s.data.toList.take s.size) = hashL s.data.toList := by rw [he]; rfl
      rw [hh]
      clear hh he hlt
      have hx := hashL_lt s.data.toList
      generalize hq : hashL s.data.toList = x at *
      have HQ := Lib.hid hq
      clear hq
      go_wp2
      go_ret
      exact ⟨congrArg (fun n : Nat => Ending.returned (.int .i64 (n : Int))) HQ.out.symm, rfl⟩

set_option maxRecDepth 100000 in
set_option maxHeartbeats 1000000 in
theorem rhash_any (s : ByteArray) (hs : s.size ≤ maxLen) (w : World) :
    Calls Tryz.prog 63 #[.string s] w fun e w' => e = .returned (.int .i64 (hashL s.data.toList : Nat)) ∧ w = w' := by
  have hsz := str_size s
  unfold maxLen at hs
  go_enter Tryz.func63, Tryz.ntmps63
  go_wp2
  go_loop [3, 4] (fun x i => ∃ k : Nat, k ≤ s.size ∧ i = .int .i64 k ∧ x = .int .u32 (hashG 2166136261 (s.data.toList.take k) : Nat)) (fun _ i => s.size - (intOf i).toNat)
  case atStart => exact ⟨0, Nat.zero_le _, rfl, rfl⟩
  case round =>
    obtain ⟨k, hk, rfl, rfl⟩ := hrel
    have hlt := hashG_lt 2166136261 (by decide) (s.data.toList.take k)
    by_cases hkl : k < s.size
    · have hst := hashG_take 2166136261 s.data.toList k (by omega)
      have hnx := hash_step (hashG 2166136261 (s.data.toList.take k)) (s.data.toList.getD k 0) hlt
      have hsk : s[k] = s.data.toList.getD k 0 := by
        simp only [ByteArray.getElem_eq_getElem_data, List.getD_eq_getElem?_getD]
        rw [List.getElem?_eq_getElem (by omega)]
        simp
      have hcb := byte_le (s.data.toList.getD k 0)
      have hm : ((s[k].toNat : Int) % 4294967296) = ((s.data.toList.getD k 0).toNat : Int) := by rw [hsk]; omega
      rw [← hm] at hnx
      clear hsk hcb hm
      generalize s.data.toList.getD k 0 = c at *
      generalize hashG 2166136261 (s.data.toList.take k) = x at *
      have hr := hnx.trans (congrArg (fun n : Nat => (n : Int)) hst.symm)
      have H := Lib.hid hr
      clear hr hnx hst
      go_wp2
      go_round
      case rel => exact ⟨k + 1, by omega, by go_num, congrArg (Value.int .u32) H.out⟩
      case measure => simp [intOf]; omega
    · obtain rfl : k = s.size := by omega
      have he : s.data.toList.take s.size = s.data.toList := by rw [← hsz, List.take_length]
      have hh : hashG 2166136261 (s.data.toList.take s.size) = hashL s.data.toList := by rw [he]; rfl
      rw [hh]
      clear hh he hlt
      have hx := hashL_lt s.data.toList
      generalize hq : hashL s.data.toList = x at *
      have HQ := Lib.hid hq
      clear hq
      go_wp2
      go_ret
      exact ⟨congrArg (fun n : Nat => Ending.returned (.int .i64 (n : Int))) HQ.out.symm, rfl⟩
end Go.Proofs.YteeikmpfgbfeoaaGreat

/-
  What bytes say of a key: what the document's MayBe does.
-/
namespace Go.Proofs.YteeikmpfgbfeoaaGreat
open Go.RowKit

theorem or_u32 (a b : Nat) (ha : a < 2 ^ 32) (hb : b < 2 ^ 32) : bits .or .u32 (a : Int) (b : Int) = ((a ||| b : Nat) : Int) := by
  have hx : a ||| b < 2 ^ 32 := Nat.or_lt_two_pow ha hb
  show IntKind.u32.wrap ((BitVec.ofInt 32 (a : Int) ||| BitVec.ofInt 32 (b : Int)).toNat : Int) = _
  rw [BitVec.toNat_or, ofInt_u32 a ha, ofInt_u32 b hb, IntKind.wrap_u32']
  omega

/-- A hash turned to the right by 17 of 32 bits. -/
def rot17 (h : Nat) : Nat := (h / 131072) ||| (h * 32768 % 4294967296)
theorem rot17_lt {h : Nat} (hh : h < 4294967296) : rot17 h < 4294967296 := Nat.or_lt_two_pow (n := 32) (show h / 131072 < 2 ^ 32 by omega) (show h * 32768 % 4294967296 < 2 ^ 32 by omega)
theorem rot17_bits {h : Nat} (hh : h < 4294967296) : bits .or .u32 ((h : Int) / 131072) ((h : Int) * 32768 % 4294967296) = ((rot17 h : Nat) : Int) := by
  have := or_u32 (h / 131072) (h * 32768 % 4294967296) (by omega) (by omega)
  rw [← show (((h / 131072 : Nat)) : Int) = (h : Int) / 131072 by omega, ← show (((h * 32768 % 4294967296 : Nat)) : Int) = (h : Int) * 32768 % 4294967296 by omega]
  exact this
/-- The j-th bit that is asked. -/
def bitX (h m j : Nat) : Nat := (h + j * rot17 h) % 4294967296 % (8 * m)
theorem bitX_int (h m j : Nat) : ((h : Int) + (j : Int) * ((rot17 h : Nat) : Int)) % 4294967296 % (8 * (m : Int)) = ((bitX h m j : Nat) : Int) := by
  unfold bitX
  rw [Int.natCast_emod, Int.natCast_emod, Int.natCast_add, Int.natCast_mul, Int.natCast_mul]
  rfl
theorem bitX_lt {h m j : Nat} (hm : 0 < m) : bitX h m j < 8 * m := Nat.mod_lt _ (by omega)

theorem and_one_u8 (a : Nat) (ha : a < 256) : bits .and .u8 (a : Int) 1 = ((a % 2 : Nat) : Int) := by
  have h1 : (BitVec.ofInt 8 1).toNat = 1 := by decide
  have h2 : (BitVec.ofInt 8 (a : Int)).toNat = a := by
    rw [BitVec.ofInt_natCast, BitVec.toNat_ofNat]
    exact Nat.mod_eq_of_lt (by omega)
  show IntKind.u8.wrap ((BitVec.ofInt 8 (a : Int) &&& BitVec.ofInt 8 1).toNat : Int) = _
  rw [BitVec.toNat_and, h2, h1, Nat.and_one_is_mod]
  rw [IntKind.wrap_u8]
  omega

/-- Is the bit set? -/
def hasBit (f : List UInt8) (x : Nat) : Bool := (f.getD (x / 8) 0).toNat / 2 ^ (x % 8) % 2 == 1
/-- May the key with this hash be there? -/
def mayL (f : List UInt8) (h : Nat) : Bool :=
  if f.length < 2 then true else if (f.getD (f.length - 1) 0).toNat = 0 ∨ 12 < (f.getD (f.length - 1) 0).toNat then true
  else (List.range (f.getD (f.length - 1) 0).toNat).all fun j => hasBit f (bitX h (f.length - 1) j)

theorem may_yes {f : List UInt8} {h m n : Nat} (h1 : ∀ j, j < n → hasBit f (bitX h m j) = true) : ((List.range n).all fun j => hasBit f (bitX h m j)) = true := by
  rw [List.all_eq_true]
  intro j hj
  exact h1 j (List.mem_range.1 hj)
theorem may_no {f : List UInt8} {h m n j : Nat} (hj : j < n) (h1 : hasBit f (bitX h m j) = false) : ((List.range n).all fun j => hasBit f (bitX h m j)) = false := by
  rw [List.all_eq_false]
  exact ⟨j, List.mem_range.2 hj, by rw [h1]; simp⟩

theorem mayret {a b : Bool} (h : a = b) : Ending.returned (.bool a) = .returned (.bool b) := by rw [h]

set_option maxRecDepth 100000 in
set_option maxHeartbeats 4000000 in
theorem rmaybe_any (v : Value) (f : List UInt8) (key : ByteArray) (hk : key.size ≤ maxLen) (w : World) (hv : RdB w v f) (hl : f.length ≤ 1000000) :
    Calls Tryz.prog 36 #[v, .string key] w fun e w' => e = .returned (.bool (mayL f (hashL key.data.toList))) ∧ w = w' := by
  obtain ⟨a, cap, rfl, h1, h2, h0, h3⟩ := hv
  have HH := Lib.hid (rhash_any key hk)
  have hh := hashL_lt key.data.toList
  generalize hashL key.data.toList = h at *
  have hhm : (h : Int) % 4294967296 = (h : Int) := by omega
  have hrot := rot17_bits hh
  have hrl := rot17_lt hh
  by_cases g1 : f.length < 2
  · have HR := Lib.hid (show mayL f h = true by unfold mayL; rw [if_pos g1])
    have g1' : (f.length : Int) < 2 := by omega
    clear h3 h0
    go_enter Tryz.func36, Tryz.ntmps36
    go_wp2
    go_ret
    exact ⟨mayret HR.out.symm, rfl⟩
  · rcases h3 with ⟨h3, _⟩ | ⟨b, off, rfl, h4, h5⟩
    · omega
    · obtain ⟨m, hm⟩ : ∃ m, f.length = m + 1 := ⟨f.length - 1, by omega⟩
      have hbytes : ∀ i, i < m + 1 → w.cell? ⟨b, off + i, none⟩ = some (.int .u8 ((f.getD i 0).toNat : Int)) := fun i hi => by
        refine h5 i _ ?_
        rw [List.getElem?_map, List.getElem?_eq_getElem (by omega)]
        simp [List.getD, show i < f.length by omega, bv]
      have hn := hbytes m (by omega)
      have HBY := Lib.hid hbytes
      clear hbytes
      have hnb := byte_le (f.getD m 0)
      have HML := Lib.hid (show mayL f h = if (f.getD m 0).toNat = 0 ∨ 12 < (f.getD m 0).toNat then true else (List.range (f.getD m 0).toNat).all fun j => hasBit f (bitX h m j) by
        unfold mayL
        rw [if_neg g1, hm, Nat.add_sub_cancel])
      generalize (f.getD m 0).toNat = n at *
      rw [hm] at g1 h1 hl ⊢
      unfold maxLen at *
      clear h5 h0 hm
      have g1' : ¬ (m : Int) + 1 < 2 := by omega
      have e1 : ((m + 1 : Nat) : Int) = (m : Int) + 1 := by omega
      have d1 : IntKind.i64.wrap ((m : Int) + 1 - 1) = (m : Int) := by rw [IntWalk.i64_in _ (by omega)]; omega
      have d3 : IntKind.i64.wrap (n : Int) = (n : Int) := IntWalk.i64_in _ (by omega)
      have d2 : IntKind.i64.wrap (8 * (m : Int)) = 8 * (m : Int) := IntWalk.i64_in _ (by omega)
      by_cases g2 : n = 0
      · have HR := Lib.hid (show mayL f h = true by rw [HML.out, if_pos (.inl g2)])
        have g3 : (n : Int) = 0 := by omega
        clear HML
        subst g2
        go_enter Tryz.func36, Tryz.ntmps36
        go_wp2
        go_ret
        exact ⟨mayret HR.out.symm, rfl⟩
      · have g3 : ¬ (n : Int) = 0 := by omega
        by_cases g4 : 12 < n
        · have HR := Lib.hid (show mayL f h = true by rw [HML.out, if_pos (.inr g4)])
          have g5 : 12 < (n : Int) := by omega
          clear HML
          go_enter Tryz.func36, Tryz.ntmps36
          go_wp2
          go_ret
          exact ⟨mayret HR.out.symm, rfl⟩
        · have g4' : (n : Int) ≤ 12 := by omega
          have g6 : ¬ 12 < (n : Int) := by omega
          clear g4
          have HR := Lib.hid (show mayL f h = (List.range n).all fun j => hasBit f (bitX h m j) by rw [HML.out, if_neg (by omega)])
          clear HML
          go_enter Tryz.func36, Tryz.ntmps36
          go_wp2_with (go_at_call 63; (refine (HH.out _).mono ?_); rintro e w1 ⟨rfl, rfl⟩)
          go_loop [9] (fun i => ∃ j : Nat, j ≤ n ∧ i = .int .i64 (j : Int) ∧ Hid (∀ i, i < j → hasBit f (bitX h m i) = true)) (fun i => n - (intOf i).toNat)
          case atStart => exact ⟨0, Nat.zero_le _, rfl, Lib.hid (fun i hi => by omega)⟩
          case round =>
            obtain ⟨j, hj, rfl, HJ⟩ := hrel
            by_cases hjn : j < n
            · have hx := bitX_int h m j
              have hxl := bitX_lt (h := h) (m := m) (j := j) (by omega)
              have hjw : (j : Int) % 4294967296 = (j : Int) := by omega
              obtain ⟨x, hxe⟩ : ∃ x, bitX h m j = x := ⟨_, rfl⟩
              have HXE := Lib.hid hxe
              rw [hxe] at hx hxl
              clear hxe
              have x1 : IntKind.i64.wrap (x : Int) = (x : Int) := IntWalk.i64_in _ (by omega)
              have HQT := Lib.hid (show x / 8 = x / 8 ∧ x % 8 = x % 8 from ⟨rfl, rfl⟩)
              obtain ⟨q, hq⟩ : ∃ q, x / 8 = q := ⟨_, rfl⟩
              obtain ⟨t, ht⟩ : ∃ t, x % 8 = t := ⟨_, rfl⟩
              have q1 : (x : Int).tdiv 8 = (q : Int) := by rw [Int.tdiv_eq_ediv_of_nonneg (by omega)]; omega
              have q2 : (x : Int) / 8 = (q : Int) := by omega
              have t1 : (x : Int).tmod 8 = (t : Int) := by rw [Int.tmod_eq_emod_of_nonneg (by omega)]; omega
              have t2 : (x : Int) % 8 = (t : Int) := by omega
              have t3 : t < 8 := by omega
              have q3 : (q : Int) < (m : Int) + 1 := by omega
              have hc := HBY.out q (by omega)
              have hcb := byte_le (f.getD q 0)
              have HHB := Lib.hid (show hasBit f x = ((f.getD q 0).toNat / 2 ^ t % 2 == 1) by unfold hasBit; rw [hq, ht])
              generalize (f.getD q 0).toNat = c at *
              have hcl : c / 2 ^ t < 256 := Nat.lt_of_le_of_lt (Nat.div_le_self _ _) (by omega)
              have hand := and_one_u8 (c / 2 ^ t) hcl
              rw [show (((c / 2 ^ t : Nat)) : Int) = (c : Int) / 2 ^ t by rw [Int.natCast_ediv]; simp] at hand
              clear hq ht HQT hcl
              generalize c / 2 ^ t = z at *
              by_cases hz : z % 2 = 1
              · have hb : (bits .and .u8 ((c : Int) / 2 ^ t) 1 == 0) = false := by rw [hand, hz]; rfl
                have HB := Lib.hid (show hasBit f (bitX h m j) = true by rw [HXE.out, HHB.out, hz]; rfl)
                clear hand
                go_wp2
                refine ⟨⟨j + 1, hjn, by go_num, Lib.hid fun i hi => ?_⟩, by simp [intOf]; omega⟩
                rcases Nat.lt_or_ge i j with h1 | h1
                · exact HJ.out i h1
                · rw [show i = j by omega]; exact HB.out
              · have hz0 : z % 2 = 0 := by omega
                have hb : (bits .and .u8 ((c : Int) / 2 ^ t) 1 == 0) = true := by rw [hand, hz0]; rfl
                have HB := Lib.hid (show hasBit f (bitX h m j) = false by rw [HXE.out, HHB.out, hz0]; rfl)
                clear hand
                go_wp2
                go_ret
                exact ⟨mayret (by rw [HR.out, may_no hjn HB.out]), rfl⟩
            · have hje : j = n := by omega
              have HALL := Lib.hid (show mayL f h = true by rw [HR.out]; exact may_yes fun i hi => HJ.out i (by omega))
              clear hje
              go_wp2
              go_ret
              exact ⟨mayret HALL.out.symm, rfl⟩
end Go.Proofs.YteeikmpfgbfeoaaGreat

/-
  A filter's bytes: what the document's MakeFilter does.
-/
namespace Go.Proofs.YteeikmpfgbfeoaaGreat
open Go.RowKit Ieee

theorem mulR_comm (a b : Nat) : mulR a b = mulR b a := by unfold mulR; rw [Nat.mul_comm]
theorem mulR_word {a n : Nat} (h1 : a < 9007199254740992) (h2 : n < 9007199254740992) : mulR (wordN a) (wordN n) = wordN (a * n) := by
  unfold mulR
  rw [(wordN_exact h1).2, (wordN_exact h2).2]
  have e : a * 2 ^ leastP * (n * 2 ^ leastP) = a * n * 2 ^ (leastP + leastP) := by
    rw [Nat.pow_add]
    generalize 2 ^ leastP = p
    simp only [Nat.mul_assoc, Nat.mul_left_comm]
  rw [e]
  by_cases h0 : a * n = 0
  · rw [h0, Nat.zero_mul, if_pos rfl]
    decide
  · have hne : a * n * 2 ^ (leastP + leastP) ≠ 0 := by
      have := Nat.mul_pos (Nat.pos_of_ne_zero h0) (Nat.two_pow_pos (leastP + leastP))
      omega
    rw [if_neg hne]
    have hr := nearest_rung double (m := a * n) (e := 0) (b := -2148) h0 (by omega) (by rw [lpD]; omega)
    have e5 : flV (-2148) (a * n) 0 = a * n * 2 ^ (leastP + leastP) := by
      unfold flV
      rw [show ((0 : Int) - -2148).toNat = leastP + leastP from by decide]
    rw [infD_eq, e5] at hr
    exact hr.symm

/-- The word of 64. -/
abbrev w64D : Nat := 4634204016564240384
theorem w64_eq : wordN 64 = w64D := by decide

/-- How many bits, as they are reckoned; how many bytes. -/
def rawM (b n : Nat) : Nat := wholeD (mulR (min b w64D) (wordN n))
def bytesM (b n : Nat) : Nat := (max 64 (rawM b n) + 7) / 8

theorem raw_facts {b n : Nat} (_h : b ≤ infD) (hn : n ≤ 100000) : min b w64D < infD ∧ double.mul (min b w64D) (wordN n) = some (mulR (min b w64D) (wordN n)) ∧ mulR (min b w64D) (wordN n) < infD ∧ rawM b n ≤ 64 * n := by
  have h1 : min b w64D < infD := by unfold w64D infD; omega
  have h2 := (wordN_exact (show n < 9007199254740992 by omega)).1
  have h3 : mulR (min b w64D) (wordN n) ≤ wordN (64 * n) := by
    rw [mulR_comm, ← mulR_word (a := 64) (n := n) (by omega) (by omega), mulR_comm (wordN 64), w64_eq]
    exact mulR_mono (Nat.min_le_right _ _)
  have h4 := (wordN_exact (show 64 * n < 9007199254740992 by omega)).1
  refine ⟨h1, mul_words h1 h2, by omega, ?_⟩
  have := wholeD_mono h3
  rw [wholeD_word (by omega)] at this
  exact this

/-- One bit is set. -/
def setBit (f : List UInt8) (x : Nat) : List UInt8 := f.set (x / 8) (UInt8.ofNat ((f.getD (x / 8) 0).toNat ||| 2 ^ (x % 8)))
def putBits (f : List UInt8) (h m n : Nat) : List UInt8 := (List.range n).foldl (fun f j => setBit f (bitX h m j)) f
def putKeys (f : List UInt8) (hs : List Nat) (m n : Nat) : List UInt8 := hs.foldl (fun f h => putBits f h m n) f
/-- The bytes of a filter of the keys with these hashes. -/
def makeL (hs : List Nat) (b : Nat) : List UInt8 := if probesW b = 0 then [] else putKeys (List.replicate (bytesM b hs.length) 0 ++ [UInt8.ofNat (probesW b)]) hs (bytesM b hs.length) (probesW b)

theorem setBit_len (f : List UInt8) (x : Nat) : (setBit f x).length = f.length := by unfold setBit; rw [List.length_set]
theorem putBits_succ (f : List UInt8) (h m j : Nat) : putBits f h m (j + 1) = setBit (putBits f h m j) (bitX h m j) := by
  unfold putBits
  rw [List.range_succ, List.foldl_append]; rfl
theorem putBits_len (f : List UInt8) (h m j : Nat) : (putBits f h m j).length = f.length := by
  induction j with
  | zero => rfl
  | succ j ih => rw [putBits_succ, setBit_len, ih]
theorem putKeys_snoc (f : List UInt8) (hs : List Nat) (h m n : Nat) : putKeys f (hs ++ [h]) m n = putBits (putKeys f hs m n) h m n := by
  unfold putKeys
  rw [List.foldl_append]; rfl
theorem putKeys_len (m n : Nat) : ∀ (hs : List Nat) (f : List UInt8), (putKeys f hs m n).length = f.length
  | [], _ => rfl
  | h :: r, f => by
    show (putKeys (putBits f h m n) r m n).length = _
    rw [putKeys_len m n r, putBits_len]

theorem or_u8 (a b : Nat) (ha : a < 256) (hb : b < 256) : bits .or .u8 (a : Int) (b : Int) = ((a ||| b : Nat) : Int) := by
  have hx : a ||| b < 2 ^ 8 := Nat.or_lt_two_pow (n := 8) ha hb
  have o : ∀ c : Nat, c < 256 → (BitVec.ofInt 8 (c : Int)).toNat = c := by
    intro c hc
    rw [BitVec.ofInt_natCast, BitVec.toNat_ofNat]
    exact Nat.mod_eq_of_lt (by omega)
  show IntKind.u8.wrap ((BitVec.ofInt 8 (a : Int) ||| BitVec.ofInt 8 (b : Int)).toNat : Int) = _
  rw [BitVec.toNat_or, o a ha, o b hb, IntKind.wrap_u8]
  omega

theorem rd_str {w : World} {a : Option Addr} {c : Nat} {l : List ByteArray} (h : Rd w 1 (.slice a l.length c) l.length (l.map Value.string)) {k : Nat} (hk : k < l.length) : ∃ b off, a = some ⟨b, off, none⟩ ∧ b < w.heap.size ∧ w.cell? ⟨b, off + k, none⟩ = some (.string (l.getD k ⟨#[]⟩)) := by
  obtain ⟨a', cap, hv, h1, h2, h0, h3⟩ := h
  cases hv
  rcases h3 with ⟨h3, _⟩ | ⟨b, off, rfl, h4, h5⟩
  · omega
  · exact ⟨b, off, rfl, h4, h5 k _ (by rw [List.getElem?_map, List.getElem?_eq_getElem hk]; simp [List.getD, hk])⟩

/-- The hashes of the first keys. -/
def hashes (l : List ByteArray) : List Nat := l.map fun s => hashL s.data.toList

theorem probesW_le (b : Nat) : probesW b ≤ 12 := by unfold probesW; split <;> omega
theorem probesW_pos {b : Nat} (h : probesW b ≠ 0) : oneD ≤ b ∧ b ≤ infD := by
  unfold probesW at h
  split at h
  · rename_i hc; exact hc
  · exact absurd rfl h

theorem floor_words {r : Nat} (h : r < infD) (w : World) : Calls Tryz.prog 62 #[.float .f64 r] w fun e w' => e = .returned (.float .f64 (wordN (wholeD r))) ∧ w = w' := by
  have := floor_any (b := r) (fun s t he => by
    obtain ⟨m, i, e1, _, _⟩ := read_rung double (r := r) (by rw [infD_eq]; exact h)
    rw [e1] at he; cases he) w
  rw [floor_word h] at this
  exact this

theorem float_nat (n : Nat) : floatOfInt .f64 (n : Int) = wordN n := by
  unfold floatOfInt FloatKind.nearest FloatKind.encode
  show double.nearest (decide ((n : Int) < 0)) (n : Int).natAbs 0 = _
  rw [show decide ((n : Int) < 0) = false by simp, Int.natAbs_natCast]
  rfl

set_option maxRecDepth 100000 in
set_option maxHeartbeats 8000000 in
theorem rmake_any (v : Value) (l : List ByteArray) (b : Nat) (hb : (Lit.float .f64 b).wf = true) (w : World) (hv : Rd w 1 v l.length (l.map Value.string)) (hs : ∀ s ∈ l, s.size ≤ maxLen) (hl : l.length ≤ 100000) :
    Calls Tryz.prog 28 #[v, .float .f64 b] w (RetB w.heap.size w (makeL (hashes l) b)) := by
  have HP := Lib.hid (rprobes_any hb w)
  obtain ⟨va, vc, rfl, hc1, hc2⟩ : ∃ a c, v = .slice a l.length c ∧ l.length ≤ c ∧ c ≤ maxLen := by obtain ⟨a, c, h, h1, h2, _⟩ := hv; exact ⟨a, c, h, h1, h2⟩
  by_cases h0 : probesW b = 0
  · have HR := Lib.hid (show makeL (hashes l) b = [] by unfold makeL; rw [if_pos h0])
    rw [h0] at HP
    clear h0 hv
    go_enter Tryz.func28, Tryz.ntmps28
    go_wp2_with (go_at_call 61; (refine HP.out.mono ?_); rintro e w1 ⟨rfl, rfl⟩)
    go_ret
    exact ⟨_, rfl, by rw [HR.out]; exact World.ownsRow_nil _ _ _ _, Below.refl _ _⟩
  · obtain ⟨p1, p2⟩ := probesW_pos h0
    have p3 := probesW_le b
    obtain ⟨r1, r2, r3, r4⟩ := raw_facts p2 hl
    have hmk : makeL (hashes l) b = putKeys (List.replicate (bytesM b l.length) 0 ++ [UInt8.ofNat (probesW b)]) (hashes l) (bytesM b l.length) (probesW b) := by
      unfold makeL
      rw [if_neg h0, show (hashes l).length = l.length by unfold hashes; rw [List.length_map]]
    have HMK := Lib.hid hmk
    have hmin := fun ts t w => run_min_words (P := Tryz.prog) p2 (show w64D ≤ infD by decide) ts t w
    have hmul : ∀ (t : TypeId) (w : World), (binOp .mul t (.float .f64 (min b w64D)) (.float .f64 (wordN l.length))).run Tryz.prog w = .ok (.float .f64 (mulR (min b w64D) (wordN l.length))) w := fun t w => run_float_arith w .mul t .f64 _ _ _ r2
    have HF := Lib.hid (floor_words r3)
    have hcv := fun w => run_convert_float_int (P := Tryz.prog) w 23 3 .f64 .i64 (wordN (rawM b l.length)) _ (by kernel_rfl) Tryz.underlying3 (toInt_wordN (show rawM b l.length < 9007199254740992 by omega))
    have hcf := float_nat l.length
    have hM : bytesM b l.length = (max 64 (rawM b l.length) + 7) / 8 := rfl
    rw [show wholeD (mulR (min b w64D) (wordN l.length)) = rawM b l.length from rfl] at HF
    generalize mulR (min b w64D) (wordN l.length) = r at *
    generalize min b w64D = a at *
    generalize wordN l.length = nw at *
    generalize rawM b l.length = raw at *
    generalize wordN raw = rw' at *
    generalize bytesM b l.length = M at *
    generalize probesW b = n at *
    have hn0 : ¬ (n : Int) = 0 := by omega
    clear hmk h0 p1 p2 r1 r2 r3 hb
    obtain ⟨mx, hmx⟩ : ∃ mx, max 64 raw = mx := ⟨_, rfl⟩
    have hmxi : max (64 : Int) (raw : Int) = (mx : Int) := by omega
    rw [hmx] at hM
    have hmax : ∀ (ts : Array TypeId) (t : TypeId) (w : World), (Builtin.max_ ts t #[.int .i64 64, .int .i64 (raw : Int)]).run Tryz.prog w = .ok (.int .i64 (mx : Int)) w := by
      intro ts t w
      have hm : mx = if 64 < raw then raw else 64 := by split <;> omega
      rw [hm]
      by_cases h : 64 < raw
      · have h' : (64 : Int) < (raw : Int) := by omega
        simp [Builtin.max_, Builtin.max2, h, h']
      · have h' : ¬ (64 : Int) < (raw : Int) := by omega
        simp [Builtin.max_, Builtin.max2, h, h']
    have e1 : IntKind.i64.wrap ((mx : Int) + 7) = (mx : Int) + 7 := IntWalk.i64_in _ (by omega)
    have e2 : ((mx : Int) + 7).tdiv 8 = (M : Int) := by rw [Int.tdiv_eq_ediv_of_nonneg (by omega)]; omega
    have e2' : ((mx : Int) + 7) / 8 = (M : Int) := by omega
    have e3 : IntKind.i64.wrap ((M : Int) * 8) = (M : Int) * 8 := IntWalk.i64_in _ (by omega)
    have e4 : ((M : Int) * 8).tdiv 8 = (M : Int) := by rw [Int.tdiv_eq_ediv_of_nonneg (by omega)]; omega
    have e4' : ((M : Int) * 8) / 8 = (M : Int) := by omega
    have e5 : IntKind.i64.wrap ((M : Int) + 1) = ((M + 1 : Nat) : Int) := by rw [IntWalk.i64_in _ (by omega)]; omega
    clear hM
    go_enter Tryz.func28, Tryz.ntmps28
    go_wp2_with (first | (go_at_call 61; (refine HP.out.mono ?_); rintro e w1 ⟨rfl, rfl⟩) | (go_at_call 62; (refine (HF.out _).mono ?_); rintro e w1 ⟨rfl, rfl⟩) | (at_make; refine wpList_make_bytes rfl _ _ 24 rfl 5 Tryz.underlying24 info_u8 _ _ (M + 1) rfl rfl ?hn ?kk))
    case hn => omega
    case kk =>
      intro w1 ho1 hb1
      have hlen0 : (List.replicate (M + 1) (0 : UInt8)).length = M + 1 := by simp
      have hcM := ho1.cellAt M (by rw [hlen0]; omega)
      have hfM := ho1.frozenAt M
      have hst := ho1.stored M (UInt8.ofNat n)
      have hbv : bv (UInt8.ofNat n) = .int .u8 (n : Int) := by
        unfold bv
        rw [UInt8.toNat_ofNat', Nat.mod_eq_of_lt (by omega)]
      have hset : (List.replicate (M + 1) (0 : UInt8)).set M (UInt8.ofNat n) = List.replicate M 0 ++ [UInt8.ofNat n] := by
        rw [List.replicate_succ', List.set_append_right _ _ (by simp)]
        simp
      rw [hset, hbv] at hst
      have HST := Lib.hid hst
      have HB1 := Lib.hid (hb1.setCell (p := ⟨w.heap.size, M, none⟩) (Nat.le_refl _) (.int .u8 (n : Int)))
      clear ho1 hb1 hst hset hbv hlen0
      obtain ⟨F0, hF0⟩ : ∃ F0, F0 = List.replicate M (0 : UInt8) ++ [UInt8.ofNat n] := ⟨_, rfl⟩
      have hF0l : F0.length = M + 1 := by rw [hF0]; simp
      rw [← hF0] at HST HMK
      have HFL := Lib.hid hF0l
      have hHL : (hashes l).length = l.length := by unfold hashes; rw [List.length_map]
      have HHL := Lib.hid hHL
      have HV := Lib.hid (show Rd w 1 (.slice va l.length vc) l.length (l.map Value.string) from hv)
      have HSZ := Lib.hid hs
      have m8 : ((M : Int) * 8) % 4294967296 = (M : Int) * 8 := by omega
      have hM1 : 8 ≤ M := by omega
      clear hF0 hF0l hHL hv hs
      go_wp2
      go_loopw [8] (fun i wr => ∃ k : Nat, k ≤ l.length ∧ i = .int .i64 (k : Int) ∧ Hid (OwnB wr w.heap.size 5 (.slice (some ⟨w.heap.size, 0, none⟩) (M + 1) (M + 1)) (putKeys F0 ((hashes l).take k) M n)) ∧ Hid (Below w.heap.size w wr)) (fun i _ => l.length - (intOf i).toNat)
      case atStart => exact ⟨0, Nat.zero_le _, rfl, HST, HB1⟩
      case round =>
        obtain ⟨k, hk, rfl, HO, HB⟩ := hrel
        by_cases hlt : k < l.length
        · obtain ⟨sb, so, rfl, hsb, hsc⟩ := rd_str HV.out hlt
          have hsc' := (HB.out.cell (p := ⟨sb, so + k, none⟩) hsb).trans hsc
          have hsz : (l.getD k ⟨#[]⟩).size ≤ maxLen := HSZ.out _ (by simp only [List.getD, List.getElem?_eq_getElem hlt, Option.getD_some]; exact List.getElem_mem hlt)
          have HH := Lib.hid (rhash_any (l.getD k ⟨#[]⟩) hsz wr)
          have hh := hashL_lt (l.getD k ⟨#[]⟩).data.toList
          have hnx : putKeys F0 ((hashes l).take (k + 1)) M n = putBits (putKeys F0 ((hashes l).take k) M n) (hashL (l.getD k ⟨#[]⟩).data.toList) M n := by
            rw [List.take_succ_eq_append_getElem (by rw [HHL.out]; exact hlt), putKeys_snoc]
            congr 1
            unfold hashes
            simp [List.getD, hlt]
          have HNX := Lib.hid hnx
          have hFk : (putKeys F0 ((hashes l).take k) M n).length = M + 1 := by rw [putKeys_len, HFL.out]
          generalize putKeys F0 ((hashes l).take k) M n = Fk at *
          have HFK := Lib.hid hFk
          generalize l.getD k ⟨#[]⟩ = str at *
          generalize hashL str.data.toList = h at *
          have hhm : (h : Int) % 4294967296 = (h : Int) := by omega
          have hrot := rot17_bits hh
          have hrl := rot17_lt hh
          clear hsc hsz hnx hFk
          obtain ⟨wa, hwa⟩ : ∃ wa, wa = wr := ⟨_, rfl⟩
          subst hwa
          go_wp2_with (go_at_call 63; (refine HH.out.mono ?_); rintro e w1 ⟨rfl, rfl⟩)
          go_loopw [11] (fun j wq => ∃ i : Nat, i ≤ n ∧ j = .int .i64 (i : Int) ∧ Hid (OwnB wq w.heap.size 5 (.slice (some ⟨w.heap.size, 0, none⟩) (M + 1) (M + 1)) (putBits Fk h M i)) ∧ Hid (Below w.heap.size w wq)) (fun j _ => n - (intOf j).toNat)
          case atStart => exact ⟨0, Nat.zero_le _, rfl, HO, HB⟩
          case round =>
            obtain ⟨j, hj, rfl, HOJ, HBJ⟩ := hrel
            by_cases hjn : j < n
            · have hx := bitX_int h M j
              rw [Int.mul_comm 8 (M : Int)] at hx
              have hxl := bitX_lt (h := h) (m := M) (j := j) (by omega)
              have hjw : (j : Int) % 4294967296 = (j : Int) := by omega
              have HSB := Lib.hid (putBits_succ Fk h M j)
              have hGl : (putBits Fk h M j).length = M + 1 := by rw [putBits_len, HFK.out]
              generalize putBits Fk h M j = G at *
              generalize bitX h M j = x at *
              have x1 : IntKind.i64.wrap (x : Int) = (x : Int) := IntWalk.i64_in _ (by omega)
              have hset : setBit G x = G.set (x / 8) (UInt8.ofNat ((G.getD (x / 8) 0).toNat ||| 2 ^ (x % 8))) := rfl
              obtain ⟨q, hq⟩ : ∃ q, x / 8 = q := ⟨_, rfl⟩
              obtain ⟨t, ht⟩ : ∃ t, x % 8 = t := ⟨_, rfl⟩
              rw [hq, ht] at hset
              have q1 : (x : Int).tdiv 8 = (q : Int) := by rw [Int.tdiv_eq_ediv_of_nonneg (by omega)]; omega
              have q2 : (x : Int) / 8 = (q : Int) := by omega
              have t1 : (x : Int).tmod 8 = (t : Int) := by rw [Int.tmod_eq_emod_of_nonneg (by omega)]; omega
              have t2 : (x : Int) % 8 = (t : Int) := by omega
              have t3 : t < 8 := by omega
              have q3 : (q : Int) < (M : Int) + 1 := by omega
              have hc := HOJ.out.cellAt q (by omega)
              have hf := HOJ.out.frozenAt q
              have hcb := byte_le (G.getD q 0)
              have hp : 2 ^ t < 256 := Nat.lt_of_lt_of_le (Nat.pow_lt_pow_right (by omega) t3) (by decide)
              have hst := HOJ.out.stored q (UInt8.ofNat ((G.getD q 0).toNat ||| 2 ^ t))
              rw [← hset, ← HSB.out] at hst
              have hor := or_u8 (G.getD q 0).toNat (2 ^ t) (by omega) hp
              have hol : (G.getD q 0).toNat ||| 2 ^ t < 256 := Nat.or_lt_two_pow (n := 8) (by omega) hp
              have hbv : bv (UInt8.ofNat ((G.getD q 0).toNat ||| 2 ^ t)) = .int .u8 (((G.getD q 0).toNat ||| 2 ^ t : Nat) : Int) := by
                unfold bv
                rw [UInt8.toNat_ofNat', Nat.mod_eq_of_lt (by omega)]
              rw [hbv] at hst
              unfold bv at hc
              have HST2 := Lib.hid hst
              have HB2 := Lib.hid (HBJ.out.setCell (p := ⟨w.heap.size, q, none⟩) (Nat.le_refl _) (.int .u8 (((G.getD q 0).toNat ||| 2 ^ t : Nat) : Int)))
              generalize (G.getD q 0).toNat = c at *
              have hpc : ((2 ^ t : Nat) : Int) = 2 ^ t := by simp
              have hpm : (2 : Int) ^ t % 256 = 2 ^ t := by
                rw [← hpc]
                exact Int.emod_eq_of_lt (Int.natCast_nonneg _) (by exact_mod_cast hp)
              have hor' : bits .or .u8 (c : Int) (2 ^ t % 256) = ((c ||| 2 ^ t : Nat) : Int) := by rw [hpm, ← hpc]; exact hor
              clear hq ht hset hst hbv hol hGl hpc hpm
              go_wp2
              exact ⟨⟨j + 1, hjn, by go_num, HST2, HB2⟩, by simp [intOf]; omega⟩
            · have hje : j = n := by omega
              subst hje
              clear hjn
              go_wp2
              refine ⟨⟨k + 1, hlt, by go_num, by rw [HNX.out]; exact HOJ, HBJ⟩, by simp [intOf]; omega⟩
        · have hke : k = l.length := by omega
          have HEND := Lib.hid (show makeL (hashes l) b = putKeys F0 ((hashes l).take k) M n by rw [HMK.out, hke, List.take_of_length_le (by rw [HHL.out]; omega)])
          clear hke
          go_wp2
          go_ret
          refine ⟨_, rfl, ?_, HB.out⟩
          have hlen : (putKeys F0 ((hashes l).take k) M n).length = M + 1 := by rw [putKeys_len, HFL.out]
          have := HO.out
          rw [HEND.out]
          exact this
end Go.Proofs.YteeikmpfgbfeoaaGreat
