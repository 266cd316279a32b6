/-
  Rounding to the nearest: what is not less is not less when it is rounded. Plain facts on the words of floating point numbers.
-/
import Derived.Laws.FloatBits
namespace Go.Proofs.Ytlgfodlimehppaa
open Ieee

/-- 'n / g' to the nearest, between two the even one. -/
def rnd (n g : Nat) : Nat := n / g + (if g < 2 * (n % g) ∨ (2 * (n % g) = g ∧ n / g % 2 = 1) then 1 else 0)

theorem rnd_le (n g : Nat) : n / g ≤ rnd n g ∧ rnd n g ≤ n / g + 1 := by unfold rnd; split <;> omega

theorem rnd_mono {n m g : Nat} (hg : 0 < g) (h : n ≤ m) : rnd n g ≤ rnd m g := by
  have hd := Nat.div_le_div_right (c := g) h
  rcases Nat.lt_or_ge (n / g) (m / g) with h1 | h1
  · have := (rnd_le n g).2
    have := (rnd_le m g).1
    omega
  · have he : n / g = m / g := by omega
    have e1 := Nat.div_add_mod n g
    have e2 := Nat.div_add_mod m g
    rw [he] at e1
    have hr : n % g ≤ m % g := by omega
    unfold rnd
    rw [he]
    split
    · rename_i hc
      rw [if_pos]
      · omega
      · have := Nat.mod_lt m hg
        omega
    · split <;> omega

theorem rnd_scale (n g k : Nat) (hk : 0 < k) : rnd (n * k) (g * k) = rnd n g := by
  unfold rnd
  rw [Nat.mul_div_mul_right _ _ hk, Nat.mul_mod_mul_right]
  have e1 : (g * k < 2 * (n % g * k)) ↔ (g < 2 * (n % g)) := by
    rw [← Nat.mul_assoc]
    exact Nat.mul_lt_mul_right hk
  have e2 : (2 * (n % g * k) = g * k) ↔ (2 * (n % g) = g) := by
    rw [← Nat.mul_assoc]
    exact Nat.mul_left_inj (by omega)
  simp only [e1, e2]

theorem rnd_one (n : Nat) : rnd n 1 = n := by
  unfold rnd
  rw [Nat.div_one, Nat.mod_one]
  simp

theorem cut_even (neg : Bool) (n drop : Nat) : Toward.even.cut neg n drop = rnd n (2 ^ drop) := by
  unfold Toward.cut
  simp only
  rw [Nat.one_shiftLeft]
  by_cases h : drop ≤ n.log2 + 2
  · rw [Nat.min_eq_left h]
    unfold rnd
    congr 1
    by_cases hc : 2 ^ drop < 2 * (n % 2 ^ drop) ∨ (2 * (n % 2 ^ drop) = 2 ^ drop ∧ n / 2 ^ drop % 2 = 1)
    · rw [if_pos hc]
      have : (decide (2 ^ drop < 2 * (n % 2 ^ drop)) || (2 ^ drop == 2 * (n % 2 ^ drop) && n / 2 ^ drop % 2 == 1)) = true := by
        simp only [Bool.or_eq_true, Bool.and_eq_true, decide_eq_true_eq, beq_iff_eq]
        omega
      rw [this]; rfl
    · rw [if_neg hc]
      have : (decide (2 ^ drop < 2 * (n % 2 ^ drop)) || (2 ^ drop == 2 * (n % 2 ^ drop) && n / 2 ^ drop % 2 == 1)) = false := by
        rw [Bool.eq_false_iff]
        simp only [ne_eq, Bool.or_eq_true, Bool.and_eq_true, decide_eq_true_eq, beq_iff_eq]
        omega
      rw [this]; rfl
  · rw [Nat.min_eq_right (by omega)]
    have hn : n < 2 ^ (n.log2 + 1) := by
      by_cases h0 : n = 0
      · subst h0; exact Nat.two_pow_pos _
      · exact (Nat.log2_lt h0).1 (by omega)
    have h2 : 2 ^ (n.log2 + 2) = 2 * 2 ^ (n.log2 + 1) := by rw [Nat.pow_succ, Nat.mul_comm]
    have h3 : 2 ^ (n.log2 + 2) ≤ 2 ^ drop := Nat.pow_le_pow_right (by omega) (by omega)
    have key : ∀ g, 2 * n < g → n / g = 0 ∧ n % g = n := fun g hg => ⟨Nat.div_eq_of_lt (by omega), Nat.mod_eq_of_lt (by omega)⟩
    obtain ⟨a1, a2⟩ := key (2 ^ (n.log2 + 2)) (by omega)
    obtain ⟨b1, b2⟩ := key (2 ^ drop) (by omega)
    unfold rnd
    rw [a1, a2, b1, b2]
    have : (decide (2 ^ (n.log2 + 2) < 2 * n) || (2 ^ (n.log2 + 2) == 2 * n && 0 % 2 == 1)) = false := by
      rw [Bool.eq_false_iff]
      simp only [ne_eq, Bool.or_eq_true, Bool.and_eq_true, decide_eq_true_eq, beq_iff_eq]
      omega
    rw [this, if_neg (by omega)]
    rfl

/-- 'm * 2 ^ e' in units of '2 ^ b'. -/
def flV (b : Int) (m : Nat) (e : Int) : Nat := m * 2 ^ (e - b).toNat

theorem log2_shift {m : Nat} (hm : m ≠ 0) (k : Nat) : (m * 2 ^ k).log2 = m.log2 + k := by
  have hp := Nat.two_pow_pos k
  refine (Nat.log2_eq_iff (by have := Nat.mul_pos (Nat.pos_of_ne_zero hm) hp; omega)).2 ?_
  have h1 := Nat.log2_self_le hm
  have h2 : m < 2 ^ (m.log2 + 1) := (Nat.log2_lt hm).1 (by omega)
  constructor
  · rw [Nat.pow_add]; exact Nat.mul_le_mul_right _ h1
  · have : 2 ^ (m.log2 + k + 1) = 2 ^ (m.log2 + 1) * 2 ^ k := by rw [← Nat.pow_add]; congr 1; omega
    rw [this]
    exact (Nat.mul_lt_mul_right hp).2 h2

/-- The rung that is nearest to 'v' units of '2 ^ b'. -/
def rungOf (f : Format) (b : Int) (v : Nat) : Nat :=
  (max (b + v.log2 - f.fractionBits) f.leastPlace - f.leastPlace).toNat * f.binade + rnd v (2 ^ (max (b + v.log2 - f.fractionBits) f.leastPlace - b).toNat)

theorem nearest_rung (f : Format) {m : Nat} {e b : Int} (hm : m ≠ 0) (hb : b ≤ e) (hl : b ≤ f.leastPlace) : f.nearest false m e = min (rungOf f b (flV b m e)) f.infRung := by
  unfold Format.nearest Format.word
  rw [if_neg hm]
  simp only [Bool.false_eq_true, if_false]
  unfold rungOf
  have hlog : (flV b m e).log2 = m.log2 + (e - b).toNat := log2_shift hm _
  have e1 : b + ((flV b m e).log2 : Int) - f.fractionBits = e + (m.log2 : Int) - f.fractionBits := by rw [hlog]; omega
  rw [e1]
  generalize hlast : max (e + (m.log2 : Int) - f.fractionBits) f.leastPlace = last at *
  congr 1
  rw [cut_even, Nat.shiftLeft_eq]
  have hbl : b ≤ last := by
    have : f.leastPlace ≤ last := by rw [← hlast]; exact Int.le_max_right _ _
    omega
  unfold flV
  have hk := Nat.two_pow_pos (min e last - b).toNat
  rw [← rnd_scale (m * 2 ^ (e - last).toNat) (2 ^ (last - e).toNat) _ hk, Nat.mul_assoc, ← Nat.pow_add, ← Nat.pow_add]
  have a1 : (e - last).toNat + (min e last - b).toNat = (e - b).toNat := by omega
  have a2 : (last - e).toNat + (min e last - b).toNat = (last - b).toNat := by omega
  rw [a1, a2]

theorem log2_mono {v w : Nat} (hv : v ≠ 0) (h : v ≤ w) : v.log2 ≤ w.log2 :=
  (Nat.le_log2 (by omega)).2 (Nat.le_trans (Nat.log2_self_le hv) h)

theorem rungOf_mono (f : Format) {b : Int} (hl : b ≤ f.leastPlace) {v w : Nat} (hv : v ≠ 0) (h : v ≤ w) : rungOf f b v ≤ rungOf f b w := by
  have hlog := log2_mono hv h
  have hw : w ≠ 0 := by omega
  unfold rungOf
  generalize hLv : max (b + (v.log2 : Int) - f.fractionBits) f.leastPlace = Lv
  generalize hLw : max (b + (w.log2 : Int) - f.fractionBits) f.leastPlace = Lw
  have hle : Lv ≤ Lw := by omega
  have hlv : f.leastPlace ≤ Lv := by omega
  have hB : 0 < f.binade := Nat.two_pow_pos _
  rcases Int.lt_or_le Lv Lw with hlt | hge
  · have hLw' : Lw = b + (w.log2 : Int) - f.fractionBits := by omega
    have hGv := Nat.two_pow_pos (Lv - b).toNat
    have hGw := Nat.two_pow_pos (Lw - b).toNat
    have u1 : v < 2 ^ (Lv - b).toNat * (2 * f.binade) := by
      have h1 : v < 2 ^ (v.log2 + 1) := (Nat.log2_lt hv).1 (by omega)
      have h2 : 2 ^ (v.log2 + 1) ≤ 2 ^ ((Lv - b).toNat + (f.fractionBits + 1)) := Nat.pow_le_pow_right (by omega) (by omega)
      have h3 : 2 ^ ((Lv - b).toNat + (f.fractionBits + 1)) = 2 ^ (Lv - b).toNat * (2 * f.binade) := by
        unfold Format.binade
        rw [Nat.pow_add, Nat.pow_succ 2 f.fractionBits, Nat.mul_comm (2 ^ f.fractionBits) 2]
      omega
    have u2 : v / 2 ^ (Lv - b).toNat < 2 * f.binade := (Nat.div_lt_iff_lt_mul hGv).2 (by rw [Nat.mul_comm]; exact u1)
    have u3 : 2 ^ (Lw - b).toNat * f.binade ≤ w := by
      have h1 := Nat.log2_self_le hw
      have h2 : 2 ^ (Lw - b).toNat * f.binade = 2 ^ w.log2 := by
        unfold Format.binade
        rw [← Nat.pow_add]
        congr 1
        omega
      omega
    have u4 : f.binade ≤ w / 2 ^ (Lw - b).toNat := (Nat.le_div_iff_mul_le hGw).2 (by rw [Nat.mul_comm]; exact u3)
    have r1 := (rnd_le v (2 ^ (Lv - b).toNat)).2
    have r2 := (rnd_le w (2 ^ (Lw - b).toNat)).1
    have key : (Lv - f.leastPlace).toNat * f.binade + f.binade ≤ (Lw - f.leastPlace).toNat * f.binade := by
      rw [← Nat.succ_mul]
      exact Nat.mul_le_mul_right _ (by omega)
    omega
  · have : Lv = Lw := by omega
    subst this
    exact Nat.add_le_add_left (rnd_mono (Nat.two_pow_pos _) h) _

/-- **What is not less is not less when it is rounded.** -/
theorem nearest_mono (f : Format) {m1 m2 : Nat} {e1 e2 b : Int} (h1 : b ≤ e1) (h2 : b ≤ e2) (hl : b ≤ f.leastPlace) (h : flV b m1 e1 ≤ flV b m2 e2) : f.nearest false m1 e1 ≤ f.nearest false m2 e2 := by
  by_cases z1 : m1 = 0
  · subst z1
    unfold Format.nearest Format.word
    simp
  · have hv : flV b m1 e1 ≠ 0 := by
      unfold flV
      have := Nat.mul_pos (Nat.pos_of_ne_zero z1) (Nat.two_pow_pos (e1 - b).toNat)
      omega
    have z2 : m2 ≠ 0 := by
      rintro rfl
      unfold flV at h hv
      rw [Nat.zero_mul] at h
      omega
    rw [nearest_rung f z1 h1 hl, nearest_rung f z2 h2 hl]
    have := rungOf_mono f hl hv h
    omega

/-! ### What a word stands for. -/
/-- The number of a rung, in units of the least place. -/
def rungH (f : Format) (r : Nat) : Nat := if r < f.binade then r else (f.binade + r % f.binade) * 2 ^ (r / f.binade - 1)

theorem rungH_succ (f : Format) (r : Nat) : rungH f r < rungH f (r + 1) := by
  have hB : 0 < f.binade := Nat.two_pow_pos _
  unfold rungH
  generalize f.binade = B at *
  by_cases h1 : r + 1 < B
  · rw [if_pos (by omega), if_pos h1]; omega
  · by_cases h2 : r < B
    · have : r + 1 = B := by omega
      rw [if_pos h2, if_neg h1, this, Nat.mod_self, Nat.div_self hB]
      omega
    · rw [if_neg h2, if_neg h1]
      have e1 := Nat.div_add_mod r B
      have hm := Nat.mod_lt r hB
      have hq : 1 ≤ r / B := (Nat.le_div_iff_mul_le hB).2 (by omega)
      have hp := Nat.two_pow_pos (r / B - 1)
      by_cases h3 : r % B + 1 < B
      · have d1 : (r + 1) / B = r / B := by
          rw [Nat.div_eq_iff hB]
          constructor
          · rw [Nat.mul_comm]; omega
          · rw [Nat.mul_comm]; omega
        have d2 : (r + 1) % B = r % B + 1 := by
          have e2 := Nat.div_add_mod (r + 1) B
          rw [d1] at e2
          omega
        rw [d1, d2]
        exact (Nat.mul_lt_mul_right hp).2 (by omega)
      · have h4 : r % B + 1 = B := by omega
        have h5 : r + 1 = B * (r / B + 1) := by rw [Nat.mul_succ]; omega
        have d1 : (r + 1) / B = r / B + 1 := by rw [h5, Nat.mul_div_cancel_left _ hB]
        have d2 : (r + 1) % B = 0 := by rw [h5, Nat.mul_mod_right]
        rw [d1, d2, Nat.add_zero, Nat.add_sub_cancel]
        have h6 : 2 ^ (r / B) = 2 * 2 ^ (r / B - 1) := by rw [← Nat.pow_succ']; congr 1; omega
        rw [h6, ← Nat.mul_assoc]
        exact (Nat.mul_lt_mul_right hp).2 (by omega)

theorem rungH_strict (f : Format) {r s : Nat} (h : r < s) : rungH f r < rungH f s := by
  induction h with
  | refl => exact rungH_succ f _
  | step _ ih => exact Nat.lt_trans ih (rungH_succ f _)
theorem rungH_mono (f : Format) {r s : Nat} (h : r ≤ s) : rungH f r ≤ rungH f s := by
  rcases Nat.lt_or_ge r s with h1 | h1
  · exact Nat.le_of_lt (rungH_strict f h1)
  · rw [show r = s by omega]; exact Nat.le_refl _

/-- What a word below infinity reads as. -/
theorem read_rung (f : Format) {r : Nat} (h : r < f.infRung) : ∃ m e, f.read r = .number false m e ∧ f.leastPlace ≤ e ∧ flV f.leastPlace m e = rungH f r := by
  have hB : 0 < f.binade := Nat.two_pow_pos _
  have hs := f.infRung_lt
  unfold Format.read
  rw [Nat.div_eq_of_lt (show r < f.signWeight by omega), Nat.mod_eq_of_lt (show r < f.signWeight by omega)]
  simp only
  unfold rungH
  by_cases h1 : r < f.binade
  · rw [if_pos h1, if_pos h1]
    exact ⟨_, _, rfl, by omega, by unfold flV; simp⟩
  · rw [if_neg h1, if_pos h, if_neg h1]
    refine ⟨_, _, rfl, by omega, ?_⟩
    unfold flV
    congr 2
    omega

/-- Down to a whole number. -/
theorem cut_down (n drop : Nat) : Toward.down.cut false n drop = n / 2 ^ drop := by
  unfold Toward.cut
  simp only [Bool.false_and, Bool.toNat_false, Nat.add_zero]
  rw [Nat.one_shiftLeft]
  by_cases h : drop ≤ n.log2 + 2
  · rw [Nat.min_eq_left h]
  · rw [Nat.min_eq_right (by omega)]
    have hn : n < 2 ^ (n.log2 + 1) := by
      by_cases h0 : n = 0
      · subst h0; exact Nat.two_pow_pos _
      · exact (Nat.log2_lt h0).1 (by omega)
    have h2 : 2 ^ (n.log2 + 1) ≤ 2 ^ (n.log2 + 2) := Nat.pow_le_pow_right (by omega) (by omega)
    have h3 : 2 ^ (n.log2 + 2) ≤ 2 ^ drop := Nat.pow_le_pow_right (by omega) (by omega)
    rw [Nat.div_eq_of_lt (by omega), Nat.div_eq_of_lt (by omega)]

theorem floor_flV {m : Nat} {e b : Int} (hb : b ≤ e) (h0 : b ≤ 0) : Toward.down.cut false (m <<< e.toNat) (-e).toNat = flV b m e / 2 ^ (-b).toNat := by
  rw [cut_down, Nat.shiftLeft_eq]
  unfold flV
  rcases Int.lt_or_le e 0 with h | h
  · have e1 : e.toNat = 0 := by omega
    have e2 : (-b).toNat = (-e).toNat + (e - b).toNat := by omega
    rw [e1, Nat.pow_zero, Nat.mul_one, e2, Nat.pow_add, Nat.mul_div_mul_right _ _ (Nat.two_pow_pos _)]
  · have e1 : (-e).toNat = 0 := by omega
    have e2 : (e - b).toNat = e.toNat + (-b).toNat := by omega
    rw [e1, Nat.pow_zero, Nat.div_one, e2, Nat.pow_add, ← Nat.mul_assoc, Nat.mul_div_cancel _ (Nat.two_pow_pos _)]
end Go.Proofs.Ytlgfodlimehppaa
