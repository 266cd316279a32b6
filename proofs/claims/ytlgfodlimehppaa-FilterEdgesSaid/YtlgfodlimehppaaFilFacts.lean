/-
  What is so of a filter's bytes: which bits are set, and that the keys it was made of may be there.
-/
import Derived.Test.YtlgfodlimehppaaFilMake
namespace Go.Proofs.Ytlgfodlimehppaa
open Go.RowKit Ieee

theorem hasBit_eq (f : List UInt8) (x : Nat) : hasBit f x = (f.getD (x / 8) 0).toNat.testBit (x % 8) := by
  unfold hasBit
  rw [Nat.testBit_eq_decide_div_mod_eq]
  rfl

theorem hasBit_set (f : List UInt8) {x : Nat} (hx : x / 8 < f.length) (y : Nat) : hasBit (setBit f x) y = (hasBit f y || decide (x = y)) := by
  rw [hasBit_eq, hasBit_eq]
  unfold setBit
  by_cases h : x / 8 = y / 8
  · rw [← h]
    have hg : (f.set (x / 8) (UInt8.ofNat ((f.getD (x / 8) 0).toNat ||| 2 ^ (x % 8)))).getD (x / 8) 0 = UInt8.ofNat ((f.getD (x / 8) 0).toNat ||| 2 ^ (x % 8)) := by
      simp [List.getD, hx]
    rw [hg]
    have h3 : x % 8 < 8 := Nat.mod_lt _ (by decide)
    have hp : 2 ^ (x % 8) < 2 ^ 8 := Nat.pow_lt_pow_right (by omega) h3
    have hc := (f.getD (x / 8) 0).toNat_lt
    have hol : (f.getD (x / 8) 0).toNat ||| 2 ^ (x % 8) < 2 ^ 8 := Nat.or_lt_two_pow (n := 8) hc hp
    rw [UInt8.toNat_ofNat', Nat.mod_eq_of_lt hol, Nat.testBit_or, Nat.testBit_two_pow]
    congr 1
    have : (x % 8 = y % 8) ↔ x = y := by omega
    simp only [this]
  · have hne : ¬ x = y := by intro e; rw [e] at h; exact h rfl
    simp only [List.getD, List.getElem?_set_ne h, hne, decide_false, Bool.or_false]

theorem hasBit_putBits (f : List UInt8) (h : Nat) {m : Nat} (hm : 0 < m) (hf : m ≤ f.length) (y : Nat) : ∀ n, (hasBit (putBits f h m n) y = true ↔ hasBit f y = true ∨ ∃ j, j < n ∧ bitX h m j = y)
  | 0 => by
    constructor
    · exact Or.inl
    · rintro (h | ⟨j, hj, _⟩)
      · exact h
      · omega
  | n + 1 => by
    have hl := bitX_lt (h := h) (m := m) (j := n) hm
    rw [putBits_succ, hasBit_set _ (by rw [putBits_len]; omega), Bool.or_eq_true, hasBit_putBits f h hm hf y n, decide_eq_true_iff]
    constructor
    · rintro ((h1 | ⟨j, hj, h1⟩) | h1)
      · exact Or.inl h1
      · exact Or.inr ⟨j, by omega, h1⟩
      · exact Or.inr ⟨n, by omega, h1⟩
    · rintro (h1 | ⟨j, hj, h1⟩)
      · exact Or.inl (Or.inl h1)
      · by_cases hjn : j = n
        · subst hjn; exact Or.inr h1
        · exact Or.inl (Or.inr ⟨j, by omega, h1⟩)

theorem hasBit_putKeys {m : Nat} (hm : 0 < m) (n y : Nat) : ∀ (hs : List Nat) (f : List UInt8), m ≤ f.length → (hasBit (putKeys f hs m n) y = true ↔ hasBit f y = true ∨ ∃ h ∈ hs, ∃ j, j < n ∧ bitX h m j = y)
  | [], f, _ => by
    constructor
    · exact Or.inl
    · rintro (h | ⟨h, hh, _⟩)
      · exact h
      · cases hh
  | h :: r, f, hf => by
    show hasBit (putKeys (putBits f h m n) r m n) y = true ↔ _
    rw [hasBit_putKeys hm n y r _ (by rw [putBits_len]; exact hf), hasBit_putBits f h hm hf]
    constructor
    · rintro ((h1 | h1) | ⟨g, hg, h1⟩)
      · exact Or.inl h1
      · exact Or.inr ⟨h, List.mem_cons_self, h1⟩
      · exact Or.inr ⟨g, List.mem_cons_of_mem _ hg, h1⟩
    · rintro (h1 | ⟨g, hg, h1⟩)
      · exact Or.inl (Or.inl h1)
      · rcases List.mem_cons.mp hg with rfl | hg
        · exact Or.inl (Or.inr h1)
        · exact Or.inr ⟨g, hg, h1⟩

/-- Two rows of bytes with the same bits are the same. -/
theorem bits_ext {f g : List UInt8} (hl : f.length = g.length) (h : ∀ x, hasBit f x = true ↔ hasBit g x = true) : f = g := by
  apply List.ext_getElem hl
  intro i hi hj
  have hb : ∀ k, k < 8 → f[i].toNat.testBit k = g[i].toNat.testBit k := by
    intro k hk
    have := h (8 * i + k)
    rw [← Bool.eq_iff_iff, hasBit_eq, hasBit_eq, show (8 * i + k) / 8 = i by omega, show (8 * i + k) % 8 = k by omega] at this
    simpa [List.getD, hi, hj] using this
  apply UInt8.toNat.inj
  apply Nat.eq_of_testBit_eq
  intro k
  by_cases hk : k < 8
  · exact hb k hk
  · have e : ∀ b : UInt8, b.toNat.testBit k = false := by
      intro b
      apply Nat.testBit_lt_two_pow
      exact Nat.lt_of_lt_of_le b.toNat_lt (Nat.pow_le_pow_right (by omega) (by omega))
    rw [e, e]

theorem setBit_last (f : List UInt8) {x m : Nat} (hx : x < 8 * m) : (setBit f x).getD m 0 = f.getD m 0 := by
  unfold setBit
  have : x / 8 ≠ m := by omega
  simp only [List.getD, List.getElem?_set_ne this]
theorem putBits_last (f : List UInt8) (h : Nat) {m : Nat} (hm : 0 < m) : ∀ n, (putBits f h m n).getD m 0 = f.getD m 0
  | 0 => rfl
  | n + 1 => by rw [putBits_succ, setBit_last _ (bitX_lt hm), putBits_last f h hm n]
theorem putKeys_last {m : Nat} (hm : 0 < m) (n : Nat) : ∀ (hs : List Nat) (f : List UInt8), (putKeys f hs m n).getD m 0 = f.getD m 0
  | [], _ => rfl
  | h :: r, f => by
    show (putKeys (putBits f h m n) r m n).getD m 0 = _
    rw [putKeys_last hm n r, putBits_last f h hm]

theorem bytesM_pos (b n : Nat) : 8 ≤ bytesM b n := by unfold bytesM; omega
theorem bytesM_mono (b : Nat) {n k : Nat} (h : n ≤ k) : bytesM b n ≤ bytesM b k := by
  have : rawM b n ≤ rawM b k := wholeD_mono (mulR_mono (wordN_mono h))
  unfold bytesM
  omega

theorem makeL_some {b : Nat} (h : probesW b ≠ 0) (hs : List Nat) : makeL hs b = putKeys (List.replicate (bytesM b hs.length) 0 ++ [UInt8.ofNat (probesW b)]) hs (bytesM b hs.length) (probesW b) := by
  unfold makeL; rw [if_neg h]
theorem makeL_len {b : Nat} (h : probesW b ≠ 0) (hs : List Nat) : (makeL hs b).length = bytesM b hs.length + 1 := by
  rw [makeL_some h, putKeys_len]; simp
theorem makeL_last {b : Nat} (h : probesW b ≠ 0) (hs : List Nat) : (makeL hs b).getD (bytesM b hs.length) 0 = UInt8.ofNat (probesW b) := by
  have := bytesM_pos b hs.length
  rw [makeL_some h, putKeys_last (by omega)]
  simp [List.getD]
theorem makeL_bit {b : Nat} (h : probesW b ≠ 0) (hs : List Nat) (y : Nat) : hasBit (makeL hs b) y = true ↔ hasBit (List.replicate (bytesM b hs.length) 0 ++ [UInt8.ofNat (probesW b)]) y = true ∨ ∃ k ∈ hs, ∃ j, j < probesW b ∧ bitX k (bytesM b hs.length) j = y := by
  have := bytesM_pos b hs.length
  rw [makeL_some h]
  exact hasBit_putKeys (by omega) _ _ _ _ (by simp)

/-- The order of the keys does not count. -/
theorem makeL_same {b : Nat} {hs ks : List Nat} (hl : hs.length = ks.length) (h : ∀ k, k ∈ hs ↔ k ∈ ks) : makeL hs b = makeL ks b := by
  by_cases h0 : probesW b = 0
  · unfold makeL; rw [if_pos h0, if_pos h0]
  · apply bits_ext (by rw [makeL_len h0, makeL_len h0, hl])
    intro x
    rw [makeL_bit h0, makeL_bit h0, hl]
    simp only [h]

/-- A key that it was made of may be there. -/
theorem makeL_has (b : Nat) {hs : List Nat} {k : Nat} (hk : k ∈ hs) : mayL (makeL hs b) k = true := by
  by_cases h0 : probesW b = 0
  · unfold makeL
    rw [if_pos h0]
    rfl
  · have hp := probesW_le b
    have hm := bytesM_pos b hs.length
    have hlast := makeL_last h0 hs
    have hbits := makeL_bit h0 hs
    have hlen := makeL_len h0 hs
    generalize makeL hs b = f at *
    unfold mayL
    rw [hlen, if_neg (by omega), Nat.add_sub_cancel, hlast, UInt8.toNat_ofNat', Nat.mod_eq_of_lt (by omega), if_neg (by omega)]
    exact may_yes fun j hj => (hbits _).2 (Or.inr ⟨k, hk, j, hj, rfl⟩)

/-- With more keys no bit is lost. -/
theorem makeL_more {b : Nat} {hs ks : List Nat} (h0 : probesW b ≠ 0) (h : ∀ k, k ∈ hs → k ∈ ks) (hb : bytesM b hs.length = bytesM b ks.length) (x : Nat) (hx : hasBit (makeL hs b) x = true) : hasBit (makeL ks b) x = true := by
  rw [makeL_bit h0] at hx ⊢
  rw [← hb]
  rcases hx with hx | ⟨k, hk, hx⟩
  · exact Or.inl hx
  · exact Or.inr ⟨k, h k hk, hx⟩

theorem probesW_on {b : Nat} (h1 : oneD ≤ b) (h2 : b ≤ infD) : probesW b = max 1 (min 12 (if b = infD then 12 else wholeD (mulR sevenD b))) := by
  unfold probesW
  rw [if_pos ⟨h1, h2⟩]
theorem probesW_mono {a b : Nat} (h : a ≤ b) (hb : b ≤ infD) : probesW a ≤ probesW b := by
  by_cases ha : oneD ≤ a
  · rw [probesW_on ha (by omega), probesW_on (by omega) hb]
    by_cases hbi : b = infD
    · rw [if_pos hbi]
      omega
    · have hai : ¬ a = infD := by omega
      rw [if_neg hbi, if_neg hai]
      have := wholeD_mono (mulR_mono (a := sevenD) h)
      omega
  · have : probesW a = 0 := by unfold probesW; rw [if_neg (by omega)]
    omega

/-- A half. -/
abbrev halfD : Nat := 4602678819172646912
def halfP : Nat := 1021
theorem rungH_half : rungH double halfD = 4503599627370496 * 2 ^ halfP := by
  unfold rungH
  rw [binD, if_neg (by decide)]
  have e1 : halfD % 4503599627370496 = 0 := by decide
  have e2 : halfD / 4503599627370496 - 1 = halfP := by decide
  rw [e1, e2, Nat.add_zero]
theorem half_two : 2 * rungH double halfD = 2 ^ leastP := by
  rw [rungH_half, show leastP = halfP + 53 from by decide, Nat.pow_add]
  omega
theorem mulR_rungs {a b q : Nat} (h : rungH double a * rungH double b = q * 2 ^ (leastP + leastP)) (hq : q ≠ 0) : mulR a b = wordN q := by
  unfold mulR
  have hne : q * 2 ^ (leastP + leastP) ≠ 0 := by
    have := Nat.mul_pos (Nat.pos_of_ne_zero hq) (Nat.two_pow_pos (leastP + leastP))
    omega
  rw [h, if_neg hne]
  have hr := nearest_rung double (m := q) (e := 0) (b := -2148) hq (by omega) (by rw [lpD]; omega)
  have e5 : flV (-2148) q 0 = q * 2 ^ (leastP + leastP) := by
    unfold flV
    rw [show ((0 : Int) - -2148).toNat = leastP + leastP from by decide]
  rw [infD_eq, e5] at hr
  exact hr.symm
theorem half_times {n : Nat} (h : 2 * n < 9007199254740992) (hn : n ≠ 0) : mulR halfD (wordN (2 * n)) = wordN n := by
  apply mulR_rungs _ hn
  rw [(wordN_exact h).2]
  have := half_two
  rw [Nat.pow_add]
  rw [show rungH double halfD * (2 * n * 2 ^ leastP) = n * ((2 * rungH double halfD) * 2 ^ leastP) by
    generalize rungH double halfD = x
    generalize 2 ^ leastP = y
    simp only [Nat.mul_assoc, Nat.mul_left_comm], this]

theorem word1_eq : wordN 1 = oneD := by decide
theorem probesW_one : probesW oneD = 1 := by
  have h1 : mulR sevenD oneD ≤ wordN 1 := by
    have h2 := mulR_word (a := 1) (n := 1) (by omega) (by omega)
    have h3 : mulR sevenD oneD ≤ mulR (wordN 1) (wordN 1) := by
      rw [mulR_comm, word1_eq]
      exact mulR_mono (by decide)
    rw [h2] at h3
    exact h3
  have h4 := wholeD_mono h1
  rw [wholeD_word (by omega)] at h4
  rw [probesW_on (Nat.le_refl _) (by decide), if_neg (by decide)]
  omega
theorem probesW_most {b : Nat} (h : wordN 24 ≤ b) (hb : b ≤ infD) : probesW b = 12 := by
  have h1 : wholeD (mulR halfD (wordN 24)) = 12 := by
    rw [half_times (n := 12) (by omega) (by omega), wholeD_word (by omega)]
  have h2 : mulR halfD (wordN 24) ≤ mulR sevenD b := by
    refine Nat.le_trans (mulR_mono h) ?_
    rw [mulR_comm halfD, mulR_comm sevenD]
    exact mulR_mono (by decide)
  have h3 := wholeD_mono h2
  have h4 : oneD ≤ b := Nat.le_trans (show oneD ≤ wordN 24 by decide) h
  rw [probesW_on h4 hb]
  split <;> omega
theorem probesW_none {b : Nat} (h : b < oneD ∨ infD < b) : probesW b = 0 := by
  unfold probesW
  rw [if_neg (by omega)]
theorem rungH_seven : rungH double sevenD = 6305039478318694 * 2 ^ halfP := by
  unfold rungH
  rw [binD, if_neg (by decide)]
  have e1 : 4503599627370496 + sevenD % 4503599627370496 = 6305039478318694 := by decide
  have e2 : sevenD / 4503599627370496 - 1 = halfP := by decide
  rw [e1, e2]
theorem seven_word {n : Nat} (h : n < 9007199254740992) (hn : n ≠ 0) : mulR sevenD (wordN n) = double.nearest false (6305039478318694 * n) (-53) := by
  unfold mulR
  have hm : rungH double sevenD * rungH double (wordN n) = 6305039478318694 * n * 2 ^ (halfP + leastP) := by
    rw [rungH_seven, (wordN_exact h).2, Nat.pow_add]
    generalize 2 ^ halfP = x
    generalize 2 ^ leastP = y
    simp only [Nat.mul_assoc, Nat.mul_left_comm]
  have hn2 : 6305039478318694 * n ≠ 0 := by omega
  have hne : 6305039478318694 * n * 2 ^ (halfP + leastP) ≠ 0 := by
    have := Nat.mul_pos (Nat.pos_of_ne_zero hn2) (Nat.two_pow_pos (halfP + leastP))
    omega
  rw [hm, if_neg hne]
  have hr := nearest_rung double (m := 6305039478318694 * n) (e := -53) (b := -2148) hn2 (by omega) (by rw [lpD]; omega)
  have e5 : flV (-2148) (6305039478318694 * n) (-53) = 6305039478318694 * n * 2 ^ (halfP + leastP) := by
    unfold flV
    rw [show ((-53 : Int) - -2148).toNat = halfP + leastP from by decide]
  rw [infD_eq, e5] at hr
  exact hr.symm
/-- Ten bits ask seven times. -/
theorem probesW_ten : probesW (wordN 10) = 7 := by
  have h1 : mulR sevenD (wordN 10) = wordN 7 := by
    rw [seven_word (by omega) (by omega)]
    decide
  rw [probesW_on (by decide) (wordN_le _), if_neg (by decide), h1, wholeD_word (by omega)]
  rfl
theorem makeL_nil {b : Nat} {hs : List Nat} : (makeL hs b).length = 0 ↔ probesW b = 0 := by
  by_cases h : probesW b = 0
  · unfold makeL
    rw [if_pos h]
    simp [h]
  · rw [makeL_len h]
    simp [h]

theorem makeL_few (hs : List Nat) (b : Nat) (h : hs.length ≤ 10000) : (makeL hs b).length ≤ 100000 := by
  by_cases h0 : probesW b = 0
  · unfold makeL
    rw [if_pos h0]
    exact Nat.zero_le _
  · have := (raw_facts (probesW_pos h0).2 (show hs.length ≤ 100000 by omega)).2.2.2
    rw [makeL_len h0]
    unfold bytesM
    omega
theorem hashes_mem {l : List ByteArray} {k : Nat} (h : k < l.length) : hashL (l.getD k ⟨#[]⟩).data.toList ∈ hashes l := by
  unfold hashes
  rw [List.mem_map]
  exact ⟨l.getD k ⟨#[]⟩, by simp only [List.getD, List.getElem?_eq_getElem h, Option.getD_some]; exact List.getElem_mem h, rfl⟩

end Go.Proofs.Ytlgfodlimehppaa
