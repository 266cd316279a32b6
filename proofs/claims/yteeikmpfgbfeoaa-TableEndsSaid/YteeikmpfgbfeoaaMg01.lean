import Derived.Test.YteeikmpfgbfeoaaMg00
import Derived.Test.YteeikmpfgbfeoaaKeyRefRising
import Derived.Test.YteeikmpfgbfeoaaBlkGet
import Derived.Test.YteeikmpfgbfeoaaBlkRPut
import Derived.Test.YteeikmpfgbfeoaaFixedOut
import Derived.Test.YteeikmpfgbfeoaaOwnEnt
import Derived.Test.YteeikmpfgbfeoaaMemMath
import Derived.Test.YteeikmpfgbfeoaaRegion
import Derived.Deep.QuietTactic
import Derived.BigQuiet

/-
  A filter's bytes: what the document's MakeFilter does.
-/
namespace Go.Proofs.Yteeikmpfgbfeoaa
open Go.RowKit Ieee

theorem mulR_comm (a b : Nat) : mulR a b = mulR b a := by unfold mulR; rw [Nat.mul_comm]
theorem mulR_word {a n : Nat} (h1 : a < 9007199254740992) (h2 : n < 9007199254740992) : mulR (wordN a) (wordN n) = wordN (a * n) := by
  unfold mulR
  rw [(wordN_exact h1).2, (wordN_exact h2).2]
  have e : a * 2 ^ leastP * (n * 2 ^ leastP) = a * n * 2 ^ (leastP + leastP) := by
    rw [Nat.pow_add]
    generalize 2 ^ leastP = p
    simp only [Nat.mul_assoc, Nat.mul_left_comm]
  rw [e]
  by_cases h0 : a * n = 0
  · rw [h0, Nat.zero_mul, if_pos rfl]
    decide
  · have hne : a * n * 2 ^ (leastP + leastP) ≠ 0 := by
      have := Nat.mul_pos (Nat.pos_of_ne_zero h0) (Nat.two_pow_pos (leastP + leastP))
      omega
    rw [if_neg hne]
    have hr := nearest_rung double (m := a * n) (e := 0) (b := -2148) h0 (by omega) (by rw [lpD]; omega)
    have e5 : flV (-2148) (a * n) 0 = a * n * 2 ^ (leastP + leastP) := by
      unfold flV
      rw [show ((0 : Int) - -2148).toNat = leastP + leastP from by decide]
    rw [infD_eq, e5] at hr
    exact hr.symm

/-- The word of 64. -/
abbrev w64D : Nat := 4634204016564240384
theorem w64_eq : wordN 64 = w64D := by decide

/-- How many bits, as they are reckoned; how many bytes. -/
def rawM (b n : Nat) : Nat := wholeD (mulR (min b w64D) (wordN n))
def bytesM (b n : Nat) : Nat := (max 64 (rawM b n) + 7) / 8

theorem raw_facts {b n : Nat} (_h : b ≤ infD) (hn : n ≤ 100000) : min b w64D < infD ∧ double.mul (min b w64D) (wordN n) = some (mulR (min b w64D) (wordN n)) ∧ mulR (min b w64D) (wordN n) < infD ∧ rawM b n ≤ 64 * n := by
  have h1 : min b w64D < infD := by unfold w64D infD; omega
  have h2 := (wordN_exact (show n < 9007199254740992 by omega)).1
  have h3 : mulR (min b w64D) (wordN n) ≤ wordN (64 * n) := by
    rw [mulR_comm, ← mulR_word (a := 64) (n := n) (by omega) (by omega), mulR_comm (wordN 64), w64_eq]
    exact mulR_mono (Nat.min_le_right _ _)
  have h4 := (wordN_exact (show 64 * n < 9007199254740992 by omega)).1
  refine ⟨h1, mul_words h1 h2, by omega, ?_⟩
  have := wholeD_mono h3
  rw [wholeD_word (by omega)] at this
  exact this

/-- One bit is set. -/
def setBit (f : List UInt8) (x : Nat) : List UInt8 := f.set (x / 8) (UInt8.ofNat ((f.getD (x / 8) 0).toNat ||| 2 ^ (x % 8)))
def putBits (f : List UInt8) (h m n : Nat) : List UInt8 := (List.range n).foldl (fun f j => setBit f (bitX h m j)) f
def putKeys (f : List UInt8) (hs : List Nat) (m n : Nat) : List UInt8 := hs.foldl (fun f h => putBits f h m n) f
/-- The bytes of a filter of the keys with these hashes. -/
def makeL (hs : List Nat) (b : Nat) : List UInt8 := if probesW b = 0 then [] else putKeys (List.replicate (bytesM b hs.length) 0 ++ [UInt8.ofNat (probesW b)]) hs (bytesM b hs.length) (probesW b)

theorem setBit_len (f : List UInt8) (x : Nat) : (setBit f x).length = f.length := by unfold setBit; rw [List.length_set]
theorem putBits_succ (f : List UInt8) (h m j : Nat) : putBits f h m (j + 1) = setBit (putBits f h m j) (bitX h m j) := by
  unfold putBits
  rw [List.range_succ, List.foldl_append]; rfl
theorem putBits_len (f : List UInt8) (h m j : Nat) : (putBits f h m j).length = f.length := by
  induction j with
  | zero => rfl
  | succ j ih => rw [putBits_succ, setBit_len, ih]
theorem putKeys_snoc (f : List UInt8) (hs : List Nat) (h m n : Nat) : putKeys f (hs ++ [h]) m n = putBits (putKeys f hs m n) h m n := by
  unfold putKeys
  rw [List.foldl_append]; rfl
theorem putKeys_len (m n : Nat) : ∀ (hs : List Nat) (f : List UInt8), (putKeys f hs m n).length = f.length
  | [], _ => rfl
  | h :: r, f => by
    show (putKeys (putBits f h m n) r m n).length = _
    rw [putKeys_len m n r, putBits_len]

theorem or_u8 (a b : Nat) (ha : a < 256) (hb : b < 256) : bits .or .u8 (a : Int) (b : Int) = ((a ||| b : Nat) : Int) := by
  have hx : a ||| b < 2 ^ 8 := Nat.or_lt_two_pow (n := 8) ha hb
  have o : ∀ c : Nat, c < 256 → (BitVec.ofInt 8 (c : Int)).toNat = c := by
    intro c hc
    rw [BitVec.ofInt_natCast, BitVec.toNat_ofNat]
    exact Nat.mod_eq_of_lt (by omega)
  show IntKind.u8.wrap ((BitVec.ofInt 8 (a : Int) ||| BitVec.ofInt 8 (b : Int)).toNat : Int) = _
  rw [BitVec.toNat_or, o a ha, o b hb, IntKind.wrap_u8]
  omega

theorem rd_str {w : World} {a : Option Addr} {c : Nat} {l : List ByteArray} (h : Rd w 1 (.slice a l.length c) l.length (l.map Value.string)) {k : Nat} (hk : k < l.length) : ∃ b off, a = some ⟨b, off, none⟩ ∧ b < w.heap.size ∧ w.cell? ⟨b, off + k, none⟩ = some (.string (l.getD k ⟨#[]⟩)) := by
  obtain ⟨a', cap, hv, h1, h2, h0, h3⟩ := h
  cases hv
  rcases h3 with ⟨h3, _⟩ | ⟨b, off, rfl, h4, h5⟩
  · omega
  · exact ⟨b, off, rfl, h4, h5 k _ (by rw [List.getElem?_map, List.getElem?_eq_getElem hk]; simp [List.getD, hk])⟩

/-- The hashes of the first keys. -/
def hashes (l : List ByteArray) : List Nat := l.map fun s => hashL s.data.toList

theorem probesW_le (b : Nat) : probesW b ≤ 12 := by unfold probesW; split <;> omega
theorem probesW_pos {b : Nat} (h : probesW b ≠ 0) : oneD ≤ b ∧ b ≤ infD := by
  unfold probesW at h
  split at h
  · rename_i hc; exact hc
  · exact absurd rfl h

theorem floor_words {r : Nat} (h : r < infD) (w : World) : Calls Try.prog 65 #[.float .f64 r] w fun e w' => e = .returned (.float .f64 (wordN (wholeD r))) ∧ w = w' := by
  have := floor_any (b := r) (fun s t he => by
    obtain ⟨m, i, e1, _, _⟩ := read_rung double (r := r) (by rw [infD_eq]; exact h)
    rw [e1] at he; cases he) w
  rw [floor_word h] at this
  exact this

theorem float_nat (n : Nat) : floatOfInt .f64 (n : Int) = wordN n := by
  unfold floatOfInt FloatKind.nearest FloatKind.encode
  show double.nearest (decide ((n : Int) < 0)) (n : Int).natAbs 0 = _
  rw [show decide ((n : Int) < 0) = false by simp, Int.natAbs_natCast]
  rfl

end Go.Proofs.Yteeikmpfgbfeoaa

/-
  What is so of a filter's bytes: which bits are set, and that the keys it was made of may be there.
-/
namespace Go.Proofs.Yteeikmpfgbfeoaa
open Go.RowKit Ieee

theorem hasBit_eq (f : List UInt8) (x : Nat) : hasBit f x = (f.getD (x / 8) 0).toNat.testBit (x % 8) := by
  unfold hasBit
  rw [Nat.testBit_eq_decide_div_mod_eq]
  rfl

theorem hasBit_set (f : List UInt8) {x : Nat} (hx : x / 8 < f.length) (y : Nat) : hasBit (setBit f x) y = (hasBit f y || decide (x = y)) := by
  rw [hasBit_eq, hasBit_eq]
  unfold setBit
  by_cases h : x / 8 = y / 8
  · rw [← h]
    have hg : (f.set (x / 8) (UInt8.ofNat ((f.getD (x / 8) 0).toNat ||| 2 ^ (x % 8)))).getD (x / 8) 0 = UInt8.ofNat ((f.getD (x / 8) 0).toNat ||| 2 ^ (x % 8)) := by
      simp [List.getD, hx]
    rw [hg]
    have h3 : x % 8 < 8 := Nat.mod_lt _ (by decide)
    have hp : 2 ^ (x % 8) < 2 ^ 8 := Nat.pow_lt_pow_right (by omega) h3
    have hc := (f.getD (x / 8) 0).toNat_lt
    have hol : (f.getD (x / 8) 0).toNat ||| 2 ^ (x % 8) < 2 ^ 8 := Nat.or_lt_two_pow (n := 8) hc hp
    rw [UInt8.toNat_ofNat', Nat.mod_eq_of_lt hol, Nat.testBit_or, Nat.testBit_two_pow]
    congr 1
    have : (x % 8 = y % 8) ↔ x = y := by omega
    simp only [this]
  · have hne : ¬ x = y := by intro e; rw [e] at h; exact h rfl
    simp only [List.getD, List.getElem?_set_ne h, hne, decide_false, Bool.or_false]

theorem hasBit_putBits (f : List UInt8) (h : Nat) {m : Nat} (hm : 0 < m) (hf : m ≤ f.length) (y : Nat) : ∀ n, (hasBit (putBits f h m n) y = true ↔ hasBit f y = true ∨ ∃ j, j < n ∧ bitX h m j = y)
  | 0 => by
    constructor
    · exact Or.inl
    · rintro (h | ⟨j, hj, _⟩)
      · exact h
      · omega
  | n + 1 => by
    have hl := bitX_lt (h := h) (m := m) (j := n) hm
    rw [putBits_succ, hasBit_set _ (by rw [putBits_len]; omega), Bool.or_eq_true, hasBit_putBits f h hm hf y n, decide_eq_true_iff]
    constructor
    · rintro ((h1 | ⟨j, hj, h1⟩) | h1)
      · exact Or.inl h1
      · exact Or.inr ⟨j, by omega, h1⟩
      · exact Or.inr ⟨n, by omega, h1⟩
    · rintro (h1 | ⟨j, hj, h1⟩)
      · exact Or.inl (Or.inl h1)
      · by_cases hjn : j = n
        · subst hjn; exact Or.inr h1
        · exact Or.inl (Or.inr ⟨j, by omega, h1⟩)

theorem hasBit_putKeys {m : Nat} (hm : 0 < m) (n y : Nat) : ∀ (hs : List Nat) (f : List UInt8), m ≤ f.length → (hasBit (putKeys f hs m n) y = true ↔ hasBit f y = true ∨ ∃ h ∈ hs, ∃ j, j < n ∧ bitX h m j = y)
  | [], f, _ => by
    constructor
    · exact Or.inl
    · rintro (h | ⟨h, hh, _⟩)
      · exact h
      · cases hh
  | h :: r, f, hf => by
    show hasBit (putKeys (putBits f h m n) r m n) y = true ↔ _
    rw [hasBit_putKeys hm n y r _ (by rw [putBits_len]; exact hf), hasBit_putBits f h hm hf]
    constructor
    · rintro ((h1 | h1) | ⟨g, hg, h1⟩)
      · exact Or.inl h1
      · exact Or.inr ⟨h, List.mem_cons_self, h1⟩
      · exact Or.inr ⟨g, List.mem_cons_of_mem _ hg, h1⟩
    · rintro (h1 | ⟨g, hg, h1⟩)
      · exact Or.inl (Or.inl h1)
      · rcases List.mem_cons.mp hg with rfl | hg
        · exact Or.inl (Or.inr h1)
        · exact Or.inr ⟨g, hg, h1⟩

/-- Two rows of bytes with the same bits are the same. -/
theorem bits_ext {f g : List UInt8} (hl : f.length = g.length) (h : ∀ x, hasBit f x = true ↔ hasBit g x = true) : f = g := by
  apply List.ext_getElem hl
  intro i hi hj
  have hb : ∀ k, k < 8 → f[i].toNat.testBit k = g[i].toNat.testBit k := by
    intro k hk
    have := h (8 * i + k)
    rw [← Bool.eq_iff_iff, hasBit_eq, hasBit_eq, show (8 * i + k) / 8 = i by omega, show (8 * i + k) % 8 = k by omega] at this
    simpa [List.getD, hi, hj] using this
  apply UInt8.toNat.inj
  apply Nat.eq_of_testBit_eq
  intro k
  by_cases hk : k < 8
  · exact hb k hk
  · have e : ∀ b : UInt8, b.toNat.testBit k = false := by
      intro b
      apply Nat.testBit_lt_two_pow
      exact Nat.lt_of_lt_of_le b.toNat_lt (Nat.pow_le_pow_right (by omega) (by omega))
    rw [e, e]

theorem setBit_last (f : List UInt8) {x m : Nat} (hx : x < 8 * m) : (setBit f x).getD m 0 = f.getD m 0 := by
  unfold setBit
  have : x / 8 ≠ m := by omega
  simp only [List.getD, List.getElem?_set_ne this]
theorem putBits_last (f : List UInt8) (h : Nat) {m : Nat} (hm : 0 < m) : ∀ n, (putBits f h m n).getD m 0 = f.getD m 0
  | 0 => rfl
  | n + 1 => by rw [putBits_succ, setBit_last _ (bitX_lt hm), putBits_last f h hm n]
theorem putKeys_last {m : Nat} (hm : 0 < m) (n : Nat) : ∀ (hs : List Nat) (f : List UInt8), (putKeys f hs m n).getD m 0 = f.getD m 0
  | [], _ => rfl
  | h :: r, f => by
    show (putKeys (putBits f h m n) r m n).getD m 0 = _
    rw [putKeys_last hm n r, putBits_last f h hm]

theorem bytesM_pos (b n : Nat) : 8 ≤ bytesM b n := by unfold bytesM; omega
theorem bytesM_mono (b : Nat) {n k : Nat} (h : n ≤ k) : bytesM b n ≤ bytesM b k := by
  have : rawM b n ≤ rawM b k := wholeD_mono (mulR_mono (wordN_mono h))
  unfold bytesM
  omega

theorem makeL_some {b : Nat} (h : probesW b ≠ 0) (hs : List Nat) : makeL hs b = putKeys (List.replicate (bytesM b hs.length) 0 ++ [UInt8.ofNat (probesW b)]) hs (bytesM b hs.length) (probesW b) := by
  unfold makeL; rw [if_neg h]
theorem makeL_len {b : Nat} (h : probesW b ≠ 0) (hs : List Nat) : (makeL hs b).length = bytesM b hs.length + 1 := by
  rw [makeL_some h, putKeys_len]; simp
theorem makeL_last {b : Nat} (h : probesW b ≠ 0) (hs : List Nat) : (makeL hs b).getD (bytesM b hs.length) 0 = UInt8.ofNat (probesW b) := by
  have := bytesM_pos b hs.length
  rw [makeL_some h, putKeys_last (by omega)]
  simp [List.getD]
theorem makeL_bit {b : Nat} (h : probesW b ≠ 0) (hs : List Nat) (y : Nat) : hasBit (makeL hs b) y = true ↔ hasBit (List.replicate (bytesM b hs.length) 0 ++ [UInt8.ofNat (probesW b)]) y = true ∨ ∃ k ∈ hs, ∃ j, j < probesW b ∧ bitX k (bytesM b hs.length) j = y := by
  have := bytesM_pos b hs.length
  rw [makeL_some h]
  exact hasBit_putKeys (by omega) _ _ _ _ (by simp)

/-- The order of the keys does not count. -/
theorem makeL_same {b : Nat} {hs ks : List Nat} (hl : hs.length = ks.length) (h : ∀ k, k ∈ hs ↔ k ∈ ks) : makeL hs b = makeL ks b := by
  by_cases h0 : probesW b = 0
  · unfold makeL; rw [if_pos h0, if_pos h0]
  · apply bits_ext (by rw [makeL_len h0, makeL_len h0, hl])
    intro x
    rw [makeL_bit h0, makeL_bit h0, hl]
    simp only [h]

/-- A key that it was made of may be there. -/
theorem makeL_has (b : Nat) {hs : List Nat} {k : Nat} (hk : k ∈ hs) : mayL (makeL hs b) k = true := by
  by_cases h0 : probesW b = 0
  · unfold makeL
    rw [if_pos h0]
    rfl
  · have hp := probesW_le b
    have hm := bytesM_pos b hs.length
    have hlast := makeL_last h0 hs
    have hbits := makeL_bit h0 hs
    have hlen := makeL_len h0 hs
    generalize makeL hs b = f at *
    unfold mayL
    rw [hlen, if_neg (by omega), Nat.add_sub_cancel, hlast, UInt8.toNat_ofNat', Nat.mod_eq_of_lt (by omega), if_neg (by omega)]
    exact may_yes fun j hj => (hbits _).2 (Or.inr ⟨k, hk, j, hj, rfl⟩)

/-- With more keys no bit is lost. -/
theorem makeL_more {b : Nat} {hs ks : List Nat} (h0 : probesW b ≠ 0) (h : ∀ k, k ∈ hs → k ∈ ks) (hb : bytesM b hs.length = bytesM b ks.length) (x : Nat) (hx : hasBit (makeL hs b) x = true) : hasBit (makeL ks b) x = true := by
  rw [makeL_bit h0] at hx ⊢
  rw [← hb]
  rcases hx with hx | ⟨k, hk, hx⟩
  · exact Or.inl hx
  · exact Or.inr ⟨k, h k hk, hx⟩

theorem probesW_on {b : Nat} (h1 : oneD ≤ b) (h2 : b ≤ infD) : probesW b = max 1 (min 12 (if b = infD then 12 else wholeD (mulR sevenD b))) := by
  unfold probesW
  rw [if_pos ⟨h1, h2⟩]
theorem probesW_mono {a b : Nat} (h : a ≤ b) (hb : b ≤ infD) : probesW a ≤ probesW b := by
  by_cases ha : oneD ≤ a
  · rw [probesW_on ha (by omega), probesW_on (by omega) hb]
    by_cases hbi : b = infD
    · rw [if_pos hbi]
      omega
    · have hai : ¬ a = infD := by omega
      rw [if_neg hbi, if_neg hai]
      have := wholeD_mono (mulR_mono (a := sevenD) h)
      omega
  · have : probesW a = 0 := by unfold probesW; rw [if_neg (by omega)]
    omega

/-- A half. -/
abbrev halfD : Nat := 4602678819172646912
def halfP : Nat := 1021
theorem rungH_half : rungH double halfD = 4503599627370496 * 2 ^ halfP := by
  unfold rungH
  rw [binD, if_neg (by decide)]
  have e1 : halfD % 4503599627370496 = 0 := by decide
  have e2 : halfD / 4503599627370496 - 1 = halfP := by decide
  rw [e1, e2, Nat.add_zero]
theorem half_two : 2 * rungH double halfD = 2 ^ leastP := by
  rw [rungH_half, show leastP = halfP + 53 from by decide, Nat.pow_add]
  omega
theorem mulR_rungs {a b q : Nat} (h : rungH double a * rungH double b = q * 2 ^ (leastP + leastP)) (hq : q ≠ 0) : mulR a b = wordN q := by
  unfold mulR
  have hne : q * 2 ^ (leastP + leastP) ≠ 0 := by
    have := Nat.mul_pos (Nat.pos_of_ne_zero hq) (Nat.two_pow_pos (leastP + leastP))
    omega
  rw [h, if_neg hne]
  have hr := nearest_rung double (m := q) (e := 0) (b := -2148) hq (by omega) (by rw [lpD]; omega)
  have e5 : flV (-2148) q 0 = q * 2 ^ (leastP + leastP) := by
    unfold flV
    rw [show ((0 : Int) - -2148).toNat = leastP + leastP from by decide]
  rw [infD_eq, e5] at hr
  exact hr.symm
theorem half_times {n : Nat} (h : 2 * n < 9007199254740992) (hn : n ≠ 0) : mulR halfD (wordN (2 * n)) = wordN n := by
  apply mulR_rungs _ hn
  rw [(wordN_exact h).2]
  have := half_two
  rw [Nat.pow_add]
  rw [show rungH double halfD * (2 * n * 2 ^ leastP) = n * ((2 * rungH double halfD) * 2 ^ leastP) by
    generalize rungH double halfD = x
    generalize 2 ^ leastP = y
    simp only [Nat.mul_assoc, Nat.mul_left_comm], this]

theorem word1_eq : wordN 1 = oneD := by decide
theorem probesW_one : probesW oneD = 1 := by
  have h1 : mulR sevenD oneD ≤ wordN 1 := by
    have h2 := mulR_word (a := 1) (n := 1) (by omega) (by omega)
    have h3 : mulR sevenD oneD ≤ mulR (wordN 1) (wordN 1) := by
      rw [mulR_comm, word1_eq]
      exact mulR_mono (by decide)
    rw [h2] at h3
    exact h3
  have h4 := wholeD_mono h1
  rw [wholeD_word (by omega)] at h4
  rw [probesW_on (Nat.le_refl _) (by decide), if_neg (by decide)]
  omega
theorem probesW_most {b : Nat} (h : wordN 24 ≤ b) (hb : b ≤ infD) : probesW b = 12 := by
  have h1 : wholeD (mulR halfD (wordN 24)) = 12 := by
    rw [half_times (n := 12) (by omega) (by omega), wholeD_word (by omega)]
  have h2 : mulR halfD (wordN 24) ≤ mulR sevenD b := by
    refine Nat.le_trans (mulR_mono h) ?_
    rw [mulR_comm halfD, mulR_comm sevenD]
    exact mulR_mono (by decide)
  have h3 := wholeD_mono h2
  have h4 : oneD ≤ b := Nat.le_trans (show oneD ≤ wordN 24 by decide) h
  rw [probesW_on h4 hb]
  split <;> omega
theorem probesW_none {b : Nat} (h : b < oneD ∨ infD < b) : probesW b = 0 := by
  unfold probesW
  rw [if_neg (by omega)]
theorem rungH_seven : rungH double sevenD = 6305039478318694 * 2 ^ halfP := by
  unfold rungH
  rw [binD, if_neg (by decide)]
  have e1 : 4503599627370496 + sevenD % 4503599627370496 = 6305039478318694 := by decide
  have e2 : sevenD / 4503599627370496 - 1 = halfP := by decide
  rw [e1, e2]
theorem seven_word {n : Nat} (h : n < 9007199254740992) (hn : n ≠ 0) : mulR sevenD (wordN n) = double.nearest false (6305039478318694 * n) (-53) := by
  unfold mulR
  have hm : rungH double sevenD * rungH double (wordN n) = 6305039478318694 * n * 2 ^ (halfP + leastP) := by
    rw [rungH_seven, (wordN_exact h).2, Nat.pow_add]
    generalize 2 ^ halfP = x
    generalize 2 ^ leastP = y
    simp only [Nat.mul_assoc, Nat.mul_left_comm]
  have hn2 : 6305039478318694 * n ≠ 0 := by omega
  have hne : 6305039478318694 * n * 2 ^ (halfP + leastP) ≠ 0 := by
    have := Nat.mul_pos (Nat.pos_of_ne_zero hn2) (Nat.two_pow_pos (halfP + leastP))
    omega
  rw [hm, if_neg hne]
  have hr := nearest_rung double (m := 6305039478318694 * n) (e := -53) (b := -2148) hn2 (by omega) (by rw [lpD]; omega)
  have e5 : flV (-2148) (6305039478318694 * n) (-53) = 6305039478318694 * n * 2 ^ (halfP + leastP) := by
    unfold flV
    rw [show ((-53 : Int) - -2148).toNat = halfP + leastP from by decide]
  rw [infD_eq, e5] at hr
  exact hr.symm
/-- Ten bits ask seven times. -/
theorem probesW_ten : probesW (wordN 10) = 7 := by
  have h1 : mulR sevenD (wordN 10) = wordN 7 := by
    rw [seven_word (by omega) (by omega)]
    decide
  rw [probesW_on (by decide) (wordN_le _), if_neg (by decide), h1, wholeD_word (by omega)]
  rfl
theorem makeL_nil {b : Nat} {hs : List Nat} : (makeL hs b).length = 0 ↔ probesW b = 0 := by
  by_cases h : probesW b = 0
  · unfold makeL
    rw [if_pos h]
    simp [h]
  · rw [makeL_len h]
    simp [h]

theorem makeL_few (hs : List Nat) (b : Nat) (h : hs.length ≤ 10000) : (makeL hs b).length ≤ 100000 := by
  by_cases h0 : probesW b = 0
  · unfold makeL
    rw [if_pos h0]
    exact Nat.zero_le _
  · have := (raw_facts (probesW_pos h0).2 (show hs.length ≤ 100000 by omega)).2.2.2
    rw [makeL_len h0]
    unfold bytesM
    omega
theorem hashes_mem {l : List ByteArray} {k : Nat} (h : k < l.length) : hashL (l.getD k ⟨#[]⟩).data.toList ∈ hashes l := by
  unfold hashes
  rw [List.mem_map]
  exact ⟨l.getD k ⟨#[]⟩, by simp only [List.getD, List.getElem?_eq_getElem h, Option.getD_some]; exact List.getElem_mem h, rfl⟩

end Go.Proofs.Yteeikmpfgbfeoaa

/-
  Tables: Put, as the document tells it.
-/
namespace Go.Proofs.Yteeikmpfgbfeoaa
open Go.RowKit Ieee

/-- What is wrong with entries as a table. -/
def putTErr (es : List Ent) (per : Int) : Int := if per < 1 ∨ 64 < per ∨ risingB es = false ∨ es = [] then 1 else if 256 < es.length then 4 else 0
/-- What a call tells that puts entries into a table. -/
def RetPutT (w : World) (es : List Ent) (per : Int) (b : Nat) (e : Ending) (w' : World) : Prop :=
  ∃ x, e = .returned (.tuple #[x, .int .i64 (putTErr es per)]) ∧ OwnB w' w.heap.size 5 x (if putTErr es per = 0 then tableL es per.toNat (makeL (hashes (usersL es)) b) else []) ∧ Below w.heap.size w w'
theorem RetPutT.no {w w' : World} {es : List Ent} {per : Int} {b : Nat} {x : Int} (h : putTErr es per = x) (hx : x ≠ 0) (hb : Below w.heap.size w w') : RetPutT w es per b (.returned (.tuple #[.slice none 0 0, .int .i64 x])) w' :=
  ⟨_, by rw [h], by rw [if_neg (by omega)]; exact OwnB.nil _ _ _, hb⟩

end Go.Proofs.Yteeikmpfgbfeoaa

/-
  Blocks: plain facts: the entries are told one by one.
-/
namespace Go.Proofs.Yteeikmpfgbfeoaa
open Go.RowKit

/-- So far the entries are those of any block that these bytes can be the body of; the next one begins at p. -/
def Par (c : List UInt8) (acc : List Ent) (p : Nat) : Prop := ∀ es, IsBody c es → acc.length ≤ es.length ∧ acc = es.take acc.length ∧ p = (bodyN es acc.length).length

theorem Par.start (c : List UInt8) : Par c [] 0 := fun _ _ => ⟨Nat.zero_le _, rfl, rfl⟩
theorem prevU_acc {acc es : List Ent} (h : acc = es.take acc.length) : prevU acc acc.length = prevU es acc.length := by
  have := prevU_take es (Nat.le_refl acc.length)
  rw [← h] at this
  exact this
theorem Par.none_ {c : List UInt8} {acc : List Ent} {p : Nat} (h : Par c acc p) (hp : p < c.length) (hs : stepP c (prevU acc acc.length) p = none) (es : List Ent) : ¬ IsBody c es := by
  intro hb
  obtain ⟨h1, h2, h3⟩ := h es hb
  have hlt : acc.length < es.length := (hb.at_end h1).1 (by rw [← h3]; exact hp)
  have := hb.step hlt
  rw [← prevU_acc h2, ← h3, hs] at this
  cases this
theorem Par.more {c : List UInt8} {acc : List Ent} {p q : Nat} {e : Ent} (h : Par c acc p) (hp : p < c.length) (hs : stepP c (prevU acc acc.length) p = some (e, q)) : Par c (acc ++ [e]) q := by
  intro es hb
  obtain ⟨h1, h2, h3⟩ := h es hb
  have hlt : acc.length < es.length := (hb.at_end h1).1 (by rw [← h3]; exact hp)
  have := hb.step hlt
  rw [← prevU_acc h2, ← h3, hs] at this
  simp only [Option.some.injEq, Prod.mk.injEq] at this
  have hl : (acc ++ [e]).length = acc.length + 1 := by simp
  rw [hl]
  refine ⟨hlt, ?_, this.2⟩
  rw [take_more es hlt, ← h2, this.1]
theorem Par.end_ {c : List UInt8} {acc : List Ent} {p : Nat} (h : Par c acc p) (hp : ¬ p < c.length) {es : List Ent} (hb : IsBody c es) : es = acc := by
  obtain ⟨h1, h2, h3⟩ := h es hb
  have : ¬ acc.length < es.length := fun hlt => hp (by rw [h3]; exact (hb.at_end h1).2 hlt)
  rw [h2, List.take_of_length_le (by omega)]

theorem prevU_snoc (acc : List Ent) (e : Ent) : prevU (acc ++ [e]) (acc.length + 1) = uL e := by
  unfold prevU
  rw [if_neg (by omega)]
  simp [List.getD]

/-- What the last two bytes of a block tell. -/
theorem IsBlk.count {b : List UInt8} {es : List Ent} (h : IsBlk b es) : 2 ≤ b.length ∧ 1 ≤ valL (b.drop (b.length - 2)) ∧ 4 * valL (b.drop (b.length - 2)) + 2 ≤ b.length := by
  obtain ⟨h1, h2, h3⟩ := putErr_ok h.1
  have hpos := List.length_pos_iff.2 h2
  have hl := blockL_len es
  have hc := blockL_count es h3
  rw [← h.2, hc, hl]
  omega

/-- What the rest tells, by what the four reads tell. -/
theorem step_by {c last : List UInt8} {p s a d x f g : Nat} {rest v : List UInt8} (h1 : getAt c (p : Int) = some (s, a)) (h2 : textAt c (a : Int) = some (rest, d)) (h3 : getAt c (d : Int) = some (x, f)) (h4 : textAt c (f : Int) = some (v, g)) :
    stepP c last p = if last.length < s then none else some (⟨strB (last.take s ++ rest), ((x / 2 : Nat) : Int), ((1 + x % 2 : Nat) : Int), strB v⟩, g) := by
  unfold stepP
  rw [h1]; simp only
  rw [h2]; simp only
  rw [h3]; simp only
  rw [h4]
theorem step_no1 {c last : List UInt8} {p : Nat} (h1 : getAt c (p : Int) = none) : stepP c last p = none := by unfold stepP; rw [h1]
theorem step_no2 {c last : List UInt8} {p s a : Nat} (h1 : getAt c (p : Int) = some (s, a)) (h2 : textAt c (a : Int) = none) : stepP c last p = none := by unfold stepP; rw [h1]; simp only; rw [h2]
theorem step_no3 {c last : List UInt8} {p s a d : Nat} {rest : List UInt8} (h1 : getAt c (p : Int) = some (s, a)) (h2 : textAt c (a : Int) = some (rest, d)) (h3 : getAt c (d : Int) = none) : stepP c last p = none := by
  unfold stepP; rw [h1]; simp only; rw [h2]; simp only; rw [h3]
theorem step_no4 {c last : List UInt8} {p s a d x f : Nat} {rest : List UInt8} (h1 : getAt c (p : Int) = some (s, a)) (h2 : textAt c (a : Int) = some (rest, d)) (h3 : getAt c (d : Int) = some (x, f)) (h4 : textAt c (f : Int) = none) : stepP c last p = none := by
  unfold stepP; rw [h1]; simp only; rw [h2]; simp only; rw [h3]; simp only; rw [h4]

/-- What a number at a place is, as three letters. -/
theorem ans3_form (c : List UInt8) (at_ : Int) : ∃ (n k : Nat) (ok : Bool), ans3 (getAt c at_) = .tuple #[.int .i64 (n : Int), .int .i64 (k : Int), .bool ok] ∧ (ok = true → getAt c at_ = some (n, k) ∧ at_ < (k : Int)) ∧ (ok = false → getAt c at_ = none) ∧ n ≤ 9223372036854775807 ∧ k ≤ c.length := by
  cases h : getAt c at_ with
  | none => exact ⟨0, 0, false, rfl, (fun e => by cases e), (fun _ => rfl), by omega, Nat.zero_le _⟩
  | some x =>
    obtain ⟨n, k⟩ := x
    obtain ⟨p, hp, h1, h2, h0, _, h4⟩ := getAt_some h
    exact ⟨n, k, true, rfl, fun _ => ⟨rfl, by omega⟩, (fun e => by cases e), by omega, by omega⟩
theorem textAt_bound {c : List UInt8} {at_ : Int} {s : List UInt8} {k : Nat} (h : textAt c at_ = some (s, k)) : s.length ≤ c.length ∧ k ≤ c.length ∧ at_ < (k : Int) := by
  unfold textAt at h
  obtain ⟨⟨n, a⟩, hg, hb⟩ := Option.bind_eq_some_iff.1 h
  obtain ⟨p, hp, h1, h2, _⟩ := getAt_some hg
  simp only at hb
  split at hb
  · rename_i hn
    simp only [Option.some.injEq, Prod.mk.injEq] at hb
    obtain ⟨rfl, rfl⟩ := hb
    rw [List.length_take, List.length_drop]
    omega
  · cases hb
theorem ansT_form (c : List UInt8) (at_ : Int) : ∃ (s : List UInt8) (k : Nat) (ok : Bool), ansT (textAt c at_) = .tuple #[.string (strB s), .int .i64 (k : Int), .bool ok] ∧ (ok = true → textAt c at_ = some (s, k) ∧ at_ < (k : Int)) ∧ (ok = false → textAt c at_ = none) ∧ s.length ≤ c.length ∧ k ≤ c.length := by
  cases h : textAt c at_ with
  | none => exact ⟨[], 0, false, rfl, (fun e => by cases e), (fun _ => rfl), Nat.zero_le _, Nat.zero_le _⟩
  | some x =>
    obtain ⟨s, k⟩ := x
    obtain ⟨h1, h2, h3⟩ := textAt_bound h
    exact ⟨s, k, true, rfl, fun _ => ⟨rfl, h3⟩, (fun e => by cases e), h1, h2⟩
end Go.Proofs.Yteeikmpfgbfeoaa

/-
  Blocks: the entry that four reads tell.
-/
namespace Go.Proofs.Yteeikmpfgbfeoaa
open Go.RowKit

/-- The entry that the four reads tell. -/
def ent_by (L : ByteArray) (s x : Nat) (rs vs : List UInt8) : Ent := ⟨L.extract 0 s ++ strB rs, (x : Int) / 2, 1 + (x : Int) % 2, strB vs⟩
theorem ent_same {L : ByteArray} {s x : Nat} {rs vs last : List UInt8} (h : L = strB last) : ent_by L s x rs vs = ⟨strB (last.take s ++ rs), ((x / 2 : Nat) : Int), ((1 + x % 2 : Nat) : Int), strB vs⟩ := by
  unfold ent_by
  have h1 : L.extract 0 s ++ strB rs = strB (last.take s ++ rs) := by
    rw [h]
    apply ByteArray.ext
    apply Array.ext'
    simp [ByteArray.data_extract, List.extract_eq_take_drop]
  rw [h1, show (x : Int) / 2 = ((x / 2 : Nat) : Int) by omega, show 1 + (x : Int) % 2 = ((1 + x % 2 : Nat) : Int) by omega]
theorem ent_len {L : ByteArray} {s : Nat} {rs : List UInt8} : (L.extract 0 s ++ strB rs).size ≤ L.size + rs.length := by
  have h : (L.extract 0 s).data.toList.length ≤ L.size := by
    rw [ByteArray.data_extract, Array.toList_extract, List.extract_eq_take_drop, List.length_take]
    simp only [List.drop_zero, Array.length_toList]
    show min _ L.size ≤ L.size
    omega
  rw [ByteArray.size_append, strB_size]
  show (L.extract 0 s).data.toList.length + rs.length ≤ _
  omega
theorem ent_fits {L : ByteArray} {s x : Nat} {rs vs : List UInt8} (hL : L.size ≤ 100000000) (hx : x ≤ 9223372036854775807) (hr : rs.length ≤ 1000000) (hv : vs.length ≤ 1000000) : (ent_by L s x rs vs).fits := by
  have := ent_len (L := L) (s := s) (rs := rs)
  refine ⟨?_, ?_, ?_, ?_⟩
  · show (L.extract 0 s ++ strB rs).size ≤ maxLen
    unfold maxLen
    omega
  · show (strB vs).size ≤ maxLen
    rw [strB_size]
    unfold maxLen
    omega
  · show (Lit.int .i64 ((x : Int) / 2)).wf = true
    simp only [Lit.wf, IntKind.min, IntKind.max, IntKind.signed, IntKind.bits]
    simp
    omega
  · show (Lit.int .i64 (1 + (x : Int) % 2)).wf = true
    simp only [Lit.wf, IntKind.min, IntKind.max, IntKind.signed, IntKind.bits]
    simp
    omega

end Go.Proofs.Yteeikmpfgbfeoaa

/-
  Blocks: the entries of a block, as the document tells them.
-/
namespace Go.Proofs.Yteeikmpfgbfeoaa
open Go.RowKit

/-- What a call tells that tells the entries of a block. -/
def RetGet (w : World) (b : List UInt8) (e : Ending) (w' : World) : Prop :=
  ∃ x, e = .returned (.tuple #[x, .bool (getB b).isSome]) ∧ OwnE w' w.heap.size x ((getB b).getD []) ∧ Below w.heap.size w w'

theorem OwnE.nil (w : World) (B : Nat) : OwnE w B (.slice none 0 0) [] := World.ownsRow_nil _ _ _ _
theorem RetGet.no {w w' : World} {b : List UInt8} (h : getB b = none) (hb : Below w.heap.size w w') : RetGet w b (.returned (.tuple #[.slice none 0 0, .bool false])) w' :=
  ⟨_, by rw [h]; rfl, by rw [h]; exact OwnE.nil _ _, hb⟩
theorem RetGet.yes {w w' : World} {b : List UInt8} {es : List Ent} {x : Value} (h : IsBlk b es) (ho : OwnE w' w.heap.size x es) (hb : Below w.heap.size w w') : RetGet w b (.returned (.tuple #[x, .bool true])) w' :=
  ⟨_, by rw [getB_some h]; rfl, by rw [getB_some h]; exact ho, hb⟩

end Go.Proofs.Yteeikmpfgbfeoaa

/-
  Tables: the entries and the filter of a table, as the document tells them.
-/
namespace Go.Proofs.Yteeikmpfgbfeoaa
open Go.RowKit

/-- What a call tells that tells a table's entries and its filter. -/
def RetParts (w : World) (b : List UInt8) (e : Ending) (w' : World) : Prop :=
  match getT b with
  | none => e = .returned (.tuple #[.slice none 0 0, .slice none 0 0, .int .i64 5]) ∧ Below w.heap.size w w'
  | some (es, f) => ∃ x y, e = .returned (.tuple #[x, y, .int .i64 0]) ∧ OwnE w' w.heap.size x es ∧ OwnB w' w.heap.size 5 y f ∧ Below w.heap.size w w'
theorem RetParts.no {w w' : World} {b : List UInt8} (h : getT b = none) (hb : Below w.heap.size w w') : RetParts w b (.returned (.tuple #[.slice none 0 0, .slice none 0 0, .int .i64 5])) w' := by
  unfold RetParts
  rw [h]
  exact ⟨rfl, hb⟩

end Go.Proofs.Yteeikmpfgbfeoaa

/-
  What the document's Newest does.
-/
namespace Go.Proofs.Yteeikmpfgbfeoaa
open Go.RowKit

theorem newest_at {L : List Ent} {u : ByteArray} {s : Int} {k : Nat} (hk : k < L.length) (h : ∀ j, j < k → ¬ ((L.getD j Ent.none_).u = u ∧ (L.getD j Ent.none_).s ≤ s)) (h2 : (L.getD k Ent.none_).u = u ∧ (L.getD k Ent.none_).s ≤ s) : newest L u s = some (L.getD k Ent.none_) := by
  induction L generalizing k with
  | nil => simp at hk
  | cons x r ih =>
    unfold newest
    rw [List.find?_cons]
    cases k with
    | zero =>
      have : decide (x.u = u ∧ x.s ≤ s) = true := by rw [decide_eq_true_eq]; exact h2
      rw [this]; rfl
    | succ k =>
      have h0 := h 0 (by omega)
      have : decide (x.u = u ∧ x.s ≤ s) = false := by rw [decide_eq_false_iff_not]; exact h0
      rw [this]
      exact ih (by simpa using hk) (fun j hj => h (j + 1) (by omega)) h2
theorem newest_no {L : List Ent} {u : ByteArray} {s : Int} (h : ∀ j, j < L.length → ¬ ((L.getD j Ent.none_).u = u ∧ (L.getD j Ent.none_).s ≤ s)) : newest L u s = none := by
  unfold newest
  rw [List.find?_eq_none]
  intro x hx
  obtain ⟨j, hj, rfl⟩ := List.getElem_of_mem hx
  have := h j hj
  simp only [List.getD, List.getElem?_eq_getElem hj, Option.getD_some] at this
  simpa using this

set_option maxRecDepth 100000 in
set_option maxHeartbeats 4000000 in
theorem rnewest_any {w : World} {v : Value} {L : List Ent} (hv : OwnE w 0 v L) (u : ByteArray) (s : Int) :
    Calls Try.prog 12 #[v, .string u, .int .i64 s] w fun r w' => r = .returned (ansN (newest L u s)) ∧ Below w.heap.size w w' := by
  obtain ⟨va, vc, rfl, hc1, hc2⟩ := hv.form
  unfold maxLen at hc2
  have HO := Lib.hid hv
  clear hv
  go_enter Try.func12, Try.ntmps12
  go_wp2
  go_loopw [8] (fun i wr => ∃ k : Nat, k ≤ L.length ∧ i = .int .i64 (k : Int) ∧ Hid (∀ j, j < k → ¬ ((L.getD j Ent.none_).u = u ∧ (L.getD j Ent.none_).s ≤ s)) ∧ Hid (Below w.heap.size w wr ∧ wr.heap[w.heap.size]? = some (.cells #[.string ⟨#[]⟩, .int .i64 0, .int .i64 0, .string ⟨#[]⟩] 34 (0, 0)))) (fun i _ => L.length - (intOf i).toNat)
  case atStart => exact ⟨0, Nat.zero_le _, rfl, Lib.hid (fun j h => by omega), Lib.hid ⟨(Below.refl _ _).alloc (Nat.le_refl _) _, heap_alloc_new w _⟩⟩
  case round =>
    obtain ⟨k, hk, rfl, HK, HB⟩ := hrel
    have hsr := HB.out.2
    have s0 := blk_cell (i := 0) hsr
    have s1 := blk_cell (i := 1) hsr
    have s2 := blk_cell (i := 2) hsr
    have s3 := blk_cell (i := 3) hsr
    have t0 := blk_free (i := 0) hsr
    have t1 := blk_free (i := 1) hsr
    have t2 := blk_free (i := 2) hsr
    have t3 := blk_free (i := 3) hsr
    clear hsr
    by_cases hlt : k < L.length
    · obtain ⟨g, rfl, hg, x0, x1, x2, x3⟩ := own_ent (HO.out.below HB.out.1) hlt
      have HAT := Lib.hid (@newest_at L u s k hlt HK.out)
      have HMO := Lib.hid (show ¬ ((L.getD k Ent.none_).u = u ∧ (L.getD k Ent.none_).s ≤ s) → ∀ j, j < k + 1 → ¬ ((L.getD j Ent.none_).u = u ∧ (L.getD j Ent.none_).s ≤ s) from fun h2 j hj => by
        rcases Nat.lt_or_ge j k with h1 | h1
        · exact HK.out j h1
        · obtain rfl : j = k := by omega
          exact h2)
      generalize L.getD k Ent.none_ = X at *
      obtain ⟨xu, xs, xk, xv⟩ := X
      simp only at x0 x1 x2 x3
      by_cases hu : xu = u
      · by_cases hs : xs ≤ s
        · have HR := Lib.hid (HAT.out ⟨hu, hs⟩)
          clear HAT HMO
          subst hu
          go_wp2
          refine bodyPost_ret (results_row_tmp rfl _ _ w.heap.size 34 #[.string xu, .int .i64 xs, .int .i64 xk, .string xv] (0, 0) _ rfl ?hgA Try.underlying34 rfl (by kernel_rfl)) rfl ?_
          case hgA => exact (set4 HB.out.2 rfl rfl rfl rfl).1
          rw [HR.out]
          exact ⟨rfl, (set4 HB.out.2 rfl rfl rfl rfl).2 _ (Nat.le_refl _) _ HB.out.1⟩
        · have HN := Lib.hid (HMO.out (fun h => hs h.2))
          clear HAT HMO
          subst hu
          go_wp2
          refine ⟨⟨k + 1, hlt, by go_num, HN, HB⟩, ?_⟩
          simp [intOf]; omega
      · have HN := Lib.hid (HMO.out (fun h => hu h.1))
        have hne : (xu.toList == u.toList) = false := by
          rw [beq_eq_false_iff_ne, toList_data, toList_data]
          exact fun e => hu (ByteArray.ext (Array.toList_inj.1 e))
        clear HAT HMO
        go_wp2
        refine ⟨⟨k + 1, hlt, by go_num, HN, HB⟩, ?_⟩
        simp [intOf]; omega
    · have hke : k = L.length := by omega
      have HR := Lib.hid (@newest_no L u s (fun j hj => HK.out j (by omega)))
      clear hke
      go_wp2
      refine bodyPost_ret (results_row_tmp rfl _ _ w.heap.size 34 #[.string ⟨#[]⟩, .int .i64 0, .int .i64 0, .string ⟨#[]⟩] (0, 0) _ rfl ?hgB Try.underlying34 rfl (by kernel_rfl)) rfl ?_
      case hgB => exact (set4 HB.out.2 rfl rfl rfl rfl).1
      rw [HR.out]
      exact ⟨rfl, (set4 HB.out.2 rfl rfl rfl rfl).2 _ (Nat.le_refl _) _ HB.out.1⟩
end Go.Proofs.Yteeikmpfgbfeoaa

/-
  The results of a function that tells a struct, that lies in a row of cells, and two values besides.
-/
namespace Go.Proofs.Yteeikmpfgbfeoaa
open Go.RowKit

theorem results_row_tmp2 {P : Program} {fn : Func} {p u u' : Tmp} {ty : TypeId} (h : fn.results = #[.cell p ty, .tmp u, .tmp u']) (tmps : Array Value) (w : World) (g : Nat) (t : TypeId) (cs : Array Value) (fr : Nat × Nat) (d : TypeDesc)
    (hp : tmps.getD p undef = .pointer (some ⟨g, 0, none⟩)) (hg : w.heap[g]? = some (.cells cs t fr))
    (hu : P.underlying ty = some d) (hd : (match d with | .struct _ | .array _ _ => true | _ => false) = true) (hi : (P.info? ty).map (·.size) = some cs.size) :
    (results fn tmps).run P w = .ok (.tuple #[.agg cs, tmps.getD u undef, tmps.getD u' undef]) w := by
  have h1 : (results fn tmps).run P w = ((asAddr (tmps.getD p undef)).run P w).andThen fun a w₁ => ((loadVar ty a).run P w₁).andThen fun v w₂ => .ok (.tuple #[v, tmps.getD u undef, tmps.getD u' undef]) w₂ := by
    simp only [results, h]
    simp [Sem.run_bind, Result.andThen]
  rw [h1, hp]
  simp [asAddr, run_loadVar_row w g t ty cs fr d hg hu hd hi]

end Go.Proofs.Yteeikmpfgbfeoaa

/-
  Tables: the entry of a User at a number, as the document finds it in a table.
-/
namespace Go.Proofs.Yteeikmpfgbfeoaa
open Go.RowKit

/-- What is found: nothing, where the bytes are no table. -/
noncomputable def findT (b : List UInt8) (u : ByteArray) (s : Int) : Option (Option Ent) := match getT b with
  | none => none
  | some (es, f) => some (if mayL f (hashL u.data.toList) then newest es u s else none)
/-- .. as three values. -/
def ansF : Option (Option Ent) → Value
  | none => .tuple #[.agg #[.string ⟨#[]⟩, .int .i64 0, .int .i64 0, .string ⟨#[]⟩], .bool false, .int .i64 5]
  | some none => .tuple #[.agg #[.string ⟨#[]⟩, .int .i64 0, .int .i64 0, .string ⟨#[]⟩], .bool false, .int .i64 0]
  | some (some e) => .tuple #[entV e, .bool true, .int .i64 0]

theorem ansF_form (o : Option (Option Ent)) : ∃ (a : ByteArray) (b c : Int) (d : ByteArray) (f : Bool) (g : Int), ansF o = .tuple #[.agg #[.string a, .int .i64 b, .int .i64 c, .string d], .bool f, .int .i64 g] := by
  rcases o with _ | _ | e
  · exact ⟨_, _, _, _, _, _, rfl⟩
  · exact ⟨_, _, _, _, _, _, rfl⟩
  · exact ⟨_, _, _, _, _, _, rfl⟩

theorem IsTabP.filter_len {b : List UInt8} {es : List Ent} {per : Nat} {f : List UInt8} (h : IsTabP b es per f) : f.length ≤ b.length := by
  have := h.len
  omega

theorem alloc_keepT {w : World} {o x : Obj} {k : Nat} (h : w.heap[k]? = some x) : (w.alloc o).heap[k]? = some x := (Below.block ((Below.refl _ _).alloc (Nat.le_refl _) _) _ (blk_lt h)).trans h

end Go.Proofs.Yteeikmpfgbfeoaa

/-
  A region whose order is open, with two classes of worlds: operations that all the last ones wait for need yield their value only till these come up ('S1'); the others all along ('S2').
-/
namespace Go.Proofs.Yteeikmpfgbfeoaa
open Go.RowKit
section
variable {P : Program} {ops : Array Oper} {Q : Exit → Act → World → Prop} {S1 S2 : World → Prop} {E : Nat → Bool}

/-- 'j' comes behind 'i', by so many edges at most. -/
def needs (ops : Array Oper) : Nat → Nat → Nat → Bool
  | 0, _, _ => false
  | n + 1, j, i => match ops[j]? with
    | some oj => oj.after.any fun e => Region.binds .any e && (e.on == i || needs ops n e.on i)
    | none => false

/-- What is listed, all that it waits for is listed. -/
def Closed (ops : Array Oper) (listed : Array Bool) : Prop := ∀ j oj, ops[j]? = some oj → listed.getD j false = true → ∀ e ∈ oj.after, Region.binds .any e = true → listed.getD e.on false = true

theorem needs_listed {listed : Array Bool} (hc : Closed ops listed) : ∀ (n j i : Nat) (oj : Oper), ops[j]? = some oj → (∀ e ∈ oj.after, Region.binds .any e = true → listed.getD e.on false = true) → needs ops n j i = true → listed.getD i false = true
  | 0, _, _, _, _, _, h => by cases h
  | n + 1, j, i, oj, hj, hall, h => by
    unfold needs at h
    rw [hj] at h
    obtain ⟨e, he, hb⟩ := Array.any_eq_true'.1 h
    simp only [Bool.and_eq_true, Bool.or_eq_true, beq_iff_eq] at hb
    have h1 := hall e he hb.1
    rcases hb.2 with h2 | h2
    · rw [← h2]; exact h1
    · cases ho : ops[e.on]? with
      | none =>
        cases n with
        | zero => cases h2
        | succ n => unfold needs at h2; rw [ho] at h2; cases h2
      | some oe => exact needs_listed hc n e.on i oe ho (fun e' he' hb' => hc e.on oe ho h1 e' he' hb') h2

theorem getD_true_false {listed : Array Bool} {i : Nat} (h : listed.getD i true = false) : listed.getD i false = false := by
  rcases Nat.lt_or_ge i listed.size with h' | h'
  · simp [h'] at h ⊢; exact h
  · simp [Array.getElem?_eq_none h'] at h

theorem Closed.set {listed : Array Bool} {i : Nat} (hc : Closed ops listed) (hi : i ∈ Region.ready .any ops listed) : Closed ops (listed.setIfInBounds i true) := by
  obtain ⟨_, oi, hoi, hall⟩ := mem_ready.1 hi
  intro j oj hj hl e he hb
  by_cases hij : i = j
  · subst hij
    have : oj = oi := Option.some.inj (hj.symm.trans hoi)
    subst this
    exact getD_set_true (hall e he hb)
  · rw [getD_set_ne false hij] at hl
    exact getD_set_true (hc j oj hj hl e he hb)

theorem Closed.start (n : Nat) : Closed ops (Array.replicate n false) := by
  intro j oj _ hl
  rcases Nat.lt_or_ge j n with h | h
  · simp [h] at hl
  · simp [h] at hl

/-- None of the last ones has come up. -/
def NoE (E : Nat → Bool) (listed : Array Bool) : Prop := ∀ j, E j = true → listed.getD j false = false

theorem getD_set_false {listed : Array Bool} {i j : Nat} (h : (listed.setIfInBounds i true).getD j false = false) : listed.getD j false = false := by
  cases hl : listed.getD j false with
  | false => rfl
  | true => rw [getD_set_true hl] at h; cases h

theorem NoE.unset {listed : Array Bool} {i : Nat} (h : NoE E (listed.setIfInBounds i true)) : NoE E listed := fun j hj => getD_set_false (h j hj)
theorem NoE.set {listed : Array Bool} {i : Nat} (h : NoE E listed) (hi : E i = false) : NoE E (listed.setIfInBounds i true) := fun j hj => by
  rw [getD_set_ne false (by rintro rfl; rw [hi] at hj; cases hj)]
  exact h j hj

/-- Whatever order is picked: 'S2' behind every operation, 'S1' till the last ones come up. -/
def wpAny2 (P : Program) (ops : Array Oper) (Q : Exit → Act → World → Prop) (S1 S2 : World → Prop) (E : Nat → Bool) : Nat → Array Bool → Act → World → Prop
  | 0, listed, a, w => Region.ready .any ops listed = [] ∧ Q .normal a w
  | fuel + 1, listed, a, w =>
    (Region.ready .any ops listed = [] → Q .normal a w) ∧
    ∀ i ∈ Region.ready .any ops listed, wpOp P ops Q i (fun a' w' => (S2 w' ∧ (NoE E (listed.setIfInBounds i true) → S1 w')) ∧ wpAny2 P ops Q S1 S2 E fuel (listed.setIfInBounds i true) a' w') a w

theorem wpAny_of_two : ∀ (fuel : Nat) (listed : Array Bool) (a : Act) (w : World), wpAny2 P ops Q S1 S2 E fuel listed a w → wpAny P .any ops Q fuel listed a w
  | 0, _, _, _, h => h
  | fuel + 1, _, _, _, h => ⟨h.1, fun i hi => wpOp_mono (fun a' w' h' => wpAny_of_two fuel _ a' w' h'.2) (h.2 i hi)⟩

/-- All the last ones wait for 'i'. -/
def AllNeed (ops : Array Oper) (E : Nat → Bool) (i : Nat) : Prop := ∀ j, E j = true → needs ops ops.size j i = true

theorem first1 {i : Nat} {oi : Oper} {v : Value} (hi : ops[i]? = some oi) (hsel : ∀ (j : Nat) (o : Oper) cs b, ops[j]? = some o → o.op ≠ .select cs b)
    (hQ : ∀ c a w, Q (.panic c) (a.put oi.dst v) w → Q (.panic c) a w) (hEi : E i = false) (hE : AllNeed ops E i) :
    ∀ (fuel : Nat) (listed : Array Bool) (a : Act) (w : World), Closed ops listed →
      (∀ j oj, ops[j]? = some oj → j ≠ i → listed.getD j true = false → (∀ e ∈ oj.after, Region.binds .any e = true → e.on ≠ i) → oi.apart ops oj = true) →
      i ∈ Region.ready .any ops listed → YieldsIf P ops S1 oi v a → S2 w → S1 w →
      wpAny2 P ops Q S1 S2 E fuel (listed.setIfInBounds i true) (a.put oi.dst v) w → wpAny2 P ops Q S1 S2 E (fuel + 1) listed a w := by
  intro fuel
  induction fuel with
  | zero =>
    intro listed a w _ _ hr hy hS2 hS1 H
    refine ⟨fun h => (by rw [h] at hr; cases hr), fun j hj => ?_⟩
    by_cases hji : j = i
    · subst hji; exact hy.wpOp hi hS1 ⟨⟨hS2, fun _ => hS1⟩, H⟩
    · have := ready_mono hj hji
      rw [H.1] at this
      cases this
  | succ fuel ih =>
    intro listed a w hc hfree hr hy hS2 hS1 H
    refine ⟨fun h => (by rw [h] at hr; cases hr), fun j hj => ?_⟩
    by_cases hji : j = i
    · subst hji; exact hy.wpOp hi hS1 ⟨⟨hS2, fun _ => hS1⟩, H⟩
    · have h1 := H.2 j (ready_mono hj hji)
      obtain ⟨hjun, oj, hoj, hall⟩ := mem_ready.1 hj
      have hun := (mem_ready.1 hr).1
      have hnot : ∀ e ∈ oj.after, Region.binds .any e = true → e.on ≠ i := fun e he hb heq => by
        have h1 := hall e he hb
        rw [heq, getD_true_false hun] at h1
        cases h1
      have hnE : ∀ k, E k = true → listed.getD k false = false := fun k hk => by
        cases hl : listed.getD k false with
        | false => rfl
        | true =>
          cases ho : ops[k]? with
          | none =>
            have := hE k hk
            cases hsz : ops.size with
            | zero => rw [hsz] at this; cases this
            | succ m => rw [hsz] at this; unfold needs at this; rw [ho] at this; cases this
          | some ok =>
            have := needs_listed hc _ k i ok ho (fun e he hb => hc k ok ho hl e he hb) (hE k hk)
            rw [getD_true_false hun] at this
            cases this
      have hEj : E j = false := by
        cases hEj : E j with
        | false => rfl
        | true =>
          have := needs_listed hc _ j i oj hoj hall (hE j hEj)
          rw [getD_true_false hun] at this
          cases this
      have hnj : NoE E (listed.setIfInBounds j true) := NoE.set hnE hEj
      have h2 := wpOp_putIf hoj (hfree j oj hoj hji hjun hnot) (fun cs b => hsel i oi cs b hi) (fun cs b => hsel j oj cs b hoj) hQ hy h1
      have hfree' : ∀ k ok, ops[k]? = some ok → k ≠ i → (listed.setIfInBounds j true).getD k true = false →
          (∀ e ∈ ok.after, Region.binds .any e = true → e.on ≠ i) → oi.apart ops ok = true := fun k ok hk hki hun hno => by
        refine hfree k ok hk hki ?_ hno
        by_cases hjk : j = k
        · subst hjk; exact hjun
        · rw [getD_set_ne true hjk] at hun; exact hun
      have hsw : ∀ w', (NoE E ((listed.setIfInBounds i true).setIfInBounds j true) → S1 w') → NoE E (listed.setIfInBounds j true) → S1 w' := fun w' h hn => h (by
        rw [Array.setIfInBounds_comm _ _ (Ne.symm hji)]
        exact hn.set hEi)
      refine wpOp_mono (fun a' w' h3 => ⟨⟨h3.2.1.1, hsw w' h3.2.1.2⟩, ih (listed.setIfInBounds j true) a' w' (hc.set hj) hfree' (ready_mono hr (Ne.symm hji)) h3.1 h3.2.1.1 (hsw w' h3.2.1.2 hnj) ?_⟩) h2
      rw [Array.setIfInBounds_comm _ _ hji]
      exact h3.2.2

theorem first2 {i : Nat} {oi : Oper} {v : Value} (hi : ops[i]? = some oi) (hsel : ∀ (j : Nat) (o : Oper) cs b, ops[j]? = some o → o.op ≠ .select cs b)
    (hQ : ∀ c a w, Q (.panic c) (a.put oi.dst v) w → Q (.panic c) a w) (hEi : E i = false) :
    ∀ (fuel : Nat) (listed : Array Bool) (a : Act) (w : World), Closed ops listed →
      (∀ j oj, ops[j]? = some oj → j ≠ i → listed.getD j true = false → (∀ e ∈ oj.after, Region.binds .any e = true → e.on ≠ i) → oi.apart ops oj = true) →
      i ∈ Region.ready .any ops listed → YieldsIf P ops S2 oi v a → S2 w → (NoE E listed → S1 w) →
      wpAny2 P ops Q S1 S2 E fuel (listed.setIfInBounds i true) (a.put oi.dst v) w → wpAny2 P ops Q S1 S2 E (fuel + 1) listed a w := by
  intro fuel
  induction fuel with
  | zero =>
    intro listed a w _ _ hr hy hS2 hS1 H
    refine ⟨fun h => (by rw [h] at hr; cases hr), fun j hj => ?_⟩
    by_cases hji : j = i
    · subst hji; exact hy.wpOp hi hS2 ⟨⟨hS2, fun hn => hS1 hn.unset⟩, H⟩
    · have := ready_mono hj hji
      rw [H.1] at this
      cases this
  | succ fuel ih =>
    intro listed a w hc hfree hr hy hS2 hS1 H
    refine ⟨fun h => (by rw [h] at hr; cases hr), fun j hj => ?_⟩
    by_cases hji : j = i
    · subst hji; exact hy.wpOp hi hS2 ⟨⟨hS2, fun hn => hS1 hn.unset⟩, H⟩
    · have h1 := H.2 j (ready_mono hj hji)
      obtain ⟨hjun, oj, hoj, hall⟩ := mem_ready.1 hj
      have hun := (mem_ready.1 hr).1
      have hnot : ∀ e ∈ oj.after, Region.binds .any e = true → e.on ≠ i := fun e he hb heq => by
        have h1 := hall e he hb
        rw [heq, getD_true_false hun] at h1
        cases h1
      have h2 := wpOp_putIf hoj (hfree j oj hoj hji hjun hnot) (fun cs b => hsel i oi cs b hi) (fun cs b => hsel j oj cs b hoj) hQ hy h1
      have hfree' : ∀ k ok, ops[k]? = some ok → k ≠ i → (listed.setIfInBounds j true).getD k true = false →
          (∀ e ∈ ok.after, Region.binds .any e = true → e.on ≠ i) → oi.apart ops ok = true := fun k ok hk hki hun hno => by
        refine hfree k ok hk hki ?_ hno
        by_cases hjk : j = k
        · subst hjk; exact hjun
        · rw [getD_set_ne true hjk] at hun; exact hun
      have hsw : ∀ w', (NoE E ((listed.setIfInBounds i true).setIfInBounds j true) → S1 w') → NoE E (listed.setIfInBounds j true) → S1 w' := fun w' h hn => h (by
        rw [Array.setIfInBounds_comm _ _ (Ne.symm hji)]
        exact hn.set hEi)
      refine wpOp_mono (fun a' w' h3 => ⟨⟨h3.2.1.1, hsw w' h3.2.1.2⟩, ih (listed.setIfInBounds j true) a' w' (hc.set hj) hfree' (ready_mono hr (Ne.symm hji)) h3.1 h3.2.1.1 (hsw w' h3.2.1.2) ?_⟩) h2
      rw [Array.setIfInBounds_comm _ _ hji]
      exact h3.2.2

/-! ### The plan: 0: taken first, all the last ones wait for it; 1: taken first; 2: carried out where nothing else can come up; 3: one of the last ones, carried out. -/

def PlanT (P : Program) (ops : Array Oper) (Q : Exit → Act → World → Prop) (S1 S2 : World → Prop) : List (Nat × Oper) → Act → World → Prop
  | [], a, w => Q .normal a w
  | (0, o) :: r, a, w => ∃ v : Value, YieldsIf P ops S1 o v a ∧ PlanT P ops Q S1 S2 r (a.put o.dst v) w
  | (1, o) :: r, a, w => ∃ v : Value, YieldsIf P ops S2 o v a ∧ PlanT P ops Q S1 S2 r (a.put o.dst v) w
  | (2, o) :: r, a, w => if Region.wanted o (yielded ops a.tmps) then o.wp P a w (fun a' w' => (S2 w' ∧ S1 w') ∧ PlanT P ops Q S1 S2 r a' w') Q ∨ (o.asks P a w ∧ LetsOut Q) else PlanT P ops Q S1 S2 r (a.put o.dst undef) w
  | (_ + 3, o) :: r, a, w => if Region.wanted o (yielded ops a.tmps) then o.wp P a w (fun a' w' => S2 w' ∧ PlanT P ops Q S1 S2 r a' w') Q ∨ (o.asks P a w ∧ LetsOut Q) else PlanT P ops Q S1 S2 r (a.put o.dst undef) w

/-- The operations that are the last ones. -/
def lastOf (p : List (Nat × Nat)) : Nat → Bool := fun j => p.any fun x => x.1 == 3 && x.2 == j

def planT (l : List Oper) : List (Nat × Nat) → List (Nat × Oper)
  | [] => []
  | (b, i) :: r => match l.drop i with
    | o :: _ => (b, o) :: planT l r
    | [] => planT l r

/-- May it go so? ('b': the last ones have begun.) -/
def planTB (ops : Array Oper) (E : List Nat) : Bool → List (Nat × Nat) → Array Bool → Bool
  | _, [], listed => (Region.ready .any ops listed).isEmpty
  | b, (0, i) :: r, listed => !b && Region.free .any ops listed i && (Region.ready .any ops listed).contains i && !E.contains i && E.all (fun j => needs ops ops.size j i) && planTB ops E b r (listed.setIfInBounds i true)
  | b, (1, i) :: r, listed => Region.free .any ops listed i && (Region.ready .any ops listed).contains i && !E.contains i && planTB ops E b r (listed.setIfInBounds i true)
  | b, (2, i) :: r, listed => !b && !E.contains i && (Region.ready .any ops listed == [i]) && planTB ops E b r (listed.setIfInBounds i true)
  | _, (_ + 3, i) :: r, listed => E.contains i && (Region.ready .any ops listed == [i]) && planTB ops E true r (listed.setIfInBounds i true)

theorem planT_sound {l : List Oper} {EL : List Nat} (hs : Region.noSelect l.toArray = true) (hQ : ∀ (c : List PanicEntry) (a a' : Act) (w : World), Q (.panic c) a' w → Q (.panic c) a w) :
    ∀ (p : List (Nat × Nat)) (b : Bool) (listed : Array Bool) (a : Act) (w : World), Closed l.toArray listed → S2 w → (b = false → S1 w) → (b = true → ∃ j, EL.contains j = true ∧ listed.getD j false = true) → (p.all fun x => decide (x.2 < l.length)) = true → planTB l.toArray EL b p listed = true → (listed.size = l.length) →
      PlanT P l.toArray Q S1 S2 (planT l p) a w → wpAny2 P l.toArray Q S1 S2 (fun j => EL.contains j) p.length listed a w
  | [], b, listed, a, w, _, _, _, _, _, hb, _, h => by
    have hb' : Region.ready .any l.toArray listed = [] := by simpa [planTB] using hb
    exact ⟨hb', h⟩
  | (k, i) :: r, b, listed, a, w, hc, hS2, hS1, hE, hi, hb, hz, h => by
    simp only [List.all_cons, Bool.and_eq_true, decide_eq_true_eq] at hi
    have hz' : (listed.setIfInBounds i true).size = l.length := by simpa using hz
    have hset : (listed.setIfInBounds i true).getD i false = true := by simp [hz, hi.1]
    have hS1' : NoE (fun j => EL.contains j) listed → S1 w := fun hn => by
      cases b with
      | false => exact hS1 rfl
      | true =>
        obtain ⟨j, h1, h2⟩ := hE rfl
        rw [hn j h1] at h2
        cases h2
    unfold planT at h
    split at h
    case h_2 hd =>
      have := congrArg List.length hd
      simp at this
      omega
    case h_1 o t hd =>
      match k, h, hb with
      | 0, h, hb =>
        simp only [planTB, Bool.and_eq_true, Bool.not_eq_true', List.all_eq_true] at hb
        obtain ⟨v, hy, h⟩ := h
        obtain ⟨⟨⟨⟨⟨hb0, hb1⟩, hb2⟩, hb3⟩, hb4⟩, hb5⟩ := hb
        subst hb0
        have hr : i ∈ Region.ready .any l.toArray listed := by simpa using hb2
        exact first1 (drop_head hd) (Region.noSelect_spec hs) (fun c a w h => hQ c _ _ w h) hb3 (fun j hj => hb4 j (by simpa using hj)) _ listed a w hc (Region.free_spec (drop_head hd) hb1) hr hy hS2 (hS1 rfl)
          (planT_sound hs hQ r _ _ _ w (hc.set hr) hS2 hS1 (fun h => by cases h) hi.2 hb5 hz' h)
      | 1, h, hb =>
        simp only [planTB, Bool.and_eq_true, Bool.not_eq_true'] at hb
        obtain ⟨v, hy, h⟩ := h
        obtain ⟨⟨⟨hb1, hb2⟩, hb3⟩, hb5⟩ := hb
        have hr : i ∈ Region.ready .any l.toArray listed := by simpa using hb2
        exact first2 (drop_head hd) (Region.noSelect_spec hs) (fun c a w h => hQ c _ _ w h) hb3 _ listed a w hc (Region.free_spec (drop_head hd) hb1) hr hy hS2 hS1'
          (planT_sound hs hQ r b _ _ w (hc.set hr) hS2 hS1 (fun h => by obtain ⟨j, h1, h2⟩ := hE h; exact ⟨j, h1, getD_set_true h2⟩) hi.2 hb5 hz' h)
      | 2, h, hb =>
        simp only [planTB, Bool.and_eq_true, Bool.not_eq_true', beq_iff_eq] at hb
        obtain ⟨⟨⟨hb0, hb3⟩, hb2⟩, hb5⟩ := hb
        subst hb0
        have hr : i ∈ Region.ready .any l.toArray listed := by rw [hb2]; simp
        refine ⟨fun h0 => by (rw [h0] at hr; cases hr), fun j hj => ?_⟩
        obtain rfl : j = i := by rw [hb2] at hj; simpa using hj
        unfold wpOp
        rw [drop_head hd]
        simp only
        unfold PlanT at h
        split at h
        · rename_i hw
          rw [if_pos hw]
          exact h.imp (fun h => Oper.wp_mono (fun a' w' ⟨⟨h2, h1⟩, hp⟩ => ⟨⟨h2, fun _ => h1⟩, planT_sound hs hQ r _ _ a' w' (hc.set hr) h2 (fun _ => h1) (fun h => by cases h) hi.2 hb5 hz' hp⟩) h) id
        · rename_i hw
          rw [if_neg hw]
          exact ⟨⟨hS2, fun _ => hS1 rfl⟩, planT_sound hs hQ r _ _ _ w (hc.set hr) hS2 hS1 (fun h => by cases h) hi.2 hb5 hz' h⟩
      | k + 3, h, hb =>
        simp only [planTB, Bool.and_eq_true, beq_iff_eq] at hb
        obtain ⟨⟨hb3, hb2⟩, hb5⟩ := hb
        have hr : i ∈ Region.ready .any l.toArray listed := by rw [hb2]; simp
        have hno : ¬ NoE (fun j => EL.contains j) (listed.setIfInBounds i true) := fun hn => by
          have := hn i hb3
          rw [hset] at this
          cases this
        refine ⟨fun h0 => by (rw [h0] at hr; cases hr), fun j hj => ?_⟩
        obtain rfl : j = i := by rw [hb2] at hj; simpa using hj
        unfold wpOp
        rw [drop_head hd]
        simp only
        unfold PlanT at h
        split at h
        · rename_i hw
          rw [if_pos hw]
          exact h.imp (fun h => Oper.wp_mono (fun a' w' ⟨h2, hp⟩ => ⟨⟨h2, fun hn => absurd hn hno⟩, planT_sound hs hQ r true _ a' w' (hc.set hr) h2 (fun h => by cases h) (fun _ => ⟨j, hb3, hset⟩) hi.2 hb5 hz' hp⟩) h) id
        · rename_i hw
          rw [if_neg hw]
          exact ⟨⟨hS2, fun hn => absurd hn hno⟩, planT_sound hs hQ r true _ _ w (hc.set hr) hS2 (fun h => by cases h) (fun _ => ⟨j, hb3, hset⟩) hi.2 hb5 hz' h⟩

/-- **The region**, by a plan; 'EL': the last ones. (It must be shown not to panic.) -/
theorem wp_region_two {l : List Oper} {id : Nat} {a : Act} {w : World} (S1 S2 : World → Prop) (p : List (Nat × Nat)) (EL : List Nat) (hm : P.follows .mixedOrders = true) (hs : Region.noSelect l.toArray = true) (hn : (p.length == l.toArray.size) = true)
    (hi : (p.all fun x => decide (x.2 < l.length)) = true) (hb : planTB l.toArray EL false p (Array.replicate l.toArray.size false) = true) (h1 : S1 w.drew) (h2 : S2 w.drew)
    (h : PlanT P l.toArray (NoPanic Q) S1 S2 (planT l p) a w.drew) : (Code.region id l.toArray true).wp P Q a w := by
  refine wp_region_noPanic ?_
  refine wp_region_any hm ?_
  have h1 := planT_sound (S1 := S1) (S2 := S2) (EL := EL) hs (Q := NoPanic Q) (fun _ _ _ _ h => h) p false _ a w.drew (Closed.start _) h2 (fun _ => h1) (fun h => by cases h) hi hb (by simp) h
  rw [beq_iff_eq.1 hn] at h1
  exact wpAny_of_two _ _ _ _ h1

theorem PlanT.take0 {o : Oper} {r : List (Nat × Oper)} {a : Act} {w : World} {v : Value} (hw : Region.wanted o (yielded ops a.tmps) = true)
    (hy : ∀ w', S1 w' → (execOp a.eval o).run P w' = .ok (.value v) w') (h : PlanT P ops Q S1 S2 r (a.put o.dst v) w) : PlanT P ops Q S1 S2 ((0, o) :: r) a w :=
  ⟨v, .inl ⟨hw, hy⟩, h⟩
theorem PlanT.take1 {o : Oper} {r : List (Nat × Oper)} {a : Act} {w : World} {v : Value} (hw : Region.wanted o (yielded ops a.tmps) = true)
    (hy : ∀ w', S2 w' → (execOp a.eval o).run P w' = .ok (.value v) w') (h : PlanT P ops Q S1 S2 r (a.put o.dst v) w) : PlanT P ops Q S1 S2 ((1, o) :: r) a w :=
  ⟨v, .inl ⟨hw, hy⟩, h⟩
theorem PlanT.skip {k : Nat} {o : Oper} {r : List (Nat × Oper)} {a : Act} {w : World} (hw : Region.wanted o (yielded ops a.tmps) = false)
    (h : PlanT P ops Q S1 S2 r (a.put o.dst undef) w) : PlanT P ops Q S1 S2 ((k, o) :: r) a w := by
  match k with
  | 0 => exact ⟨undef, .inr ⟨hw, rfl⟩, h⟩
  | 1 => exact ⟨undef, .inr ⟨hw, rfl⟩, h⟩
  | 2 => unfold PlanT; rw [if_neg (by rw [hw]; simp)]; exact h
  | k + 3 => unfold PlanT; rw [if_neg (by rw [hw]; simp)]; exact h
theorem PlanT.exec2 {o : Oper} {r : List (Nat × Oper)} {a : Act} {w : World}
    (h : ∀ K : Act → World → Prop, Shut (∀ a w', S1 w' → S2 w' → PlanT P ops Q S1 S2 r a w' → K a w') → Region.wanted o (yielded ops a.tmps) = true ∧ Oper.wp P o a w K Q) : PlanT P ops Q S1 S2 ((2, o) :: r) a w := by
  have := h (fun a' w' => (S2 w' ∧ S1 w') ∧ PlanT P ops Q S1 S2 r a' w') (fun a w' h1 h2 hT => ⟨⟨h2, h1⟩, hT⟩)
  unfold PlanT
  rw [if_pos this.1]
  exact .inl this.2
theorem PlanT.exec3 {o : Oper} {r : List (Nat × Oper)} {a : Act} {w : World}
    (h : ∀ K : Act → World → Prop, Shut (∀ a w', S2 w' → PlanT P ops Q S1 S2 r a w' → K a w') → Region.wanted o (yielded ops a.tmps) = true ∧ Oper.wp P o a w K Q) : PlanT P ops Q S1 S2 ((3, o) :: r) a w := by
  have := h (fun a' w' => S2 w' ∧ PlanT P ops Q S1 S2 r a' w') (fun a w' h2 hT => ⟨h2, hT⟩)
  unfold PlanT
  rw [if_pos this.1]
  exact .inl this.2
theorem PlanT.done {a : Act} {w : World} (h : Q .normal a w) : PlanT P ops Q S1 S2 [] a w := h
end
end Go.Proofs.Yteeikmpfgbfeoaa
