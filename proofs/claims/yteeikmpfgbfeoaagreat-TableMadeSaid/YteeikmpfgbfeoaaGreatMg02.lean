import Derived.Test.YteeikmpfgbfeoaaGreatMg01
import Derived.Test.YteeikmpfgbfeoaaGreatMg00
import Derived.Test.YteeikmpfgbfeoaaGreatKeyRefRising
import Derived.Test.YteeikmpfgbfeoaaGreatBlkGet
import Derived.Test.YteeikmpfgbfeoaaGreatBlkRPut
import Derived.Test.YteeikmpfgbfeoaaGreatFixedOut

/-
  What is so of a filter's bytes: which bits are set, and that the keys it was made of may be there.
-/
namespace Go.Proofs.YteeikmpfgbfeoaaGreat
open Go.RowKit Ieee

theorem hasBit_eq (f : List UInt8) (x : Nat) : hasBit f x = (f.getD (x / 8) 0).toNat.testBit (x % 8) := by
  unfold hasBit
  rw [Nat.testBit_eq_decide_div_mod_eq]
  rfl

theorem hasBit_set (f : List UInt8) {x : Nat} (hx : x / 8 < f.length) (y : Nat) : hasBit (setBit f x) y = (hasBit f y || decide (x = y)) := by
  rw [hasBit_eq, hasBit_eq]
  unfold setBit
  by_cases h : x / 8 = y / 8
  · rw [← h]
    have hg : (f.set (x / 8) (UInt8.ofNat ((f.getD (x / 8) 0).toNat ||| 2 ^ (x % 8)))).getD (x / 8) 0 = UInt8.ofNat ((f.getD (x / 8) 0).toNat ||| 2 ^ (x % 8)) := by
      simp [List.getD, hx]
    rw [hg]
    have h3 : x % 8 < 8 := Nat.mod_lt _ (by decide)
    have hp : 2 ^ (x % 8) < 2 ^ 8 := Nat.pow_lt_pow_right (by omega) h3
    have hc := (f.getD (x / 8) 0).toNat_lt
    have hol : (f.getD (x / 8) 0).toNat ||| 2 ^ (x % 8) < 2 ^ 8 := Nat.or_lt_two_pow (n := 8) hc hp
    rw [UInt8.toNat_ofNat', Nat.mod_eq_of_lt hol, Nat.testBit_or, Nat.testBit_two_pow]
    congr 1
    have : (x % 8 = y % 8) ↔ x = y := by omega
    simp only [this]
  · have hne : ¬ x = y := by intro e; rw [e] at h; exact h rfl
    simp only [List.getD, List.getElem?_set_ne h, hne, decide_false, Bool.or_false]

theorem hasBit_putBits (f : List UInt8) (h : Nat) {m : Nat} (hm : 0 < m) (hf : m ≤ f.length) (y : Nat) : ∀ n, (hasBit (putBits f h m n) y = true ↔ hasBit f y = true ∨ ∃ j, j < n ∧ bitX h m j = y)
  | 0 => by
    constructor
    · exact Or.inl
    · rintro (h | ⟨j, hj, _⟩)
      · exact h
      · omega
  | n + 1 => by
    have hl := bitX_lt (h := h) (m := m) (j := n) hm
    rw [putBits_succ, hasBit_set _ (by rw [putBits_len]; omega), Bool.or_eq_true, hasBit_putBits f h hm hf y n, decide_eq_true_iff]
    constructor
    · rintro ((h1 | ⟨j, hj, h1⟩) | h1)
      · exact Or.inl h1
      · exact Or.inr ⟨j, by omega, h1⟩
      · exact Or.inr ⟨n, by omega, h1⟩
    · rintro (h1 | ⟨j, hj, h1⟩)
      · exact Or.inl (Or.inl h1)
      · by_cases hjn : j = n
        · subst hjn; exact Or.inr h1
        · exact Or.inl (Or.inr ⟨j, by omega, h1⟩)

theorem hasBit_putKeys {m : Nat} (hm : 0 < m) (n y : Nat) : ∀ (hs : List Nat) (f : List UInt8), m ≤ f.length → (hasBit (putKeys f hs m n) y = true ↔ hasBit f y = true ∨ ∃ h ∈ hs, ∃ j, j < n ∧ bitX h m j = y)
  | [], f, _ => by
    constructor
    · exact Or.inl
    · rintro (h | ⟨h, hh, _⟩)
      · exact h
      · cases hh
  | h :: r, f, hf => by
    show hasBit (putKeys (putBits f h m n) r m n) y = true ↔ _
    rw [hasBit_putKeys hm n y r _ (by rw [putBits_len]; exact hf), hasBit_putBits f h hm hf]
    constructor
    · rintro ((h1 | h1) | ⟨g, hg, h1⟩)
      · exact Or.inl h1
      · exact Or.inr ⟨h, List.mem_cons_self, h1⟩
      · exact Or.inr ⟨g, List.mem_cons_of_mem _ hg, h1⟩
    · rintro (h1 | ⟨g, hg, h1⟩)
      · exact Or.inl (Or.inl h1)
      · rcases List.mem_cons.mp hg with rfl | hg
        · exact Or.inl (Or.inr h1)
        · exact Or.inr ⟨g, hg, h1⟩

/-- Two rows of bytes with the same bits are the same. -/
theorem bits_ext {f g : List UInt8} (hl : f.length = g.length) (h : ∀ x, hasBit f x = true ↔ hasBit g x = true) : f = g := by
  apply List.ext_getElem hl
  intro i hi hj
  have hb : ∀ k, k < 8 → f[i].toNat.testBit k = g[i].toNat.testBit k := by
    intro k hk
    have := h (8 * i + k)
    rw [← Bool.eq_iff_iff, hasBit_eq, hasBit_eq, show (8 * i + k) / 8 = i by omega, show (8 * i + k) % 8 = k by omega] at this
    simpa [List.getD, hi, hj] using this
  apply UInt8.toNat.inj
  apply Nat.eq_of_testBit_eq
  intro k
  by_cases hk : k < 8
  · exact hb k hk
  · have e : ∀ b : UInt8, b.toNat.testBit k = false := by
      intro b
      apply Nat.testBit_lt_two_pow
      exact Nat.lt_of_lt_of_le b.toNat_lt (Nat.pow_le_pow_right (by omega) (by omega))
    rw [e, e]

theorem setBit_last (f : List UInt8) {x m : Nat} (hx : x < 8 * m) : (setBit f x).getD m 0 = f.getD m 0 := by
  unfold setBit
  have : x / 8 ≠ m := by omega
  simp only [List.getD, List.getElem?_set_ne this]
theorem putBits_last (f : List UInt8) (h : Nat) {m : Nat} (hm : 0 < m) : ∀ n, (putBits f h m n).getD m 0 = f.getD m 0
  | 0 => rfl
  | n + 1 => by rw [putBits_succ, setBit_last _ (bitX_lt hm), putBits_last f h hm n]
theorem putKeys_last {m : Nat} (hm : 0 < m) (n : Nat) : ∀ (hs : List Nat) (f : List UInt8), (putKeys f hs m n).getD m 0 = f.getD m 0
  | [], _ => rfl
  | h :: r, f => by
    show (putKeys (putBits f h m n) r m n).getD m 0 = _
    rw [putKeys_last hm n r, putBits_last f h hm]

theorem bytesM_pos (b n : Nat) : 8 ≤ bytesM b n := by unfold bytesM; omega
theorem bytesM_mono (b : Nat) {n k : Nat} (h : n ≤ k) : bytesM b n ≤ bytesM b k := by
  have : rawM b n ≤ rawM b k := wholeD_mono (mulR_mono (wordN_mono h))
  unfold bytesM
  omega

theorem makeL_some {b : Nat} (h : probesW b ≠ 0) (hs : List Nat) : makeL hs b = putKeys (List.replicate (bytesM b hs.length) 0 ++ [UInt8.ofNat (probesW b)]) hs (bytesM b hs.length) (probesW b) := by
  unfold makeL; rw [if_neg h]
theorem makeL_len {b : Nat} (h : probesW b ≠ 0) (hs : List Nat) : (makeL hs b).length = bytesM b hs.length + 1 := by
  rw [makeL_some h, putKeys_len]; simp
theorem makeL_last {b : Nat} (h : probesW b ≠ 0) (hs : List Nat) : (makeL hs b).getD (bytesM b hs.length) 0 = UInt8.ofNat (probesW b) := by
  have := bytesM_pos b hs.length
  rw [makeL_some h, putKeys_last (by omega)]
  simp [List.getD]
theorem makeL_bit {b : Nat} (h : probesW b ≠ 0) (hs : List Nat) (y : Nat) : hasBit (makeL hs b) y = true ↔ hasBit (List.replicate (bytesM b hs.length) 0 ++ [UInt8.ofNat (probesW b)]) y = true ∨ ∃ k ∈ hs, ∃ j, j < probesW b ∧ bitX k (bytesM b hs.length) j = y := by
  have := bytesM_pos b hs.length
  rw [makeL_some h]
  exact hasBit_putKeys (by omega) _ _ _ _ (by simp)

/-- The order of the keys does not count. -/
theorem makeL_same {b : Nat} {hs ks : List Nat} (hl : hs.length = ks.length) (h : ∀ k, k ∈ hs ↔ k ∈ ks) : makeL hs b = makeL ks b := by
  by_cases h0 : probesW b = 0
  · unfold makeL; rw [if_pos h0, if_pos h0]
  · apply bits_ext (by rw [makeL_len h0, makeL_len h0, hl])
    intro x
    rw [makeL_bit h0, makeL_bit h0, hl]
    simp only [h]

/-- A key that it was made of may be there. -/
theorem makeL_has (b : Nat) {hs : List Nat} {k : Nat} (hk : k ∈ hs) : mayL (makeL hs b) k = true := by
  by_cases h0 : probesW b = 0
  · unfold makeL
    rw [if_pos h0]
    rfl
  · have hp := probesW_le b
    have hm := bytesM_pos b hs.length
    have hlast := makeL_last h0 hs
    have hbits := makeL_bit h0 hs
    have hlen := makeL_len h0 hs
    generalize makeL hs b = f at *
    unfold mayL
    rw [hlen, if_neg (by omega), Nat.add_sub_cancel, hlast, UInt8.toNat_ofNat', Nat.mod_eq_of_lt (by omega), if_neg (by omega)]
    exact may_yes fun j hj => (hbits _).2 (Or.inr ⟨k, hk, j, hj, rfl⟩)

/-- With more keys no bit is lost. -/
theorem makeL_more {b : Nat} {hs ks : List Nat} (h0 : probesW b ≠ 0) (h : ∀ k, k ∈ hs → k ∈ ks) (hb : bytesM b hs.length = bytesM b ks.length) (x : Nat) (hx : hasBit (makeL hs b) x = true) : hasBit (makeL ks b) x = true := by
  rw [makeL_bit h0] at hx ⊢
  rw [← hb]
  rcases hx with hx | ⟨k, hk, hx⟩
  · exact Or.inl hx
  · exact Or.inr ⟨k, h k hk, hx⟩

theorem probesW_on {b : Nat} (h1 : oneD ≤ b) (h2 : b ≤ infD) : probesW b = max 1 (min 12 (if b = infD then 12 else wholeD (mulR sevenD b))) := by
  unfold probesW
  rw [if_pos ⟨h1, h2⟩]
theorem probesW_mono {a b : Nat} (h : a ≤ b) (hb : b ≤ infD) : probesW a ≤ probesW b := by
  by_cases ha : oneD ≤ a
  · rw [probesW_on ha (by omega), probesW_on (by omega) hb]
    by_cases hbi : b = infD
    · rw [if_pos hbi]
      omega
    · have hai : ¬ a = infD := by omega
      rw [if_neg hbi, if_neg hai]
      have := wholeD_mono (mulR_mono (a := sevenD) h)
      omega
  · have : probesW a = 0 := by unfold probesW; rw [if_neg (by omega)]
    omega

/-- A half. -/
abbrev halfD : Nat := 4602678819172646912
def halfP : Nat := 1021
theorem rungH_half : rungH double halfD = 4503599627370496 * 2 ^ halfP := by
  unfold rungH
  rw [binD, if_neg (by decide)]
  have e1 : halfD % 4503599627370496 = 0 := by decide
  have e2 : halfD / 4503599627370496 - 1 = halfP := by decide
  rw [e1, e2, Nat.add_zero]
theorem half_two : 2 * rungH double halfD = 2 ^ leastP := by
  rw [rungH_half, show leastP = halfP + 53 from by decide, Nat.pow_add]
  omega
theorem mulR_rungs {a b q : Nat} (h : rungH double a * rungH double b = q * 2 ^ (leastP + leastP)) (hq : q ≠ 0) : mulR a b = wordN q := by
  unfold mulR
  have hne : q * 2 ^ (leastP + leastP) ≠ 0 := by
    have := Nat.mul_pos (Nat.pos_of_ne_zero hq) (Nat.two_pow_pos (leastP + leastP))
    omega
  rw [h, if_neg hne]
  have hr := nearest_rung double (m := q) (e := 0) (b := -2148) hq (by omega) (by rw [lpD]; omega)
  have e5 : flV (-2148) q 0 = q * 2 ^ (leastP + leastP) := by
    unfold flV
    rw [show ((0 : Int) - -2148).toNat = leastP + leastP from by decide]
  rw [infD_eq, e5] at hr
  exact hr.symm
theorem half_times {n : Nat} (h : 2 * n < 9007199254740992) (hn : n ≠ 0) : mulR halfD (wordN (2 * n)) = wordN n := by
  apply mulR_rungs _ hn
  rw [(wordN_exact h).2]
  have := half_two
  rw [Nat.pow_add]
  rw [show rungH double halfD * (2 * n * 2 ^ leastP) = n * ((2 * rungH double halfD) * 2 ^ leastP) by
    generalize rungH double halfD = x
    generalize 2 ^ leastP = y
    simp only [Nat.mul_assoc, Nat.mul_left_comm], this]

theorem word1_eq : wordN 1 = oneD := by decide
theorem probesW_one : probesW oneD = 1 := by
  have h1 : mulR sevenD oneD ≤ wordN 1 := by
    have h2 := mulR_word (a := 1) (n := 1) (by omega) (by omega)
    have h3 : mulR sevenD oneD ≤ mulR (wordN 1) (wordN 1) := by
      rw [mulR_comm, word1_eq]
      exact mulR_mono (by decide)
    rw [h2] at h3
    exact h3
  have h4 := wholeD_mono h1
  rw [wholeD_word (by omega)] at h4
  rw [probesW_on (Nat.le_refl _) (by decide), if_neg (by decide)]
  omega
theorem probesW_most {b : Nat} (h : wordN 24 ≤ b) (hb : b ≤ infD) : probesW b = 12 := by
  have h1 : wholeD (mulR halfD (wordN 24)) = 12 := by
    rw [half_times (n := 12) (by omega) (by omega), wholeD_word (by omega)]
  have h2 : mulR halfD (wordN 24) ≤ mulR sevenD b := by
    refine Nat.le_trans (mulR_mono h) ?_
    rw [mulR_comm halfD, mulR_comm sevenD]
    exact mulR_mono (by decide)
  have h3 := wholeD_mono h2
  have h4 : oneD ≤ b := Nat.le_trans (show oneD ≤ wordN 24 by decide) h
  rw [probesW_on h4 hb]
  split <;> omega
theorem probesW_none {b : Nat} (h : b < oneD ∨ infD < b) : probesW b = 0 := by
  unfold probesW
  rw [if_neg (by omega)]
theorem rungH_seven : rungH double sevenD = 6305039478318694 * 2 ^ halfP := by
  unfold rungH
  rw [binD, if_neg (by decide)]
  have e1 : 4503599627370496 + sevenD % 4503599627370496 = 6305039478318694 := by decide
  have e2 : sevenD / 4503599627370496 - 1 = halfP := by decide
  rw [e1, e2]
theorem seven_word {n : Nat} (h : n < 9007199254740992) (hn : n ≠ 0) : mulR sevenD (wordN n) = double.nearest false (6305039478318694 * n) (-53) := by
  unfold mulR
  have hm : rungH double sevenD * rungH double (wordN n) = 6305039478318694 * n * 2 ^ (halfP + leastP) := by
    rw [rungH_seven, (wordN_exact h).2, Nat.pow_add]
    generalize 2 ^ halfP = x
    generalize 2 ^ leastP = y
    simp only [Nat.mul_assoc, Nat.mul_left_comm]
  have hn2 : 6305039478318694 * n ≠ 0 := by omega
  have hne : 6305039478318694 * n * 2 ^ (halfP + leastP) ≠ 0 := by
    have := Nat.mul_pos (Nat.pos_of_ne_zero hn2) (Nat.two_pow_pos (halfP + leastP))
    omega
  rw [hm, if_neg hne]
  have hr := nearest_rung double (m := 6305039478318694 * n) (e := -53) (b := -2148) hn2 (by omega) (by rw [lpD]; omega)
  have e5 : flV (-2148) (6305039478318694 * n) (-53) = 6305039478318694 * n * 2 ^ (halfP + leastP) := by
    unfold flV
    rw [show ((-53 : Int) - -2148).toNat = halfP + leastP from by decide]
  rw [infD_eq, e5] at hr
  exact hr.symm
/-- Ten bits ask seven times. -/
theorem probesW_ten : probesW (wordN 10) = 7 := by
  have h1 : mulR sevenD (wordN 10) = wordN 7 := by
    rw [seven_word (by omega) (by omega)]
    decide
  rw [probesW_on (by decide) (wordN_le _), if_neg (by decide), h1, wholeD_word (by omega)]
  rfl
theorem makeL_nil {b : Nat} {hs : List Nat} : (makeL hs b).length = 0 ↔ probesW b = 0 := by
  by_cases h : probesW b = 0
  · unfold makeL
    rw [if_pos h]
    simp [h]
  · rw [makeL_len h]
    simp [h]

theorem makeL_few (hs : List Nat) (b : Nat) (h : hs.length ≤ 10000) : (makeL hs b).length ≤ 100000 := by
  by_cases h0 : probesW b = 0
  · unfold makeL
    rw [if_pos h0]
    exact Nat.zero_le _
  · have := (raw_facts (probesW_pos h0).2 (show hs.length ≤ 100000 by omega)).2.2.2
    rw [makeL_len h0]
    unfold bytesM
    omega
theorem hashes_mem {l : List ByteArray} {k : Nat} (h : k < l.length) : hashL (l.getD k ⟨#[]⟩).data.toList ∈ hashes l := by
  unfold hashes
  rw [List.mem_map]
  exact ⟨l.getD k ⟨#[]⟩, by simp only [List.getD, List.getElem?_eq_getElem h, Option.getD_some]; exact List.getElem_mem h, rfl⟩

end Go.Proofs.YteeikmpfgbfeoaaGreat

/-
  Tables: Put, as the document tells it.
-/
namespace Go.Proofs.YteeikmpfgbfeoaaGreat
open Go.RowKit Ieee

/-- What is wrong with entries as a table. -/
def putTErr (es : List Ent) (per : Int) : Int := if per < 1 ∨ 64 < per ∨ risingB es = false ∨ es = [] then 1 else if 256 < es.length then 4 else 0
/-- What a call tells that puts entries into a table. -/
def RetPutT (w : World) (es : List Ent) (per : Int) (b : Nat) (e : Ending) (w' : World) : Prop :=
  ∃ x, e = .returned (.tuple #[x, .int .i64 (putTErr es per)]) ∧ OwnB w' w.heap.size 5 x (if putTErr es per = 0 then tableL es per.toNat (makeL (hashes (usersL es)) b) else []) ∧ Below w.heap.size w w'
theorem RetPutT.no {w w' : World} {es : List Ent} {per : Int} {b : Nat} {x : Int} (h : putTErr es per = x) (hx : x ≠ 0) (hb : Below w.heap.size w w') : RetPutT w es per b (.returned (.tuple #[.slice none 0 0, .int .i64 x])) w' :=
  ⟨_, by rw [h], by rw [if_neg (by omega)]; exact OwnB.nil _ _ _, hb⟩

set_option maxRecDepth 100000 in
set_option maxHeartbeats 600000 in
theorem rputtab_any (v : Value) (es : List Ent) (per : Int) (b : Nat) (w : World) (hv : RdE w v es) (_hp : (Lit.int .i64 per).wf = true) (hb : (Lit.float .f64 b).wf = true) :
    Calls Tryz.prog 8 #[v, .int .i64 per, .float .f64 b] w (RetPutT w es per b) := by
  have HV := Lib.hid hv
  have HRI := Lib.hid (rrising_any v es w hv)
  obtain ⟨va, vc, rfl, hc1, hc2⟩ := hv.form
  unfold maxLen at hc2
  clear hv
  by_cases p1 : per < 1
  · have HE := Lib.hid (show putTErr es per = 1 by unfold putTErr; rw [if_pos (.inl p1)])
    have d1 : decide (per < 1) = true := by simpa using p1
    go_enter Tryz.func8, Tryz.ntmps8
    go_wp2
    go_ret2
    exact RetPutT.no HE.out (by omega) (Below.refl _ _)
  · have d1 : decide (per < 1) = false := by simpa using p1
    by_cases p2 : 64 < per
    · have HE := Lib.hid (show putTErr es per = 1 by unfold putTErr; rw [if_pos (.inr (.inl p2))])
      have d2 : decide (64 < per) = true := by simpa using p2
      go_enter Tryz.func8, Tryz.ntmps8
      go_wp2
      go_ret2
      exact RetPutT.no HE.out (by omega) (Below.refl _ _)
    · have d2 : decide (64 < per) = false := by simpa using p2
      cases hr : risingB es with
      | false =>
        have HE := Lib.hid (show putTErr es per = 1 by unfold putTErr; rw [if_pos (.inr (.inr (.inl hr)))])
        rw [hr] at HRI
        clear hr
        go_enter Tryz.func8, Tryz.ntmps8
        go_wp2_with (go_at_call 26; (refine HRI.out.mono ?_); rintro e w1 ⟨rfl, hb1⟩)
        go_ret2
        exact RetPutT.no HE.out (by omega) hb1
      | true =>
        rw [hr] at HRI
        by_cases hn : es = []
        · have HE := Lib.hid (show putTErr es per = 1 by unfold putTErr; rw [if_pos (.inr (.inr (.inr hn)))])
          have hlb : ((es.length : Int) == 0) = true := by rw [hn]; rfl
          clear hn hr
          go_enter Tryz.func8, Tryz.ntmps8
          go_wp2_with (go_at_call 26; (refine HRI.out.mono ?_); rintro e w1 ⟨rfl, hb1⟩)
          go_ret2
          exact RetPutT.no HE.out (by omega) hb1
        · have hno : ¬ (per < 1 ∨ 64 < per ∨ risingB es = false ∨ es = []) := by
            rintro (h | h | h | h)
            · exact p1 h
            · exact p2 h
            · rw [hr] at h; cases h
            · exact hn h
          have hlb : ((es.length : Int) == 0) = false := by
            have := List.length_pos_iff.2 hn
            have : (es.length : Int) ≠ 0 := by omega
            simpa using this
          by_cases h256 : 256 < es.length
          · have HE := Lib.hid (show putTErr es per = 4 by unfold putTErr; rw [if_neg hno, if_pos h256])
            have d3 : decide ((256 : Int) < (es.length : Int)) = true := by simp; omega
            clear hn hr hno
            go_enter Tryz.func8, Tryz.ntmps8
            go_wp2_with (go_at_call 26; (refine HRI.out.mono ?_); rintro e w1 ⟨rfl, hb1⟩)
            go_ret2
            exact RetPutT.no HE.out (by omega) hb1
          · have HE := Lib.hid (show putTErr es per = 0 by unfold putTErr; rw [if_neg hno, if_neg h256])
            have d3 : decide ((256 : Int) < (es.length : Int)) = false := by simp; omega
            obtain ⟨pn, rfl⟩ : ∃ pn : Nat, per = (pn : Int) := ⟨per.toNat, by omega⟩
            have HUL := Lib.hid (usersN_len es es.length)
            have HUI := Lib.hid (show ∀ s ∈ usersL es, s.size ≤ maxLen from fun s hs => by
              obtain ⟨e, he, rfl⟩ := usersN_in es es.length (Nat.le_refl _) s hs
              exact (Ent.may_fits (rising_all hr e he)).1)
            have HUS : Hid (∀ wz, RdE wz (.slice va es.length vc) es → Calls Tryz.prog 29 #[.slice va es.length vc] wz fun e w' => ∃ x, e = .returned x ∧ OwnS w' wz.heap.size x (usersL es) ∧ Below wz.heap.size wz w') := Lib.hid fun wz hz => rusers_any _ es wz hz (by omega)
            have HMK : Hid (∀ x wz B, OwnS wz B x (usersL es) → Calls Tryz.prog 28 #[x, .float .f64 b] wz (RetB wz.heap.size wz (makeL (hashes (usersL es)) b))) := Lib.hid fun x wz B hx => rmake_any x (usersL es) b hb wz (rd_of_own hx) HUI.out (by have := HUL.out; unfold usersL; omega)
            have hfl := makeL_few (hashes (usersL es)) b (by unfold hashes; rw [List.length_map]; have := HUL.out; unfold usersL; omega)
            have HTA : Hid (∀ x wz, RdE wz (.slice va es.length vc) es → RdB wz x (makeL (hashes (usersL es)) b) → Calls Tryz.prog 27 #[.slice va es.length vc, .int .i64 (pn : Int), x] wz (RetB wz.heap.size wz (tableL es pn (makeL (hashes (usersL es)) b)))) := Lib.hid fun x wz h1 h2 => rtable_any _ x es pn _ wz h1 h2 hr (by omega) (by omega) (by omega) (by omega)
            clear hn hr hno h256 hfl
            go_enter Tryz.func8, Tryz.ntmps8
            go_wp2_with (first | (go_at_call 26; (refine HRI.out.mono ?_); rintro e w1 ⟨rfl, hb1⟩; have HV1 := Lib.hid (HV.out.below hb1 (Nat.le_refl _))) | (go_at_call 29; (refine (HUS.out _ HV1.out).mono ?_); rintro e w2 ⟨x2, rfl, ho2, hb2⟩; have HB2 := Lib.hid (hb1.trans (hb2.mono hb1.size)); have HO2 := Lib.hid ho2; clear ho2 hb2) | (go_at_call 28; (refine (HMK.out _ _ _ HO2.out).mono ?_); rintro e w3 ⟨x3, rfl, ho3, hb3⟩; have HB3 := Lib.hid (HB2.out.trans (hb3.mono HB2.out.size)); have HO3 := Lib.hid ho3.read; clear ho3 hb3) | (go_at_call 27; (refine (HTA.out _ _ (HV.out.below HB3.out (Nat.le_refl _)) HO3.out).mono ?_); rintro e w4 ⟨x4, rfl, ho4, hb4⟩; have HB4 := Lib.hid (HB3.out.trans (hb4.mono HB3.out.size)); have HO4 := Lib.hid (own_base (B' := w.heap.size) ho4 fun k hk => Nat.le_trans HB3.out.size (World.ownsRow.lt ho4 k hk).1); clear ho4 hb4))
            go_ret2
            exact ⟨_, by rw [HE.out]; rfl, by rw [if_pos HE.out]; exact HO4.out, HB4.out⟩
end Go.Proofs.YteeikmpfgbfeoaaGreat

/-
  Blocks: plain facts: the entries are told one by one.
-/
namespace Go.Proofs.YteeikmpfgbfeoaaGreat
open Go.RowKit

/-- So far the entries are those of any block that these bytes can be the body of; the next one begins at p. -/
def Par (c : List UInt8) (acc : List Ent) (p : Nat) : Prop := ∀ es, IsBody c es → acc.length ≤ es.length ∧ acc = es.take acc.length ∧ p = (bodyN es acc.length).length

theorem Par.start (c : List UInt8) : Par c [] 0 := fun _ _ => ⟨Nat.zero_le _, rfl, rfl⟩
theorem prevU_acc {acc es : List Ent} (h : acc = es.take acc.length) : prevU acc acc.length = prevU es acc.length := by
  have := prevU_take es (Nat.le_refl acc.length)
  rw [← h] at this
  exact this
theorem Par.none_ {c : List UInt8} {acc : List Ent} {p : Nat} (h : Par c acc p) (hp : p < c.length) (hs : stepP c (prevU acc acc.length) p = none) (es : List Ent) : ¬ IsBody c es := by
  intro hb
  obtain ⟨h1, h2, h3⟩ := h es hb
  have hlt : acc.length < es.length := (hb.at_end h1).1 (by rw [← h3]; exact hp)
  have := hb.step hlt
  rw [← prevU_acc h2, ← h3, hs] at this
  cases this
theorem Par.more {c : List UInt8} {acc : List Ent} {p q : Nat} {e : Ent} (h : Par c acc p) (hp : p < c.length) (hs : stepP c (prevU acc acc.length) p = some (e, q)) : Par c (acc ++ [e]) q := by
  intro es hb
  obtain ⟨h1, h2, h3⟩ := h es hb
  have hlt : acc.length < es.length := (hb.at_end h1).1 (by rw [← h3]; exact hp)
  have := hb.step hlt
  rw [← prevU_acc h2, ← h3, hs] at this
  simp only [Option.some.injEq, Prod.mk.injEq] at this
  have hl : (acc ++ [e]).length = acc.length + 1 := by simp
  rw [hl]
  refine ⟨hlt, ?_, this.2⟩
  rw [take_more es hlt, ← h2, this.1]
theorem Par.end_ {c : List UInt8} {acc : List Ent} {p : Nat} (h : Par c acc p) (hp : ¬ p < c.length) {es : List Ent} (hb : IsBody c es) : es = acc := by
  obtain ⟨h1, h2, h3⟩ := h es hb
  have : ¬ acc.length < es.length := fun hlt => hp (by rw [h3]; exact (hb.at_end h1).2 hlt)
  rw [h2, List.take_of_length_le (by omega)]

theorem prevU_snoc (acc : List Ent) (e : Ent) : prevU (acc ++ [e]) (acc.length + 1) = uL e := by
  unfold prevU
  rw [if_neg (by omega)]
  simp [List.getD]

/-- What the last two bytes of a block tell. -/
theorem IsBlk.count {b : List UInt8} {es : List Ent} (h : IsBlk b es) : 2 ≤ b.length ∧ 1 ≤ valL (b.drop (b.length - 2)) ∧ 4 * valL (b.drop (b.length - 2)) + 2 ≤ b.length := by
  obtain ⟨h1, h2, h3⟩ := putErr_ok h.1
  have hpos := List.length_pos_iff.2 h2
  have hl := blockL_len es
  have hc := blockL_count es h3
  rw [← h.2, hc, hl]
  omega

/-- What the rest tells, by what the four reads tell. -/
theorem step_by {c last : List UInt8} {p s a d x f g : Nat} {rest v : List UInt8} (h1 : getAt c (p : Int) = some (s, a)) (h2 : textAt c (a : Int) = some (rest, d)) (h3 : getAt c (d : Int) = some (x, f)) (h4 : textAt c (f : Int) = some (v, g)) :
    stepP c last p = if last.length < s then none else some (⟨strB (last.take s ++ rest), ((x / 2 : Nat) : Int), ((1 + x % 2 : Nat) : Int), strB v⟩, g) := by
  unfold stepP
  rw [h1]; simp only
  rw [h2]; simp only
  rw [h3]; simp only
  rw [h4]
theorem step_no1 {c last : List UInt8} {p : Nat} (h1 : getAt c (p : Int) = none) : stepP c last p = none := by unfold stepP; rw [h1]
theorem step_no2 {c last : List UInt8} {p s a : Nat} (h1 : getAt c (p : Int) = some (s, a)) (h2 : textAt c (a : Int) = none) : stepP c last p = none := by unfold stepP; rw [h1]; simp only; rw [h2]
theorem step_no3 {c last : List UInt8} {p s a d : Nat} {rest : List UInt8} (h1 : getAt c (p : Int) = some (s, a)) (h2 : textAt c (a : Int) = some (rest, d)) (h3 : getAt c (d : Int) = none) : stepP c last p = none := by
  unfold stepP; rw [h1]; simp only; rw [h2]; simp only; rw [h3]
theorem step_no4 {c last : List UInt8} {p s a d x f : Nat} {rest : List UInt8} (h1 : getAt c (p : Int) = some (s, a)) (h2 : textAt c (a : Int) = some (rest, d)) (h3 : getAt c (d : Int) = some (x, f)) (h4 : textAt c (f : Int) = none) : stepP c last p = none := by
  unfold stepP; rw [h1]; simp only; rw [h2]; simp only; rw [h3]; simp only; rw [h4]

/-- What a number at a place is, as three letters. -/
theorem ans3_form (c : List UInt8) (at_ : Int) : ∃ (n k : Nat) (ok : Bool), ans3 (getAt c at_) = .tuple #[.int .i64 (n : Int), .int .i64 (k : Int), .bool ok] ∧ (ok = true → getAt c at_ = some (n, k) ∧ at_ < (k : Int)) ∧ (ok = false → getAt c at_ = none) ∧ n ≤ 9223372036854775807 ∧ k ≤ c.length := by
  cases h : getAt c at_ with
  | none => exact ⟨0, 0, false, rfl, (fun e => by cases e), (fun _ => rfl), by omega, Nat.zero_le _⟩
  | some x =>
    obtain ⟨n, k⟩ := x
    obtain ⟨p, hp, h1, h2, h0, _, h4⟩ := getAt_some h
    exact ⟨n, k, true, rfl, fun _ => ⟨rfl, by omega⟩, (fun e => by cases e), by omega, by omega⟩
theorem textAt_bound {c : List UInt8} {at_ : Int} {s : List UInt8} {k : Nat} (h : textAt c at_ = some (s, k)) : s.length ≤ c.length ∧ k ≤ c.length ∧ at_ < (k : Int) := by
  unfold textAt at h
  obtain ⟨⟨n, a⟩, hg, hb⟩ := Option.bind_eq_some_iff.1 h
  obtain ⟨p, hp, h1, h2, _⟩ := getAt_some hg
  simp only at hb
  split at hb
  · rename_i hn
    simp only [Option.some.injEq, Prod.mk.injEq] at hb
    obtain ⟨rfl, rfl⟩ := hb
    rw [List.length_take, List.length_drop]
    omega
  · cases hb
theorem ansT_form (c : List UInt8) (at_ : Int) : ∃ (s : List UInt8) (k : Nat) (ok : Bool), ansT (textAt c at_) = .tuple #[.string (strB s), .int .i64 (k : Int), .bool ok] ∧ (ok = true → textAt c at_ = some (s, k) ∧ at_ < (k : Int)) ∧ (ok = false → textAt c at_ = none) ∧ s.length ≤ c.length ∧ k ≤ c.length := by
  cases h : textAt c at_ with
  | none => exact ⟨[], 0, false, rfl, (fun e => by cases e), (fun _ => rfl), Nat.zero_le _, Nat.zero_le _⟩
  | some x =>
    obtain ⟨s, k⟩ := x
    obtain ⟨h1, h2, h3⟩ := textAt_bound h
    exact ⟨s, k, true, rfl, fun _ => ⟨rfl, h3⟩, (fun e => by cases e), h1, h2⟩
end Go.Proofs.YteeikmpfgbfeoaaGreat

/-
  Blocks: the entry that four reads tell.
-/
namespace Go.Proofs.YteeikmpfgbfeoaaGreat
open Go.RowKit

/-- The entry that the four reads tell. -/
def ent_by (L : ByteArray) (s x : Nat) (rs vs : List UInt8) : Ent := ⟨L.extract 0 s ++ strB rs, (x : Int) / 2, 1 + (x : Int) % 2, strB vs⟩
theorem ent_same {L : ByteArray} {s x : Nat} {rs vs last : List UInt8} (h : L = strB last) : ent_by L s x rs vs = ⟨strB (last.take s ++ rs), ((x / 2 : Nat) : Int), ((1 + x % 2 : Nat) : Int), strB vs⟩ := by
  unfold ent_by
  have h1 : L.extract 0 s ++ strB rs = strB (last.take s ++ rs) := by
    rw [h]
    apply ByteArray.ext
    apply Array.ext'
    simp [ByteArray.data_extract, List.extract_eq_take_drop]
  rw [h1, show (x : Int) / 2 = ((x / 2 : Nat) : Int) by omega, show 1 + (x : Int) % 2 = ((1 + x % 2 : Nat) : Int) by omega]
theorem ent_len {L : ByteArray} {s : Nat} {rs : List UInt8} : (L.extract 0 s ++ strB rs).size ≤ L.size + rs.length := by
  have h : (L.extract 0 s).data.toList.length ≤ L.size := by
    rw [ByteArray.data_extract, Array.toList_extract, List.extract_eq_take_drop, List.length_take]
    simp only [List.drop_zero, Array.length_toList]
    show min _ L.size ≤ L.size
    omega
  rw [ByteArray.size_append, strB_size]
  show (L.extract 0 s).data.toList.length + rs.length ≤ _
  omega
theorem ent_fits {L : ByteArray} {s x : Nat} {rs vs : List UInt8} (hL : L.size ≤ 100000000) (hx : x ≤ 9223372036854775807) (hr : rs.length ≤ 1000000) (hv : vs.length ≤ 1000000) : (ent_by L s x rs vs).fits := by
  have := ent_len (L := L) (s := s) (rs := rs)
  refine ⟨?_, ?_, ?_, ?_⟩
  · show (L.extract 0 s ++ strB rs).size ≤ maxLen
    unfold maxLen
    omega
  · show (strB vs).size ≤ maxLen
    rw [strB_size]
    unfold maxLen
    omega
  · show (Lit.int .i64 ((x : Int) / 2)).wf = true
    simp only [Lit.wf, IntKind.min, IntKind.max, IntKind.signed, IntKind.bits]
    simp
    omega
  · show (Lit.int .i64 (1 + (x : Int) % 2)).wf = true
    simp only [Lit.wf, IntKind.min, IntKind.max, IntKind.signed, IntKind.bits]
    simp
    omega

end Go.Proofs.YteeikmpfgbfeoaaGreat

/-
  Blocks: the entries of a block, as the document tells them.
-/
namespace Go.Proofs.YteeikmpfgbfeoaaGreat
open Go.RowKit

/-- What a call tells that tells the entries of a block. -/
def RetGet (w : World) (b : List UInt8) (e : Ending) (w' : World) : Prop :=
  ∃ x, e = .returned (.tuple #[x, .bool (getB b).isSome]) ∧ OwnE w' w.heap.size x ((getB b).getD []) ∧ Below w.heap.size w w'

theorem OwnE.nil (w : World) (B : Nat) : OwnE w B (.slice none 0 0) [] := World.ownsRow_nil _ _ _ _
theorem RetGet.no {w w' : World} {b : List UInt8} (h : getB b = none) (hb : Below w.heap.size w w') : RetGet w b (.returned (.tuple #[.slice none 0 0, .bool false])) w' :=
  ⟨_, by rw [h]; rfl, by rw [h]; exact OwnE.nil _ _, hb⟩
theorem RetGet.yes {w w' : World} {b : List UInt8} {es : List Ent} {x : Value} (h : IsBlk b es) (ho : OwnE w' w.heap.size x es) (hb : Below w.heap.size w w') : RetGet w b (.returned (.tuple #[x, .bool true])) w' :=
  ⟨_, by rw [getB_some h]; rfl, by rw [getB_some h]; exact ho, hb⟩

set_option maxRecDepth 100000 in
set_option maxHeartbeats 1000000 in
theorem rgetblk_any (v : Value) (b : List UInt8) (w : World) (hv : RdB w v b) (hl : b.length ≤ 1000000) : Calls Tryz.prog 33 #[v] w (RetGet w b) := by
  have HV := Lib.hid hv
  obtain ⟨va, vc, rfl, hc1, hc2⟩ := hv.form
  unfold maxLen at hc2
  clear hv
  have l1 : IntKind.i64.wrap ((b.length : Int) - 2) = (b.length : Int) - 2 := IntWalk.i64_in _ (by omega)
  by_cases g1 : b.length < 2
  · have HNO := Lib.hid (show getB b = none from getB_none fun es h => by have := h.count; omega)
    have HF := Lib.hid (rgetFixed_out (.slice va b.length vc) b ((b.length : Int) - 2) 2 (by omega) (by omega) w HV.out)
    go_enter Tryz.func33, Tryz.ntmps33
    go_wp2_with (go_at_call 31; (refine HF.out.mono ?_); rintro e w1 ⟨rfl, rfl⟩)
    go_ret2
    exact RetGet.no HNO.out (Below.refl _ _)
  · obtain ⟨m, hm⟩ : ∃ m, b.length = m + 2 := ⟨b.length - 2, by omega⟩
    have hgf := rgetFixed_yes (.slice va b.length vc) b m 2 (by omega) (by omega) w HV.out
    have htk : (b.drop m).take 2 = b.drop (b.length - 2) := by rw [List.take_of_length_le (by rw [List.length_drop]; omega), hm, Nat.add_sub_cancel]
    rw [htk] at hgf
    have HCO := Lib.hid (fun es (h : IsBlk b es) => h.count)
    have HBO := Lib.hid (fun es (h : IsBlk b es) => h.body)
    have hvl : valL (b.drop (b.length - 2)) < 65536 := by
      have := valL_lt (b.drop (b.length - 2))
      rw [List.length_drop, show b.length - (b.length - 2) = 2 by omega] at this
      exact this
    generalize valL (b.drop (b.length - 2)) = n at *
    have HF := Lib.hid (show Calls Tryz.prog 31 #[.slice va b.length vc, .int .i64 ((b.length : Int) - 2), .int .i64 2] w fun e w' => e = .returned (.tuple #[.int .i64 (n : Int), .bool true]) ∧ w = w' by rw [show (b.length : Int) - 2 = (m : Int) by omega]; exact hgf)
    clear hgf htk
    clear hm
    have g1' : 2 ≤ b.length := by omega
    clear m
    by_cases g2 : n < 1 ∨ b.length < n ∨ b.length < 4 * n + 2
    · have HNO := Lib.hid (show getB b = none from getB_none fun es h => by have := HCO.out es h; omega)
      have f4 : IntKind.i64.wrap (4 * (n : Int)) = 4 * (n : Int) := IntWalk.i64_in _ (by omega)
      have f5 : IntKind.i64.wrap (4 * (n : Int) + 2) = 4 * (n : Int) + 2 := IntWalk.i64_in _ (by omega)
      rcases g2 with g2 | g2
      · have f1 : decide ((n : Int) < 1) = true := by simp; omega
        clear HCO HBO
        go_enter Tryz.func33, Tryz.ntmps33
        go_wp2_with (go_at_call 31; (refine HF.out.mono ?_); rintro e w1 ⟨rfl, rfl⟩)
        go_ret2
        exact RetGet.no HNO.out (Below.refl _ _)
      · by_cases g3 : n < 1
        · omega
        · have f1 : decide ((n : Int) < 1) = false := by simp; omega
          by_cases g4 : b.length < n
          · have f2 : decide ((b.length : Int) < (n : Int)) = true := by simp; omega
            clear HCO HBO
            go_enter Tryz.func33, Tryz.ntmps33
            go_wp2_with (go_at_call 31; (refine HF.out.mono ?_); rintro e w1 ⟨rfl, rfl⟩)
            go_ret2
            exact RetGet.no HNO.out (Below.refl _ _)
          · have f2 : decide ((b.length : Int) < (n : Int)) = false := by simp; omega
            have f3 : decide ((b.length : Int) < 4 * (n : Int) + 2) = true := by simp; omega
            clear HCO HBO
            go_enter Tryz.func33, Tryz.ntmps33
            go_wp2_with (go_at_call 31; (refine HF.out.mono ?_); rintro e w1 ⟨rfl, rfl⟩)
            go_ret2
            exact RetGet.no HNO.out (Below.refl _ _)
    · have f1 : decide ((n : Int) < 1) = false := by simp; omega
      have f2 : decide ((b.length : Int) < (n : Int)) = false := by simp; omega
      have f3 : decide ((b.length : Int) < 4 * (n : Int) + 2) = false := by simp; omega
      have f4 : IntKind.i64.wrap (4 * (n : Int)) = 4 * (n : Int) := IntWalk.i64_in _ (by omega)
      have f5 : IntKind.i64.wrap (4 * (n : Int) + 2) = 4 * (n : Int) + 2 := IntWalk.i64_in _ (by omega)
      have f2n : decide (b.length < n) = false := by simp; omega
      have f1n : decide (n < 1) = false := by simp; omega
      have f3n : decide (b.length < 4 * n + 2) = false := by simp; omega
      obtain ⟨E, hE⟩ : ∃ E, b.length - 2 - 4 * n = E := ⟨_, rfl⟩
      have f6 : IntKind.i64.wrap ((b.length : Int) - 2 - 4 * (n : Int)) = (E : Int) := by rw [IntWalk.i64_in _ (by omega)]; omega
      rw [hE] at HBO
      have hEb : E ≤ b.length := by omega
      have hcl : (b.take E).length = E := by rw [List.length_take]; omega
      have HCL := Lib.hid hcl
      obtain ⟨bb, off, cap', hvv, _, _, _, _⟩ := HV.out.cells (by intro h; subst h; simp at g1')
      cases hvv
      have HSUB0 : Hid (∀ wz, Below w.heap.size w wz → RdB wz (.slice (some ⟨bb, off, none⟩) E vc) (b.take E)) := Lib.hid fun wz hz => by
        have h := sub_rd (HV.out.below hz (Nat.le_refl _)) 0 E (by omega) (by omega)
        rw [List.drop_zero] at h
        unfold RdB
        rw [hcl]
        simpa [Addr.add] using h
      generalize b.take E = c at *
      clear HCO hE hcl
      go_enter Tryz.func33, Tryz.ntmps33
      go_wp2_with (go_at_call 31; (refine HF.out.mono ?_); rintro e w1 ⟨rfl, rfl⟩)
      go_loopw [7, 8, 9] (fun l at_ last wr => ∃ (acc : List Ent) (p : Nat) (L : ByteArray), acc.length ≤ 65 ∧ p ≤ 1000000 ∧ at_ = .int .i64 (p : Int) ∧ last = .string L ∧ L.size ≤ 1000000 * acc.length ∧ Hid (OwnE wr w.heap.size l acc) ∧ Hid (Par c acc p) ∧ Hid (L = strB (prevU acc acc.length)) ∧ Hid (∀ e ∈ acc, e.fits) ∧ Hid (Below w.heap.size w wr)) (fun _ at_ _ _ => 1000000 - (intOf at_).toNat)
      case atStart => exact ⟨[], 0, ⟨#[]⟩, by simp, by omega, rfl, rfl, by simp [ByteArray.size], Lib.hid (OwnE.nil _ _), Lib.hid (Par.start c), Lib.hid rfl, Lib.hid (fun e h => by cases h), Lib.hid (Below.refl _ _)⟩
      case round =>
        obtain ⟨acc, p, L, hacc, hp1, rfl, rfl, hL, HO, HP, HLS, HFI, HB⟩ := hrel
        obtain ⟨la, lc, hla, hlc1, hlc2⟩ := HO.out.form
        subst hla
        unfold maxLen at hlc2
        have HNO := Lib.hid (show (p < E → stepP c (prevU acc acc.length) p = none → getB b = none) from fun h1 h2 => getB_none fun es he => HP.out.none_ (by rw [HCL.out]; exact h1) h2 es (HBO.out es he))
        have HSUB := Lib.hid (HSUB0.out wr HB.out)
        by_cases hpE : p < E
        · have k1 : decide ((p : Int) < (E : Int)) = true := by simp; omega
          by_cases h64 : acc.length ≤ 64
          · have k2 : decide ((acc.length : Int) ≤ 64) = true := by simp; omega
            have HPE := Lib.hid hpE
            have H64 := Lib.hid h64
            obtain ⟨s, a, p1, e1, t1, n1, bs, ba⟩ := ans3_form c (p : Int)
            obtain ⟨rs, d, p2, e2, t2, n2, brs, bd⟩ := ansT_form c (a : Int)
            obtain ⟨x, f, p3, e3, t3, n3, bx, bf⟩ := ans3_form c (d : Int)
            obtain ⟨vs, g, p4, e4, t4, n4, bvs, bg⟩ := ansT_form c (f : Int)
            rw [HCL.out] at ba brs bd bf bvs bg
            have HG1 : Hid (∀ wz, RdB wz (.slice (some ⟨bb, off, none⟩) E vc) c → Calls Tryz.prog 69 #[.slice (some ⟨bb, off, none⟩) E vc, .int .i64 (p : Int)] wz fun e w' => e = .returned (.tuple #[.int .i64 (s : Int), .int .i64 (a : Int), .bool p1]) ∧ wz = w') := Lib.hid fun wz h => by rw [← e1]; exact rget_any _ c p wz h
            have HG2 : Hid (∀ wz, RdB wz (.slice (some ⟨bb, off, none⟩) E vc) c → Calls Tryz.prog 70 #[.slice (some ⟨bb, off, none⟩) E vc, .int .i64 (a : Int)] wz fun e w' => e = .returned (.tuple #[.string (strB rs), .int .i64 (d : Int), .bool p2]) ∧ wz = w') := Lib.hid fun wz h => by rw [← e2]; exact rgetText_any _ c a wz h
            have HG3 : Hid (∀ wz, RdB wz (.slice (some ⟨bb, off, none⟩) E vc) c → Calls Tryz.prog 69 #[.slice (some ⟨bb, off, none⟩) E vc, .int .i64 (d : Int)] wz fun e w' => e = .returned (.tuple #[.int .i64 (x : Int), .int .i64 (f : Int), .bool p3]) ∧ wz = w') := Lib.hid fun wz h => by rw [← e3]; exact rget_any _ c d wz h
            have HG4 : Hid (∀ wz, RdB wz (.slice (some ⟨bb, off, none⟩) E vc) c → Calls Tryz.prog 70 #[.slice (some ⟨bb, off, none⟩) E vc, .int .i64 (f : Int)] wz fun e w' => e = .returned (.tuple #[.string (strB vs), .int .i64 (g : Int), .bool p4]) ∧ wz = w') := Lib.hid fun wz h => by rw [← e4]; exact rgetText_any _ c f wz h
            have T1 := Lib.hid t1
            have T2 := Lib.hid t2
            have T3 := Lib.hid t3
            have T4 := Lib.hid t4
            have N1 := Lib.hid n1
            have N2 := Lib.hid n2
            have N3 := Lib.hid n3
            have N4 := Lib.hid n4
            clear e1 e2 e3 e4 t1 t2 t3 t4 n1 n2 n3 n4 hpE h64
            cases p1 with
            | false =>
              have HR := Lib.hid (HNO.out HPE.out (step_no1 (N1.out rfl)))
              go_wp2_with (first | (go_at_call 69; first | ((with_reducible refine (HG1.out _ HSUB.out).mono ?_); rintro e w9 ⟨rfl, rfl⟩) | ((with_reducible refine (HG3.out _ HSUB.out).mono ?_); rintro e w9 ⟨rfl, rfl⟩)) | (go_at_call 70; first | ((with_reducible refine (HG2.out _ HSUB.out).mono ?_); rintro e w9 ⟨rfl, rfl⟩) | ((with_reducible refine (HG4.out _ HSUB.out).mono ?_); rintro e w9 ⟨rfl, rfl⟩)))
              go_ret2
              exact RetGet.no HR.out HB.out
            | true =>
              obtain ⟨n1, lt1⟩ := T1.out rfl
              have M1 := Lib.hid n1
              clear n1 T1 N1
              cases p2 with
              | false =>
                have HR := Lib.hid (HNO.out HPE.out (step_no2 M1.out (N2.out rfl)))
                go_wp2_with (first | (go_at_call 69; first | ((with_reducible refine (HG1.out _ HSUB.out).mono ?_); rintro e w9 ⟨rfl, rfl⟩) | ((with_reducible refine (HG3.out _ HSUB.out).mono ?_); rintro e w9 ⟨rfl, rfl⟩)) | (go_at_call 70; first | ((with_reducible refine (HG2.out _ HSUB.out).mono ?_); rintro e w9 ⟨rfl, rfl⟩) | ((with_reducible refine (HG4.out _ HSUB.out).mono ?_); rintro e w9 ⟨rfl, rfl⟩)))
                go_ret2
                exact RetGet.no HR.out HB.out
              | true =>
                obtain ⟨n2, lt2⟩ := T2.out rfl
                have M2 := Lib.hid n2
                clear n2 T2 N2
                cases p3 with
                | false =>
                  have HR := Lib.hid (HNO.out HPE.out (step_no3 M1.out M2.out (N3.out rfl)))
                  go_wp2_with (first | (go_at_call 69; first | ((with_reducible refine (HG1.out _ HSUB.out).mono ?_); rintro e w9 ⟨rfl, rfl⟩) | ((with_reducible refine (HG3.out _ HSUB.out).mono ?_); rintro e w9 ⟨rfl, rfl⟩)) | (go_at_call 70; first | ((with_reducible refine (HG2.out _ HSUB.out).mono ?_); rintro e w9 ⟨rfl, rfl⟩) | ((with_reducible refine (HG4.out _ HSUB.out).mono ?_); rintro e w9 ⟨rfl, rfl⟩)))
                  go_ret2
                  exact RetGet.no HR.out HB.out
                | true =>
                  obtain ⟨n3, lt3⟩ := T3.out rfl
                  have M3 := Lib.hid n3
                  clear n3 T3 N3
                  cases p4 with
                  | false =>
                    have HR := Lib.hid (HNO.out HPE.out (step_no4 M1.out M2.out M3.out (N4.out rfl)))
                    go_wp2_with (first | (go_at_call 69; first | ((with_reducible refine (HG1.out _ HSUB.out).mono ?_); rintro e w9 ⟨rfl, rfl⟩) | ((with_reducible refine (HG3.out _ HSUB.out).mono ?_); rintro e w9 ⟨rfl, rfl⟩)) | (go_at_call 70; first | ((with_reducible refine (HG2.out _ HSUB.out).mono ?_); rintro e w9 ⟨rfl, rfl⟩) | ((with_reducible refine (HG4.out _ HSUB.out).mono ?_); rintro e w9 ⟨rfl, rfl⟩)))
                    go_ret2
                    exact RetGet.no HR.out HB.out
                  | true =>
                    obtain ⟨n4, lt4⟩ := T4.out rfl
                    have M4 := Lib.hid n4
                    clear n4 T4 N4
                    have HLL := Lib.hid (show L.size = (prevU acc acc.length).length by rw [HLS.out, strB_size])
                    have HST := Lib.hid (step_by (last := prevU acc acc.length) M1.out M2.out M3.out M4.out)
                    by_cases hs : L.size < s
                    · have k3 : decide ((L.size : Int) < (s : Int)) = true := by simp; omega
                      have HR := Lib.hid (HNO.out HPE.out (by rw [HST.out, if_pos (by rw [← HLL.out]; exact hs)]))
                      go_wp2_with (first | (go_at_call 69; first | ((with_reducible refine (HG1.out _ HSUB.out).mono ?_); rintro e w9 ⟨rfl, rfl⟩) | ((with_reducible refine (HG3.out _ HSUB.out).mono ?_); rintro e w9 ⟨rfl, rfl⟩)) | (go_at_call 70; first | ((with_reducible refine (HG2.out _ HSUB.out).mono ?_); rintro e w9 ⟨rfl, rfl⟩) | ((with_reducible refine (HG4.out _ HSUB.out).mono ?_); rintro e w9 ⟨rfl, rfl⟩)))
                      go_ret2
                      exact RetGet.no HR.out HB.out
                    · have k3 : decide ((L.size : Int) < (s : Int)) = false := by simp; omega
                      have HP2 := Lib.hid (HP.out.more (by rw [HCL.out]; exact HPE.out) (by rw [HST.out, if_neg (by rw [← HLL.out]; exact hs)]))
                      have HXE := Lib.hid (show ent_by L s x rs vs = ⟨strB ((prevU acc acc.length).take s ++ rs), ((x / 2 : Nat) : Int), ((1 + x % 2 : Nat) : Int), strB vs⟩ from ent_same HLS.out)
                      rw [← HXE.out] at HP2
                      have HFX := Lib.hid (ent_fits (L := L) (s := s) (x := x) (rs := rs) (vs := vs) (by omega) bx (by omega) (by omega))
                      have HLX := Lib.hid (ent_len (L := L) (s := s) (rs := rs))
                      go_wp2_with (first | (go_at_call 69; first | ((with_reducible refine (HG1.out _ HSUB.out).mono ?_); rintro e w9 ⟨rfl, rfl⟩) | ((with_reducible refine (HG3.out _ HSUB.out).mono ?_); rintro e w9 ⟨rfl, rfl⟩)) | (go_at_call 70; first | ((with_reducible refine (HG2.out _ HSUB.out).mono ?_); rintro e w9 ⟨rfl, rfl⟩) | ((with_reducible refine (HG4.out _ HSUB.out).mono ?_); rintro e w9 ⟨rfl, rfl⟩)) | (at_builtin; refine wpList_append_rd rfl (.tmp 127) (.tmp 137) 22 rfl w.heap.size 39 4 48 (.agg #[.string ⟨#[]⟩, .int .i64 0, .int .i64 0, .string ⟨#[]⟩]) Tryz.underlying22 info_ent rfl (by decide) (.slice la acc.length lc) (.slice (some ⟨wr.heap.size, 0, none⟩) 1 1) acc.length 1 (acc.flatMap Ent.cells) ([ent_by L s x rs vs].flatMap Ent.cells) rfl rfl (World.ownsRow.alloc HO.out _) (one_entry wr (ent_by L s x rs vs)) (entFlat_one _) ?bA ?l1 ?l2 ?kk))
                      case bA => exact Nat.le_trans HB.out.size (by simp)
                      case l1 => omega
                      case l2 => unfold maxLen; omega
                      case kk =>
                        intro v' w' hown' hb'
                        go_wp2
                        refine ⟨⟨acc ++ [ent_by L s x rs vs], g, _, by have := H64.out; simp; omega, by omega, rfl, rfl, ?_, Lib.hid ?_, HP2, Lib.hid ?_, Lib.hid ?_, Lib.hid (hb' _ _ (Nat.le_refl _) (HB.out.alloc HB.out.size _))⟩, by simp [intOf]; omega⟩
                        · have := HLX.out
                          simp only [List.length_append, List.length_cons, List.length_nil]
                          omega
                        · unfold OwnE
                          simpa using hown'
                        · rw [show (acc ++ [ent_by L s x rs vs]).length = acc.length + 1 by simp, prevU_snoc]
                          exact (strB_data _).symm
                        · intro e he
                          rcases List.mem_append.1 he with he | he
                          · exact HFI.out e he
                          · rw [List.mem_singleton.1 he]
                            exact HFX.out
          · have k2 : decide ((acc.length : Int) ≤ 64) = false := by simp; omega
            have HQ := Lib.hid (show ∀ es, IsBlk b es → es = acc from fun es he => by
              have h1 := (HP.out es (HBO.out es he)).1
              have h2 := (putErr_ok he.1).2.2
              omega)
            have HRD := Lib.hid (HO.out.read HFI.out)
            have HPB : Hid (Calls Tryz.prog 56 #[.slice la acc.length lc] wr (RetPut wr acc)) := Lib.hid (rputblk_any _ acc wr HRD.out)
            by_cases he0 : putErr acc = 0
            · have HPB0 : Hid (Calls Tryz.prog 56 #[.slice la acc.length lc] wr fun e w' => ∃ x, e = .returned (.tuple #[x, .int .i64 0]) ∧ OwnB w' wr.heap.size 5 x (blockL acc) ∧ Below wr.heap.size wr w') := Lib.hid (by have h := HPB.out; unfold RetPut at h; rw [he0, if_pos rfl] at h; exact h)
              by_cases hbq : blockL acc = b
              · have HIS := Lib.hid (show IsBlk b acc from ⟨he0, hbq⟩)
                rw [hbq] at HPB0
                clear hbq he0
                go_wp2_with (go_at_call 56; (refine HPB0.out.mono ?_); rintro e w9 ⟨x9, rfl, ho9, hb9⟩; have q1 := rdB_convert (P := Tryz.prog) ho9.read 24 5 9 Tryz.underlying24 Tryz.underlying5 Tryz.underlying9; have q2 := rdB_convert (P := Tryz.prog) (HV.out.below (HB.out.trans (hb9.mono HB.out.size)) (Nat.le_refl _)) 24 5 9 Tryz.underlying24 Tryz.underlying5 Tryz.underlying9)
                go_ret2
                exact RetGet.yes HIS.out (HO.out.below hb9) (HB.out.trans (hb9.mono HB.out.size))
              · have HR := Lib.hid (show getB b = none from getB_none fun es he => hbq (by rw [← HQ.out es he]; exact he.2))
                have hne1 : (blockL acc == b) = false := by
                  rw [beq_eq_false_iff_ne]
                  exact hbq
                clear hbq he0
                go_wp2_with (go_at_call 56; (refine HPB0.out.mono ?_); rintro e w9 ⟨x9, rfl, ho9, hb9⟩; have q1 := rdB_convert (P := Tryz.prog) ho9.read 24 5 9 Tryz.underlying24 Tryz.underlying5 Tryz.underlying9; have q2 := rdB_convert (P := Tryz.prog) (HV.out.below (HB.out.trans (hb9.mono HB.out.size)) (Nat.le_refl _)) 24 5 9 Tryz.underlying24 Tryz.underlying5 Tryz.underlying9)
                go_ret2
                exact RetGet.no HR.out (HB.out.trans (hb9.mono HB.out.size))
            · have HR := Lib.hid (show getB b = none from getB_none fun es he => he0 (by rw [← HQ.out es he]; exact he.1))
              obtain ⟨er, her⟩ : ∃ er, putErr acc = er := ⟨_, rfl⟩
              have HPB1 : Hid (Calls Tryz.prog 56 #[.slice la acc.length lc] wr fun e w' => ∃ x, e = .returned (.tuple #[x, .int .i64 er]) ∧ Below wr.heap.size wr w') := Lib.hid (by
                refine HPB.out.mono ?_
                rintro e w' ⟨x, rfl, _, h⟩
                exact ⟨x, by rw [her], h⟩)
              rw [her] at he0
              have her1 : (er == 0) = false := by simpa using he0
              have her2 : (er != 0) = true := by simpa using he0
              clear her
              go_wp2_with (go_at_call 56; (refine HPB1.out.mono ?_); rintro e w9 ⟨x9, rfl, hb9⟩)
              go_ret2
              exact RetGet.no HR.out (HB.out.trans (hb9.mono HB.out.size))
        · have k1 : decide ((p : Int) < (E : Int)) = false := by simp; omega
          have HQ := Lib.hid (show ∀ es, IsBlk b es → es = acc from fun es he => HP.out.end_ (by rw [HCL.out]; exact hpE) (HBO.out es he))
          have HRD := Lib.hid (HO.out.read HFI.out)
          have HPB : Hid (Calls Tryz.prog 56 #[.slice la acc.length lc] wr (RetPut wr acc)) := Lib.hid (rputblk_any _ acc wr HRD.out)
          by_cases he0 : putErr acc = 0
          · have HPB0 : Hid (Calls Tryz.prog 56 #[.slice la acc.length lc] wr fun e w' => ∃ x, e = .returned (.tuple #[x, .int .i64 0]) ∧ OwnB w' wr.heap.size 5 x (blockL acc) ∧ Below wr.heap.size wr w') := Lib.hid (by have h := HPB.out; unfold RetPut at h; rw [he0, if_pos rfl] at h; exact h)
            by_cases hbq : blockL acc = b
            · have HIS := Lib.hid (show IsBlk b acc from ⟨he0, hbq⟩)
              rw [hbq] at HPB0
              clear hbq he0
              go_wp2_with (go_at_call 56; (refine HPB0.out.mono ?_); rintro e w9 ⟨x9, rfl, ho9, hb9⟩; have q1 := rdB_convert (P := Tryz.prog) ho9.read 24 5 9 Tryz.underlying24 Tryz.underlying5 Tryz.underlying9; have q2 := rdB_convert (P := Tryz.prog) (HV.out.below (HB.out.trans (hb9.mono HB.out.size)) (Nat.le_refl _)) 24 5 9 Tryz.underlying24 Tryz.underlying5 Tryz.underlying9)
              go_ret2
              exact RetGet.yes HIS.out (HO.out.below hb9) (HB.out.trans (hb9.mono HB.out.size))
            · have HR := Lib.hid (show getB b = none from getB_none fun es he => hbq (by rw [← HQ.out es he]; exact he.2))
              have hne1 : (blockL acc == b) = false := by
                rw [beq_eq_false_iff_ne]
                exact hbq
              clear hbq he0
              go_wp2_with (go_at_call 56; (refine HPB0.out.mono ?_); rintro e w9 ⟨x9, rfl, ho9, hb9⟩; have q1 := rdB_convert (P := Tryz.prog) ho9.read 24 5 9 Tryz.underlying24 Tryz.underlying5 Tryz.underlying9; have q2 := rdB_convert (P := Tryz.prog) (HV.out.below (HB.out.trans (hb9.mono HB.out.size)) (Nat.le_refl _)) 24 5 9 Tryz.underlying24 Tryz.underlying5 Tryz.underlying9)
              go_ret2
              exact RetGet.no HR.out (HB.out.trans (hb9.mono HB.out.size))
          · have HR := Lib.hid (show getB b = none from getB_none fun es he => he0 (by rw [← HQ.out es he]; exact he.1))
            obtain ⟨er, her⟩ : ∃ er, putErr acc = er := ⟨_, rfl⟩
            have HPB1 : Hid (Calls Tryz.prog 56 #[.slice la acc.length lc] wr fun e w' => ∃ x, e = .returned (.tuple #[x, .int .i64 er]) ∧ Below wr.heap.size wr w') := Lib.hid (by
              refine HPB.out.mono ?_
              rintro e w' ⟨x, rfl, _, h⟩
              exact ⟨x, by rw [her], h⟩)
            rw [her] at he0
            have her1 : (er == 0) = false := by simpa using he0
            have her2 : (er != 0) = true := by simpa using he0
            clear her
            go_wp2_with (go_at_call 56; (refine HPB1.out.mono ?_); rintro e w9 ⟨x9, rfl, hb9⟩)
            go_ret2
            exact RetGet.no HR.out (HB.out.trans (hb9.mono HB.out.size))
end Go.Proofs.YteeikmpfgbfeoaaGreat
