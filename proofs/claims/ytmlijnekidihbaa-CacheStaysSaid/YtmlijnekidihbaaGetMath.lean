/-
  What is read of bytes as a number: plain facts on lists of bytes.
-/
import Derived.Test.YtmlijnekidihbaaNumMath
namespace Go.Proofs.Ytmlijnekidihbaa

/-- Reads on from the 'i'-th byte of a number, 'acc' so far: the number, and how many bytes it took. -/
def getGo : Nat → Nat → List UInt8 → Option (Nat × Nat)
  | _, _, [] => none
  | i, acc, c :: r =>
    if i = 9 then none
    else if 128 ≤ c.toNat then getGo (i + 1) (acc + (c.toNat - 128) * 128 ^ i) r
    else if c.toNat = 0 ∧ 0 < i then none
    else some (acc + c.toNat * 128 ^ i, i + 1)

def getL (l : List UInt8) : Option (Nat × Nat) := getGo 0 0 l

theorem drop_cons (l : List UInt8) (n : Nat) (h : n < l.length) : l.drop n = l.getD n 0 :: l.drop (n + 1) := by
  rw [List.drop_eq_getElem_cons h]; simp [List.getD, h]

theorem pow_succ128 (i m : Nat) : 128 ^ (i + 1) * m = 128 ^ i * (128 * m) := by rw [Nat.pow_succ, Nat.mul_assoc]

theorem getGo_put (r : List UInt8) : ∀ (k n i acc : Nat), (putL n).length ≤ k → i ≤ 9 → n < 128 ^ (9 - i) → (i = 0 ∨ 0 < n) → getGo i acc (putL n ++ r) = some (acc + n * 128 ^ i, i + (putL n).length) := by
  intro k
  induction k with
  | zero => intro n i acc h; have := putL_ne n; simp at h; exact absurd h this
  | succ k ih =>
    intro n i acc hk hi hn h0
    have hi9 : i ≠ 9 := by
      intro h; subst h; simp at hn; omega
    by_cases h : n < 128
    · have hc : (UInt8.ofNat n).toNat = n := by have := ofNat_toNat n (by omega); omega
      rw [putL_lt n h]
      simp only [List.cons_append, List.nil_append, getGo, if_neg hi9, hc, List.length_singleton]
      rw [if_neg (by omega), if_neg (by omega)]
    · have hc : (moreB n).toNat = n % 128 + 128 := by have := ofNat_toNat (n % 128 + 128) (by omega); unfold moreB; omega
      rw [putL_ge n (by omega)] at hk ⊢
      simp only [List.cons_append, getGo, if_neg hi9, hc, List.length_cons] at hk ⊢
      obtain ⟨j, hj⟩ : ∃ j, 9 - i = j + 1 := ⟨8 - i, by omega⟩
      rw [hj, Nat.pow_succ] at hn
      rw [if_pos (by omega), ih (n / 128) (i + 1) _ (by omega) (by omega) (by rw [show 9 - (i + 1) = j from by omega]; omega) (by omega)]
      have e : n * 128 ^ i = n % 128 * 128 ^ i + n / 128 * 128 ^ (i + 1) := by
        rw [Nat.pow_succ, Nat.mul_comm (128 ^ i) 128, ← Nat.mul_assoc, ← Nat.add_mul]
        congr 1
        omega
      rw [e, show n % 128 + 128 - 128 = n % 128 from by omega]
      simp only [Option.some.injEq, Prod.mk.injEq]
      exact ⟨by omega, by omega⟩

theorem getGo_some : ∀ (l : List UInt8) (i acc n k : Nat), i ≤ 9 → getGo i acc l = some (n, k) →
    ∃ m, n = acc + m * 128 ^ i ∧ m < 128 ^ (9 - i) ∧ (i = 0 ∨ 0 < m) ∧ k = i + (putL m).length ∧ l = putL m ++ l.drop (putL m).length := by
  intro l
  induction l with
  | nil => intro i acc n k _ h; simp [getGo] at h
  | cons c r ih =>
    intro i acc n k hi h
    have hc := c.toNat_lt
    simp only [getGo] at h
    by_cases h9 : i = 9
    · rw [if_pos h9] at h; cases h
    rw [if_neg h9] at h
    obtain ⟨j, hj⟩ : ∃ j, 9 - i = j + 1 := ⟨8 - i, by omega⟩
    have hpos : 1 ≤ 128 ^ j := Nat.pow_pos (by omega)
    by_cases h128 : 128 ≤ c.toNat
    · rw [if_pos h128] at h
      obtain ⟨m, rfl, hm, hm0, rfl, hr⟩ := ih (i + 1) _ n k (by omega) h
      rw [show 9 - (i + 1) = j from by omega] at hm
      have e1 : (c.toNat - 128 + 128 * m) % 128 = c.toNat - 128 := by omega
      have e2 : (c.toNat - 128 + 128 * m) / 128 = m := by omega
      have hput : putL (c.toNat - 128 + 128 * m) = c :: putL m := by
        rw [putL_ge _ (by omega), e2, moreB, e1, show c.toNat - 128 + 128 = c.toNat from by omega]
        simp
      refine ⟨c.toNat - 128 + 128 * m, ?_, by rw [hj, Nat.pow_succ]; omega, by omega, by rw [hput, List.length_cons]; omega, ?_⟩
      · rw [Nat.add_mul, Nat.pow_succ]
        have : m * (128 ^ i * 128) = 128 * m * 128 ^ i := by rw [Nat.mul_comm (128 ^ i) 128, ← Nat.mul_assoc, Nat.mul_comm m 128]
        omega
      · rw [hput, List.length_cons, List.drop_succ_cons, List.cons_append, ← hr]
    · rw [if_neg h128] at h
      by_cases h0 : c.toNat = 0 ∧ 0 < i
      · rw [if_pos h0] at h; cases h
      rw [if_neg h0] at h
      simp only [Option.some.injEq, Prod.mk.injEq] at h
      obtain ⟨rfl, rfl⟩ := h
      have hput : putL c.toNat = [c] := by rw [putL_lt _ (by omega)]; simp
      refine ⟨c.toNat, rfl, by rw [hj, Nat.pow_succ]; omega, by omega, by rw [hput]; rfl, by rw [hput]; rfl⟩

/-- One byte more of a number, as the program puts it to the others. -/
theorem or_acc (acc c k : Nat) (x : Int) (hx : x = (c : Int)) (h : acc < 128 ^ k) (hk : k ≤ 8) (hc : c < 128) :
    bits .or .i64 (acc : Int) (RowKit.wrap64 (x * 2 ^ (7 * k))) = ((acc + c * 128 ^ k : Nat) : Int) := by
  subst hx
  have e : (2 : Int) ^ (7 * k) = ((128 ^ k : Nat) : Int) := by rw [Int.pow_mul]; simp
  have hp : 128 ^ k ≤ 128 ^ 8 := Nat.pow_le_pow_right (by omega) hk
  have hle : c * 128 ^ k ≤ 127 * 128 ^ 8 := Nat.mul_le_mul (by omega) hp
  have e2 : (c : Int) * ((128 ^ k : Nat) : Int) = ((c * 128 ^ k : Nat) : Int) := by simp
  rw [e, e2, IntWalk.wrap64_in _ (by omega), or_i64 acc _ (by omega) (by omega), Nat.or_comm]
  have hj := nat_join (7 * k) (c * 128 ^ k) acc (by rw [Nat.pow_mul]; exact Nat.mul_mod_left _ _) (by rw [Nat.pow_mul]; exact h)
  rw [hj, Nat.add_comm]

theorem acc_lt (acc c k : Nat) (h : acc < 128 ^ k) (hc : c < 128) : acc + c * 128 ^ k < 128 ^ (k + 1) := by
  have : c * 128 ^ k ≤ 127 * 128 ^ k := Nat.mul_le_mul_right _ (by omega)
  rw [Nat.pow_succ]
  omega

/-- A number is read again, whatever stands behind it. -/
theorem getL_put (n : Nat) (h : (n : Int) ≤ 9223372036854775807) (r : List UInt8) : getL (putL n ++ r) = some (n, (putL n).length) := by
  have := getGo_put r (putL n).length n 0 0 (Nat.le_refl _) (by omega) (by omega) (.inl rfl)
  simpa [getL] using this

/-- What is read is told by just those bytes. -/
theorem getL_some {l : List UInt8} {n k : Nat} (h : getL l = some (n, k)) : (n : Int) ≤ 9223372036854775807 ∧ k = (putL n).length ∧ l = putL n ++ l.drop k ∧ 1 ≤ k ∧ k ≤ l.length := by
  obtain ⟨m, rfl, h1, _, rfl, h2⟩ := getGo_some l 0 0 n k (by omega) h
  have h3 := congrArg List.length h2
  have h4 := putL_ne m
  have h5 : 1 ≤ (putL m).length := by
    cases hp : putL m with
    | nil => exact absurd hp h4
    | cons _ _ => simp
  simp only [List.length_append, List.length_drop] at h3
  rw [show 0 + m * 128 ^ 0 = m from by simp, Nat.zero_add]
  exact ⟨by omega, rfl, h2, h5, by omega⟩

/-- Cut by a byte it is none. -/
theorem getL_cut (n : Nat) (h : (n : Int) ≤ 9223372036854775807) : getL ((putL n).dropLast) = none := by
  cases hg : getL ((putL n).dropLast) with
  | none => rfl
  | some x =>
    obtain ⟨m, k⟩ := x
    obtain ⟨hm, hk, hl, _, hle⟩ := getL_some hg
    have h1 := getL_put n h []
    have hsplit : putL n = putL m ++ ((putL n).dropLast.drop k ++ [(putL n).getLast (putL_ne n)]) := by
      rw [← List.append_assoc, ← hl, List.dropLast_concat_getLast]
    rw [List.append_nil, hsplit, getL_put m hm] at h1
    simp only [Option.some.injEq, Prod.mk.injEq] at h1
    have := h1.2
    simp only [List.length_append, List.length_singleton] at this
    omega
end Go.Proofs.Ytmlijnekidihbaa
