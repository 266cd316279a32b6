/-
  The arithmetic of numbers as bytes: plain facts on lists of bytes and numbers; nothing of the program.
-/
import Derived.WalkKit
namespace Go.Proofs.Ytmlijnekidihbaa

/-- The 'k'-th byte of 'n'. -/
def fixB (n : Int) (k : Nat) : UInt8 := UInt8.ofNat (n / 256 ^ k % 256).toNat

/-- The 'k' lowest bytes of 'n', the highest one first. -/
def fixL (n : Int) : Nat → List UInt8
  | 0 => []
  | k + 1 => fixB n k :: fixL n k

theorem fixL_length (n : Int) (k : Nat) : (fixL n k).length = k := by
  induction k with
  | zero => rfl
  | succ k ih => simp [fixL, ih]

/-- The number that bytes tell, the highest one first. -/
def valL (l : List UInt8) : Nat := l.foldl (fun a c => a * 256 + c.toNat) 0

theorem valL_snoc (l : List UInt8) (c : UInt8) : valL (l ++ [c]) = valL l * 256 + c.toNat := by simp [valL]

theorem valL_lt (l : List UInt8) : valL l < 256 ^ l.length := by
  suffices h : ∀ (r : List UInt8), valL r.reverse < 256 ^ r.length by simpa using h l.reverse
  intro r
  induction r with
  | nil => simp [valL]
  | cons c r ih =>
    rw [List.reverse_cons, valL_snoc, List.length_cons, Nat.pow_succ]
    have := c.toNat_lt
    omega

theorem byte_of (n : Int) : ((UInt8.ofNat (n % 256).toNat).toNat : Int) = n % 256 := by
  have h : (n % 256).toNat < 256 := by omega
  rw [UInt8.toNat_ofNat', Nat.mod_eq_of_lt h]
  omega

theorem wrap_byte (n : Int) : IntKind.u8.wrap n = ((UInt8.ofNat (n % 256).toNat).toNat : Int) := by rw [byte_of, IntKind.wrap_u8]

theorem ofInt_i64 (a : Nat) (ha : a < 18446744073709551616) : (BitVec.ofInt 64 (a : Int)).toNat = a := by
  rw [BitVec.ofInt_natCast, BitVec.toNat_ofNat]; exact Nat.mod_eq_of_lt (by omega)

theorem or_i64 (a b : Nat) (ha : a ≤ 9223372036854775807) (hb : b ≤ 9223372036854775807) : bits .or .i64 (a : Int) (b : Int) = ((a ||| b : Nat) : Int) := by
  have hx : a ||| b < 2 ^ 63 := Nat.or_lt_two_pow (by omega) (by omega)
  show IntKind.i64.wrap ((BitVec.ofInt 64 (a : Int) ||| BitVec.ofInt 64 (b : Int)).toNat : Int) = _
  rw [BitVec.toNat_or, ofInt_i64 a (by omega), ofInt_i64 b (by omega)]
  exact IntWalk.i64_in _ (by omega)

theorem fix_byte (n : Int) (j : Nat) : n / 2 ^ (8 * j) % 256 = ((fixB n j).toNat : Int) := by
  rw [fixB, byte_of, Int.pow_mul]
  rfl

theorem or_shift8 (a c : Nat) (hc : c < 256) : a * 256 ||| c = a * 256 + c := nat_join 8 _ _ (by omega) hc

theorem take_snoc' (l : List UInt8) (k : Nat) (h : k < l.length) : l.take (k + 1) = l.take k ++ [l.getD k 0] := by
  rw [List.take_succ_eq_append_getElem h]; simp [List.getD, h]

/-- One byte more is told. -/
theorem valL_step (l : List UInt8) (k : Nat) (h : k < l.length) (hk : k ≤ 6) :
    bits .or .i64 ((valL (l.take k) : Int) * 256) (((l.getD k 0).toNat : Nat) : Int) = (valL (l.take (k + 1)) : Int) := by
  have h1 := valL_lt (l.take k)
  have h2 : (256 : Nat) ^ (l.take k).length ≤ 256 ^ 6 := Nat.pow_le_pow_right (by omega) (by rw [List.length_take]; omega)
  have h3 := (l.getD k 0).toNat_lt
  have e : ((valL (l.take k) : Int) * 256) = ((valL (l.take k) * 256 : Nat) : Int) := by simp
  rw [e, or_i64 _ _ (by omega) (by omega), or_shift8 _ _ (by omega), take_snoc' l k h, valL_snoc]

theorem valL_le (l : List UInt8) (k : Nat) (hk : k ≤ 6) : (valL (l.take k) : Int) ≤ 281474976710655 := by
  have h1 := valL_lt (l.take k)
  have h2 : (256 : Nat) ^ (l.take k).length ≤ 256 ^ 6 := Nat.pow_le_pow_right (by omega) (by rw [List.length_take]; omega)
  omega

/-- The byte that has more behind it. -/
def moreB (n : Nat) : UInt8 := UInt8.ofNat (n % 128 + 128)

theorem valL_fixL_aux (m : Nat) : ∀ (k : Nat) (a : Nat), (fixL (m : Int) k).foldl (fun a c => a * 256 + c.toNat) a = a * 256 ^ k + m % 256 ^ k := by
  intro k
  induction k with
  | zero => intro a; simp [fixL, Nat.mod_one]
  | succ k ih =>
    intro a
    rw [fixL, List.foldl_cons, ih]
    have hb : ((fixB (m : Int) k).toNat : Int) = ((m / 256 ^ k % 256 : Nat) : Int) := by
      rw [fixB, byte_of]
      simp
    have hb' : (fixB (m : Int) k).toNat = m / 256 ^ k % 256 := by exact_mod_cast hb
    rw [hb', Nat.pow_succ, Nat.mod_mul, Nat.add_mul, Nat.mul_assoc, Nat.mul_comm 256 (256 ^ k), Nat.mul_comm (m / 256 ^ k % 256) (256 ^ k)]
    omega

theorem valL_fixL (m k : Nat) (h : m < 256 ^ k) : valL (fixL (m : Int) k) = m := by
  unfold valL
  rw [valL_fixL_aux, Nat.mod_eq_of_lt h]
  simp

/-- The first byte is the highest one. -/
theorem fixL_head (m k : Nat) (hk : 1 ≤ k) (h : m < 256 ^ k) : (((fixL (m : Int) k).getD 0 0).toNat : Int) = (m : Int) / 2 ^ (8 * ((k : Int) - 1)).toNat := by
  obtain ⟨j, rfl⟩ : ∃ j, k = j + 1 := ⟨k - 1, by omega⟩
  have e : (8 * (((j + 1 : Nat) : Int) - 1)).toNat = 8 * j := by omega
  rw [e, fixL, List.getD_cons_zero, ← fix_byte]
  have h2 : (2 : Int) ^ (8 * j) = ((256 ^ j : Nat) : Int) := by rw [Int.pow_mul]; simp
  rw [h2]
  have h3 : m / 256 ^ j < 256 := by
    rw [Nat.pow_succ, Nat.mul_comm] at h
    exact Nat.div_lt_of_lt_mul (by rw [Nat.mul_comm]; exact h)
  have h4 : (m : Int) / ((256 ^ j : Nat) : Int) = ((m / 256 ^ j : Nat) : Int) := by simp
  rw [h4]
  generalize m / 256 ^ j = q at h3
  omega

/-- The statement's own numbers: how many bytes, and what goes into them. -/
theorem fixed_arg (a0 a1 : Int) (b0 : 0 ≤ a0 ∧ a0 ≤ 18446744073709551615) (_b1 : 0 ≤ a1 ∧ a1 ≤ 255) :
    ∃ m k : Nat, 1 ≤ k ∧ k ≤ 7 ∧ 1 + a1 % 7 = (k : Int) ∧ RowKit.wrap64 (a0 / 2 ^ (64 - 8 * (1 + a1 % 7)).toNat) = (m : Int) ∧ m < 256 ^ k ∧ (m : Int) ≤ 72057594037927935 := by
  have hr : a1 % 7 = 0 ∨ a1 % 7 = 1 ∨ a1 % 7 = 2 ∨ a1 % 7 = 3 ∨ a1 % 7 = 4 ∨ a1 % 7 = 5 ∨ a1 % 7 = 6 := by omega
  rcases hr with h | h | h | h | h | h | h <;> rw [h]
  · refine ⟨(a0 / 2 ^ 56).toNat, 1, by omega, by omega, rfl, ?_, by omega, by omega⟩
    rw [show ((64 : Int) - 8 * (1 + 0)).toNat = 56 from rfl, IntWalk.wrap64_in _ (by omega)]; omega
  · refine ⟨(a0 / 2 ^ 48).toNat, 2, by omega, by omega, rfl, ?_, by omega, by omega⟩
    rw [show ((64 : Int) - 8 * (1 + 1)).toNat = 48 from rfl, IntWalk.wrap64_in _ (by omega)]; omega
  · refine ⟨(a0 / 2 ^ 40).toNat, 3, by omega, by omega, rfl, ?_, by omega, by omega⟩
    rw [show ((64 : Int) - 8 * (1 + 2)).toNat = 40 from rfl, IntWalk.wrap64_in _ (by omega)]; omega
  · refine ⟨(a0 / 2 ^ 32).toNat, 4, by omega, by omega, rfl, ?_, by omega, by omega⟩
    rw [show ((64 : Int) - 8 * (1 + 3)).toNat = 32 from rfl, IntWalk.wrap64_in _ (by omega)]; omega
  · refine ⟨(a0 / 2 ^ 24).toNat, 5, by omega, by omega, rfl, ?_, by omega, by omega⟩
    rw [show ((64 : Int) - 8 * (1 + 4)).toNat = 24 from rfl, IntWalk.wrap64_in _ (by omega)]; omega
  · refine ⟨(a0 / 2 ^ 16).toNat, 6, by omega, by omega, rfl, ?_, by omega, by omega⟩
    rw [show ((64 : Int) - 8 * (1 + 5)).toNat = 16 from rfl, IntWalk.wrap64_in _ (by omega)]; omega
  · refine ⟨(a0 / 2 ^ 8).toNat, 7, by omega, by omega, rfl, ?_, by omega, by omega⟩
    rw [show ((64 : Int) - 8 * (1 + 6)).toNat = 8 from rfl, IntWalk.wrap64_in _ (by omega)]; omega

/-- A number by seven bits a byte, the lowest ones first. -/
def putL (n : Nat) : List UInt8 := if h : n < 128 then [UInt8.ofNat n] else moreB n :: putL (n / 128)
termination_by n
decreasing_by omega

theorem putL_lt (n : Nat) (h : n < 128) : putL n = [UInt8.ofNat n] := by rw [putL, dif_pos h]
theorem putL_ge (n : Nat) (h : 128 ≤ n) : putL n = moreB n :: putL (n / 128) := by rw [putL, dif_neg (by omega)]

theorem putL_length_le (k : Nat) : ∀ n, n < 128 ^ (k + 1) → (putL n).length ≤ k + 1 := by
  induction k with
  | zero => intro n h; rw [putL_lt n (by omega)]; simp
  | succ k ih =>
    intro n h
    by_cases hn : n < 128
    · rw [putL_lt n hn]; simp
    · rw [putL_ge n (by omega), List.length_cons]
      have := ih (n / 128) (by rw [Nat.pow_succ] at h; omega)
      omega

theorem putL_length (n : Nat) (h : n ≤ 9223372036854775807) : (putL n).length ≤ 9 := putL_length_le 8 n (by omega)

theorem putL_ne (n : Nat) : putL n ≠ [] := by rw [putL]; split <;> simp

/-- The bytes of any number: none below 0. -/
def putI (n : Int) : List UInt8 := if n < 0 then [] else putL n.toNat

theorem putI_nat (n : Nat) : putI (n : Int) = putL n := by
  unfold putI; rw [if_neg (by omega)]; simp

theorem ofNat_toNat (n : Nat) (h : n < 256) : ((UInt8.ofNat n).toNat : Int) = n := by
  rw [UInt8.toNat_ofNat', Nat.mod_eq_of_lt h]

/-- The byte that has more behind it, as the program makes it. -/
theorem more_byte (n : Nat) : bits .or .u8 ((n : Int) % 256) 128 = ((moreB n).toNat : Int) := by
  have e : ((n : Int) % 256) = ((n % 256 : Nat) : Int) := by omega
  unfold moreB
  rw [ofNat_toNat _ (by omega), e]
  have h := u8_or_nat (n % 256) 128 (by omega) (by omega)
  rw [show ((128 : Nat) : Int) = (128 : Int) from rfl] at h
  rw [h]
  have hm : n % 256 = n % 128 + (n % 256 / 128) * 128 := by omega
  have hor : n % 256 ||| 128 = n % 128 + 128 := by
    rcases (by omega : n % 256 / 128 = 0 ∨ n % 256 / 128 = 1) with h0 | h0
    · have : n % 256 = n % 128 := by omega
      rw [this, Nat.or_comm]
      have := nat_join 7 128 (n % 128) (by omega) (by omega)
      omega
    · have h1 : n % 256 = 128 + n % 128 := by omega
      have h2 := nat_join 7 128 (n % 128) (by omega) (by omega)
      rw [h1, ← h2, Nat.or_comm, ← Nat.or_assoc, Nat.or_self]
      omega
  rw [hor]
end Go.Proofs.Ytmlijnekidihbaa
