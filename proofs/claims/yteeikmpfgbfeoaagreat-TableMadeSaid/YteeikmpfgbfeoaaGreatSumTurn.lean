/-
  Four bytes side by side that are turned by a number of 32 bits: what the statement SumTurned asks of lists of bytes.
-/
import Derived.Test.YteeikmpfgbfeoaaGreatSumBits
namespace Go.Proofs.YteeikmpfgbfeoaaGreat

/-- Behind 'i' rounds: the bytes from 'k' on are turned by the bytes of 'x', the lowest one first. -/
def turnL (l : List UInt8) (k x : Nat) : Nat → List UInt8
  | 0 => l
  | i + 1 => (turnL l k x i).set (k + i) ((turnL l k x i).getD (k + i) 0 ^^^ UInt8.ofNat (x / 256 ^ i % 256))

theorem turnL_length (l : List UInt8) (k x i : Nat) : (turnL l k x i).length = l.length := by
  induction i with
  | zero => rfl
  | succ i ih => rw [turnL, List.length_set, ih]

theorem four_of {l : List UInt8} {k : Nat} (h : k + 4 ≤ l.length) : ∃ (p r : List UInt8) (a b c d : UInt8), l = p ++ [a, b, c, d] ++ r ∧ p.length = k := by
  refine ⟨l.take k, l.drop (k + 4), l[k]'(by omega), l[k + 1]'(by omega), l[k + 2]'(by omega), l[k + 3]'(by omega), ?_, by rw [List.length_take]; omega⟩
  have e : l.drop k = l[k]'(by omega) :: l[k + 1]'(by omega) :: l[k + 2]'(by omega) :: l[k + 3]'(by omega) :: l.drop (k + 4) := by
    rw [List.drop_eq_getElem_cons (by omega), List.drop_eq_getElem_cons (by omega), List.drop_eq_getElem_cons (by omega), List.drop_eq_getElem_cons (by omega)]
  conv => lhs; rw [← List.take_append_drop k l, e]
  simp

theorem set_mid (p q : List UInt8) (a : UInt8) (k : Nat) (x : UInt8) (h : p.length = k) : (p ++ a :: q).set k x = p ++ x :: q := by
  subst h
  rw [List.set_append_right _ _ (Nat.le_refl _), Nat.sub_self]
  rfl
theorem get_mid (p q : List UInt8) (a : UInt8) (k : Nat) (h : p.length = k) : (p ++ a :: q).getD k 0 = a := by
  subst h
  simp [List.getD]

theorem turnL_four (p r : List UInt8) (a b c d : UInt8) (x : Nat) :
    turnL (p ++ [a, b, c, d] ++ r) p.length x 4 = p ++ [a ^^^ UInt8.ofNat (x % 256), b ^^^ UInt8.ofNat (x / 256 % 256), c ^^^ UInt8.ofNat (x / 65536 % 256), d ^^^ UInt8.ofNat (x / 16777216 % 256)] ++ r := by
  have e0 : p ++ [a, b, c, d] ++ r = p ++ a :: (b :: c :: d :: r) := by simp
  rw [e0]
  have t1 : turnL (p ++ a :: (b :: c :: d :: r)) p.length x 1 = (p ++ [a ^^^ UInt8.ofNat (x % 256)]) ++ b :: (c :: d :: r) := by
    rw [turnL, turnL, Nat.add_zero, get_mid _ _ _ _ rfl, set_mid _ _ _ _ _ rfl]
    simp
  have t2 : turnL (p ++ a :: (b :: c :: d :: r)) p.length x 2 = (p ++ [a ^^^ UInt8.ofNat (x % 256), b ^^^ UInt8.ofNat (x / 256 % 256)]) ++ c :: (d :: r) := by
    rw [turnL, t1, get_mid _ _ _ _ (by simp), set_mid _ _ _ _ _ (by simp)]
    simp
  have t3 : turnL (p ++ a :: (b :: c :: d :: r)) p.length x 3 = (p ++ [a ^^^ UInt8.ofNat (x % 256), b ^^^ UInt8.ofNat (x / 256 % 256), c ^^^ UInt8.ofNat (x / 65536 % 256)]) ++ d :: r := by
    rw [turnL, t2, get_mid _ _ _ _ (by simp), set_mid _ _ _ _ _ (by simp)]
    simp
  rw [turnL, t3, get_mid _ _ _ _ (by simp), set_mid _ _ _ _ _ (by simp)]
  simp

theorem xor_same {a x : UInt8} (h : a ^^^ x = a) : x.toNat = 0 := by
  have h1 := congrArg UInt8.toNat h
  rw [UInt8.toNat_xor] at h1
  have h2 : a.toNat ^^^ (a.toNat ^^^ x.toNat) = a.toNat ^^^ a.toNat := by rw [h1]
  rw [← Nat.xor_assoc, Nat.xor_self, Nat.zero_xor] at h2
  exact h2

/-- Turned by what is not nought they have another sum. -/
theorem sumL_turnL (l : List UInt8) (k x : Nat) (h : k + 4 ≤ l.length) (hx : x < 2 ^ 32) (h0 : x ≠ 0) : sumL (turnL l k x 4) ≠ sumL l := by
  obtain ⟨p, r, a, b, c, d, rfl, rfl⟩ := four_of h
  rw [turnL_four]
  refine sumL_turned p _ _ r rfl (by simp) ?_
  intro e
  simp only [List.cons.injEq, and_true] at e
  obtain ⟨e1, e2, e3, e4⟩ := e
  have f : ∀ n : Nat, (UInt8.ofNat (n % 256)).toNat = n % 256 := by
    intro n
    rw [UInt8.toNat_ofNat']
    exact Nat.mod_eq_of_lt (by omega)
  have q1 := xor_same e1
  have q2 := xor_same e2
  have q3 := xor_same e3
  have q4 := xor_same e4
  rw [f] at q1 q2 q3 q4
  omega
end Go.Proofs.YteeikmpfgbfeoaaGreat
