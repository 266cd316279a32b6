/-
  Three rows of bytes put one over another, byte by byte into a row of noughts: plain facts on lists; the least of three numbers.
-/
import Derived.Test.YtgcnmaboabjfhaaByteXor
import Derived.Laws.Cover1
namespace Go.Proofs.Ytgcnmaboabjfhaa
open Go.RowKit

/-- Behind 'm' rounds of 'n'. -/
def mixL (a b c : List UInt8) (n m : Nat) : List UInt8 := zip3 (a.take m) (b.take m) (c.take m) ++ List.replicate (n - m) 0

theorem zip3_length : ∀ (a b c : List UInt8), a.length = b.length → b.length = c.length → (zip3 a b c).length = a.length
  | [], [], [], _, _ => rfl
  | x :: a, y :: b, z :: c, h1, h2 => by
    have := zip3_length a b c (by simpa using h1) (by simpa using h2)
    simp [zip3, this]

theorem zip3_snoc : ∀ (a b c : List UInt8) (x y z : UInt8), a.length = b.length → b.length = c.length → zip3 (a ++ [x]) (b ++ [y]) (c ++ [z]) = zip3 a b c ++ [x ^^^ y ^^^ z]
  | [], [], [], _, _, _, _, _ => rfl
  | p :: a, q :: b, r :: c, x, y, z, h1, h2 => by
    have := zip3_snoc a b c x y z (by simpa using h1) (by simpa using h2)
    simp [zip3, this]

theorem mixL_zero (a b c : List UInt8) (n : Nat) : mixL a b c n 0 = List.replicate n 0 := by simp [mixL, zip3]

theorem mixL_length (a b c : List UInt8) (n m : Nat) (ha : n ≤ a.length) (hb : n ≤ b.length) (hc : n ≤ c.length) (hm : m ≤ n) : (mixL a b c n m).length = n := by
  unfold mixL
  rw [List.length_append, zip3_length _ _ _ (by simp; omega) (by simp; omega), List.length_replicate, List.length_take]
  omega

theorem mixL_step (a b c : List UInt8) (n m : Nat) (ha : n ≤ a.length) (hb : n ≤ b.length) (hc : n ≤ c.length) (hm : m < n) :
    (mixL a b c n m).set m (a.getD m 0 ^^^ b.getD m 0 ^^^ c.getD m 0) = mixL a b c n (m + 1) := by
  unfold mixL
  rw [take_snoc' a m (by omega), take_snoc' b m (by omega), take_snoc' c m (by omega), zip3_snoc _ _ _ _ _ _ (by simp; omega) (by simp; omega)]
  rw [show n - m = (n - (m + 1)) + 1 by omega, List.replicate_succ, set_mid _ _ _ _ _ (by rw [zip3_length _ _ _ (by simp; omega) (by simp; omega), List.length_take]; omega)]
  simp

theorem mixL_end (a b c : List UInt8) (n : Nat) : mixL a b c n n = zip3 (a.take n) (b.take n) (c.take n) := by simp [mixL]

theorem min_three {P : Program} (ts : Array TypeId) (t : TypeId) (x y z n : Nat) (hn : n = min x (min y z)) (w : World) :
    (Builtin.min_ ts t #[.int .i64 (x : Int), .int .i64 (y : Int), .int .i64 (z : Int)]).run P w = .ok (.int .i64 (n : Int)) w := by
  rw [run_min_int3]
  congr 2
  subst hn
  split <;> split <;> omega

/-- What lies below the bound stays. -/
theorem held {B : Nat} {w w' : World} {b o : Nat} {v : Value} (h : Below B w.drew w') (hb : b < B) (hc : w.cell? ⟨b, o, none⟩ = some v) : w'.cell? ⟨b, o, none⟩ = some v :=
  (h.cell (p := ⟨b, o, none⟩) hb).trans hc

theorem drew_set (w : World) (p : Addr) (v : Value) : (w.setCell p v).drew = w.drew.setCell p v := by go_simp

theorem below_set {B m : Nat} {w : World} {v : Value} : Below B w.drew (w.setCell ⟨B, m, none⟩ v).drew := by
  rw [drew_set]
  exact (Below.refl _ _).setCell (p := ⟨B, m, none⟩) (Nat.le_refl _) v

theorem bv_xor3 (a b c : UInt8) : bv (a ^^^ b ^^^ c) = .int .u8 ((a.toNat ^^^ b.toNat ^^^ c.toNat : Nat) : Int) := by
  show Value.int .u8 _ = _
  rw [UInt8.toNat_xor, UInt8.toNat_xor]
end Go.Proofs.Ytgcnmaboabjfhaa
