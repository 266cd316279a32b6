/-
  How long numbers are as bytes; numbers side by side: plain facts.
-/
import Derived.Test.YtemlonbcdaboeaaGetMath
namespace Go.Proofs.Ytemlonbcdaboeaa

/-- How many bytes more a number takes whose rest this is. -/
def plen (y : Nat) : Nat := if y = 0 then 0 else (putL y).length

theorem putL_length_plen (k : Nat) : (putL k).length = 1 + plen (k / 128) := by
  unfold plen
  by_cases h : k < 128
  · rw [putL_lt k h, if_pos (by omega)]; rfl
  · rw [putL_ge k (by omega), if_neg (by omega), List.length_cons]; omega

theorem plen_zero : plen 0 = 0 := rfl
theorem plen_pos (y : Nat) (h : 0 < y) : plen y = 1 + plen (y / 128) := by
  rw [← putL_length_plen, plen, if_neg (by omega)]

/-- Numbers side by side. -/
def catL (ms : List Nat) : List UInt8 := (ms.map putL).flatten

theorem catL_append (a b : List Nat) : catL (a ++ b) = catL a ++ catL b := by simp [catL]
theorem catL_cons (m : Nat) (b : List Nat) : catL (m :: b) = putL m ++ catL b := rfl
theorem catL_snoc (ms : List Nat) (m : Nat) : catL (ms ++ [m]) = catL ms ++ putL m := by simp [catL]

theorem catL_take (ms : List Nat) (i : Nat) (h : i < ms.length) : catL (ms.take (i + 1)) = catL (ms.take i) ++ putL (ms.getD i 0) := by
  rw [List.take_succ_eq_append_getElem h, catL_snoc]; simp [List.getD, h]

theorem catL_length (ms : List Nat) (h : ∀ m ∈ ms, (m : Int) ≤ 9223372036854775807) : (catL ms).length ≤ 9 * ms.length := by
  induction ms with
  | nil => simp [catL]
  | cons m ms ih =>
    have h1 := putL_length m (by have := h m (List.mem_cons_self ..); omega)
    have h2 := ih fun x hx => h x (List.mem_cons_of_mem _ hx)
    simp only [catL, List.map_cons, List.flatten_cons, List.length_append, List.length_cons] at *
    omega

/-- At the place behind the numbers ahead the next one is read. -/
theorem getL_cat (ms : List Nat) (h : ∀ m ∈ ms, (m : Int) ≤ 9223372036854775807) (i : Nat) (hi : i < ms.length) :
    (catL (ms.take i)).length < (catL ms).length ∧ getL ((catL ms).drop (catL (ms.take i)).length) = some (ms.getD i 0, (putL (ms.getD i 0)).length) := by
  have e : catL ms = catL (ms.take i) ++ (putL (ms.getD i 0) ++ catL (ms.drop (i + 1))) := by
    have e1 := catL_append (ms.take i) (ms.drop i)
    rw [List.take_append_drop, List.drop_eq_getElem_cons hi, catL_cons] at e1
    rw [e1, show ms.getD i 0 = ms[i] from by simp [List.getD, hi]]
  have hm : (ms.getD i 0 : Int) ≤ 9223372036854775807 := h _ (by simp [List.getD, hi])
  have h0 := putL_ne (ms.getD i 0)
  have h1 : 1 ≤ (putL (ms.getD i 0)).length := by
    cases hp : putL (ms.getD i 0) with
    | nil => exact absurd hp h0
    | cons _ _ => simp
  constructor
  · rw [e, List.length_append, List.length_append]; omega
  · rw [e, List.drop_left]; exact getL_put _ hm _

/-- The numbers of the statement. -/
def longK (z : Int) (i : Nat) : Nat := (z / 2 ^ (1 + i % 60)).toNat

theorem longK_le (z : Int) (i : Nat) (h : 0 ≤ z ∧ z ≤ 18446744073709551615) : (longK z i : Int) ≤ 9223372036854775807 ∧ RowKit.wrap64 (z / 2 ^ (1 + i % 60)) = (longK z i : Int) := by
  have e : z / 2 ^ (1 + i % 60) = z / 2 / 2 ^ (i % 60) := by
    rw [Int.pow_add, Int.pow_one, Int.ediv_ediv_of_nonneg (by omega)]
  have h1 : (1 : Int) ≤ 2 ^ (i % 60) := by
    have : (0 : Int) < 2 ^ (i % 60) := Int.pow_pos (by omega)
    omega
  have h2 : z / 2 / 2 ^ (i % 60) ≤ z / 2 := Int.ediv_le_self _ (by omega)
  have h3 : 0 ≤ z / 2 / 2 ^ (i % 60) := Int.ediv_nonneg (by omega) (by omega)
  unfold longK
  rw [e]
  exact ⟨by omega, by rw [IntWalk.wrap64_in _ (by omega)]; omega⟩

def longs (zs : List Int) : List Nat := (List.range zs.length).map fun i => longK (zs.getD i 0) i

theorem longs_length (zs : List Int) : (longs zs).length = zs.length := by simp [longs]
theorem longs_get (zs : List Int) (i : Nat) (h : i < zs.length) : (longs zs).getD i 0 = longK (zs.getD i 0) i := by simp [longs, List.getD, h]
theorem longs_le (zs : List Int) (h : ∀ n ∈ zs, 0 ≤ n ∧ n ≤ 18446744073709551615) : ∀ m ∈ longs zs, (m : Int) ≤ 9223372036854775807 := by
  intro m hm
  simp only [longs, List.mem_map, List.mem_range] at hm
  obtain ⟨i, hi, rfl⟩ := hm
  exact (longK_le _ _ (h _ (by simp [List.getD, hi]))).1
end Go.Proofs.Ytemlonbcdaboeaa
