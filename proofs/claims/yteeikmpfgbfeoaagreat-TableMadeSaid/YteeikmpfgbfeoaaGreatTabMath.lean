/-
  Tables: plain facts: the bytes of blocks and what they tell.
-/
import Derived.Test.YteeikmpfgbfeoaaGreatFrameMath
import Derived.Test.YteeikmpfgbfeoaaGreatBlkGet
import Derived.Test.YteeikmpfgbfeoaaGreatMemBuild
namespace Go.Proofs.YteeikmpfgbfeoaaGreat
open Go.RowKit

theorem up_of_rising {es : List Ent} (h : risingB es = true) : Up es := by
  have key : ∀ d j, j + d + 1 < es.length → (es.getD j Ent.none_).cmp (es.getD (j + d + 1) Ent.none_) < 0 := by
    intro d
    induction d with
    | zero =>
      intro j hj
      unfold risingB at h
      rw [List.all_eq_true] at h
      have := h (j + 1) (List.mem_range.2 hj)
      unfold goodAt at this
      rw [Bool.and_eq_true] at this
      have h2 := this.2
      simpa using h2
    | succ d ih =>
      intro j hj
      have h1 := ih j (by omega)
      have h2 : (es.getD (j + d + 1) Ent.none_).cmp (es.getD (j + d + 1 + 1) Ent.none_) < 0 := by
        unfold risingB at h
        rw [List.all_eq_true] at h
        have := h (j + d + 1 + 1) (List.mem_range.2 (by omega))
        unfold goodAt at this
        rw [Bool.and_eq_true] at this
        have h2 := this.2
        simpa using h2
      exact cmp_trans h1 h2
  unfold Up
  rw [List.pairwise_iff_getElem]
  intro i j hi hj hij
  have := key (j - i - 1) i (by omega)
  rw [show i + (j - i - 1) + 1 = j by omega] at this
  rw [show es.getD i Ent.none_ = es[i] by simp [List.getD, hi], show es.getD j Ent.none_ = es[j] by simp [List.getD, hj]] at this
  exact this

/-- The k-th block's entries. -/
def partE (es : List Ent) (per k : Nat) : List Ent := (es.drop (k * per)).take per
/-- How many blocks there are. -/
def nBlk (es : List Ent) (per : Nat) : Nat := (es.length + per - 1) / per
theorem nBlk_lt {es : List Ent} {per : Nat} (hp : 1 ≤ per) (k : Nat) : k < nBlk es per ↔ k * per < es.length := by
  unfold nBlk
  rw [Nat.lt_iff_add_one_le, Nat.le_div_iff_mul_le (by omega), Nat.succ_mul]
  omega
theorem part_take (es : List Ent) (per k : Nat) : es.take ((k + 1) * per) = es.take (k * per) ++ partE es per k := by
  unfold partE
  rw [Nat.succ_mul, List.take_add]
theorem part_sub (es : List Ent) (per k : Nat) : (partE es per k).Sublist es := (List.take_sublist _ _).trans (List.drop_sublist _ _)
theorem part_len {es : List Ent} {per k : Nat} : (partE es per k).length = min per (es.length - k * per) := by
  unfold partE
  rw [List.length_take, List.length_drop]
theorem part_err {es : List Ent} {per k : Nat} (h : risingB es = true) (h1 : 1 ≤ per) (h2 : per ≤ 64) (hk : k * per < es.length) : putErr (partE es per k) = 0 := by
  have hl := part_len (es := es) (per := per) (k := k)
  have hm := rising_all h
  have hr : risingB (partE es per k) = true := rising_up ((up_of_rising h).sublist (part_sub es per k)) fun x hx => hm x ((part_sub es per k).subset hx)
  unfold putErr
  rw [if_neg, if_neg (by omega)]
  rw [hr]
  rintro (h | h)
  · cases h
  · rw [h] at hl
    simp at hl
    omega

/-- A block among records. -/
def blkF (es : List Ent) (per k : Nat) : List UInt8 := frRaw (blockL (partE es per k))
/-- The first k blocks. -/
def tabB (es : List Ent) (per : Nat) : Nat → List UInt8
  | 0 => []
  | k + 1 => tabB es per k ++ blkF es per k
theorem tabB_more (es : List Ent) (per k : Nat) : ∀ j, ∃ r, tabB es per (k + j) = tabB es per k ++ r
  | 0 => ⟨[], by simp⟩
  | j + 1 => by
    obtain ⟨r, h⟩ := tabB_more es per k j
    refine ⟨r ++ blkF es per (k + j), ?_⟩
    rw [← Nat.add_assoc]
    show tabB es per (k + j) ++ _ = _
    rw [h, List.append_assoc]
theorem tabB_split (es : List Ent) (per : Nat) {k n : Nat} (h : k ≤ n) : ∃ r, tabB es per n = tabB es per k ++ r := by
  obtain ⟨j, rfl⟩ : ∃ j, n = k + j := ⟨n - k, by omega⟩
  exact tabB_more es per k j
theorem tabB_lt (es : List Ent) (per : Nat) {k n : Nat} (h : k < n) : (tabB es per k).length < (tabB es per n).length := by
  obtain ⟨r, hr⟩ := tabB_split es per (k := k + 1) (n := n) h
  rw [hr]
  show (tabB es per k).length < ((tabB es per k ++ blkF es per k) ++ r).length
  unfold blkF
  simp only [List.length_append, frRaw_length]
  omega

/-- A key as bytes. -/
def keyB (e : Ent) : List UInt8 := putT (uL e) ++ putL (numE e)
/-- What is told of the first k blocks. -/
def idxB (es : List Ent) (per : Nat) : Nat → List UInt8
  | 0 => []
  | k + 1 => idxB es per k ++ keyB ((partE es per k).getD ((partE es per k).length - 1) Ent.none_) ++ putL (tabB es per k).length ++ putL (blkF es per k).length
/-- The bytes of a table with any filter. -/
def tableL (es : List Ent) (per : Nat) (f : List UInt8) : List UInt8 :=
  tabB es per (nBlk es per) ++ frRaw f ++ frRaw (idxB es per (nBlk es per)) ++ fixL (((tabB es per (nBlk es per)).length : Nat) : Int) 4 ++ fixL ((((tabB es per (nBlk es per)).length + (f.length + 8)) : Nat) : Int) 4 ++ fixL ((es.length : Nat) : Int) 4 ++ [105, 99, 98, 49]
def MayT (es : List Ent) : Prop := risingB es = true ∧ es ≠ [] ∧ es.length ≤ 256
/-- The bytes are that table. -/
def IsTab (b : List UInt8) (es : List Ent) (f : List UInt8) : Prop := ∃ per, 1 ≤ per ∧ per ≤ 64 ∧ MayT es ∧ f.length ≤ 1048576 ∧ tableL es per f = b

theorem part_same {es : List Ent} {per : Nat} (h : es.length ≤ per) : partE es per 0 = es := by
  unfold partE
  rw [Nat.zero_mul, List.drop_zero, List.take_of_length_le h]
theorem nBlk_one {es : List Ent} {per : Nat} (h : es.length ≤ per) (hne : es ≠ []) : nBlk es per = 1 := by
  have hpos := List.length_pos_iff.2 hne
  unfold nBlk
  rw [Nat.div_eq_of_lt_le] <;> omega
/-- A block of more than there are is a block of all. -/
theorem table_min {es : List Ent} {per : Nat} (f : List UInt8) (hne : es ≠ []) : tableL es (min per es.length) f = tableL es per f := by
  rcases Nat.le_total per es.length with h | h
  · rw [Nat.min_eq_left h]
  · rw [Nat.min_eq_right h]
    have e1 : nBlk es es.length = 1 := nBlk_one (Nat.le_refl _) hne
    have e2 : nBlk es per = 1 := nBlk_one h hne
    have p1 : partE es es.length 0 = partE es per 0 := by rw [part_same (Nat.le_refl _), part_same h]
    unfold tableL
    rw [e1, e2]
    have t : tabB es es.length 1 = tabB es per 1 := by
      show tabB es es.length 0 ++ blkF es es.length 0 = tabB es per 0 ++ blkF es per 0
      unfold blkF
      rw [p1]
      rfl
    have x : idxB es es.length 1 = idxB es per 1 := by
      show idxB es es.length 0 ++ keyB _ ++ putL _ ++ putL (blkF es es.length 0).length = idxB es per 0 ++ keyB _ ++ putL _ ++ putL (blkF es per 0).length
      unfold blkF
      rw [p1]
      rfl
    rw [t, x]
end Go.Proofs.YteeikmpfgbfeoaaGreat
