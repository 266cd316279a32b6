/-
  Entries in a row of the call's own that is put in order: worlds that a compare leaves, two entries that change places.
-/
import Derived.Test.YtnmmeaoapfampaaSeekStab
import Derived.Test.YtnmmeaoapfampaaOwnEnt
import Derived.Test.YtnmmeaoapfampaaKeyCmp
import Derived.Test.YtnmmeaoapfampaaSetCells
import Derived.Test.YtnmmeaoapfampaaShift
import Derived.Shelf.SlSortCmp.KitK
namespace Go.Proofs.Ytnmmeaoapfampaa
open Go.RowKit

/-- The row, from block 'B' on, holds the entries 'l'; what lay below is as it was. -/
structure SL (B : Nat) (w0 : World) (a : Option Addr) (cap n : Nat) (l : List Ent) (W : World) : Prop where
  len : l.length = n
  below : Below B w0 W
  le : B ≤ W.heap.size
  own : OwnE W B (.slice a n cap) l
  fits : ∀ e ∈ l, e.fits
section
variable {B g : Nat} {w0 W : World} {a : Option Addr} {cap n : Nat} {l : List Ent}
theorem SL.then (h : SL B w0 a cap n l W) {W' : World} (hb : Below W.heap.size W W') : SL B w0 a cap n l W' :=
  ⟨h.len, h.below.trans (hb.mono h.le), Nat.le_trans h.le hb.size, OwnE.below h.own hb, h.fits⟩
theorem SL.shift (h : SL B w0 a cap n l W) (m : Nat) (os : Array Obj) : SL B w0 a cap n l (shiftW W m os) := h.then (shift_below W m os)
theorem SL.drew (h : SL B w0 a cap n l W) : SL B w0 a cap n l W.drew := h.then (Below.refl _ _).drew
/-- Where it lies. -/
theorem SL.at_ (h : SL B w0 a cap n l W) {i : Nat} (hi : i < n) : ∃ g, a = some ⟨g, 0, none⟩ ∧ B ≤ g ∧ ∃ cur, W.heap[g]? = some (.cells cur 38 (0, 0)) ∧ cur.size = cap * 4 ∧ n ≤ cap ∧ cur.toList.take (n * 4) = l.flatMap Ent.cells := by
  rcases h.own.2 with ⟨h1, h2⟩ | ⟨g, cap', cur, hv, hb, hg, hn, hm, hs, ht⟩
  · rw [h.len] at h2
    omega
  · cases hv
    exact ⟨g, rfl, hb, cur, hg, hs, hn, by rw [← ht]⟩
theorem SL.cells (h : SL B w0 (some ⟨g, 0, none⟩) cap n l W) {i : Nat} (hi : i < n) : W.cell? ⟨g, i * 4, none⟩ = some (.string (l.getD i Ent.none_).u) ∧ W.cell? ⟨g, i * 4 + 1, none⟩ = some (.int .i64 (l.getD i Ent.none_).s) ∧ W.cell? ⟨g, i * 4 + 2, none⟩ = some (.int .i64 (l.getD i Ent.none_).k) ∧ W.cell? ⟨g, i * 4 + 3, none⟩ = some (.string (l.getD i Ent.none_).v) := by
  have ho := own_monoE h.own (Nat.zero_le B)
  rw [← h.len] at ho
  obtain ⟨g', he, _, c⟩ := own_ent ho (k := i) (by rw [h.len]; exact hi)
  cases he
  exact c
theorem SL.free (h : SL B w0 (some ⟨g, 0, none⟩) cap n l W) (o : Nat) {i : Nat} (hi : i < n) : W.frozen? ⟨g, o, none⟩ = false := by
  obtain ⟨g', he, _, cur, hg, _⟩ := h.at_ hi
  cases he
  exact blk_free hg
theorem SL.load (h : SL B w0 (some ⟨g, 0, none⟩) cap n l W) {i : Nat} (hi : i < n) (P : Program) : Sem.run P (loadCellsFrom ⟨g, i * 4, none⟩ 0 4 #[]) W = .ok (l.getD i Ent.none_).cells.toArray W := by
  obtain ⟨c0, c1, c2, c3⟩ := h.cells hi
  refine run_loadCellsFrom_list P _ _ _ 4 rfl fun c v hv => ?_
  have hc : c < 4 := (List.getElem?_eq_some_iff.1 hv).1
  obtain rfl | rfl | rfl | rfl : c = 0 ∨ c = 1 ∨ c = 2 ∨ c = 3 := by omega
  · cases hv; exact c0
  · cases hv; exact c1
  · cases hv; exact c2
  · cases hv; exact c3
theorem SL.fit (h : SL B w0 a cap n l W) {i : Nat} (hi : i < n) : (l.getD i Ent.none_).fits := fits_at h.fits i (by rw [h.len]; exact hi)
/-- Two entries change places. -/
def swpE (l : List Ent) (i j : Nat) : List Ent := (l.set i (l.getD j Ent.none_)).set j (l.getD i Ent.none_)
theorem swp_len (l : List Ent) (i j : Nat) : (swpE l i j).length = l.length := by unfold swpE; simp
theorem swp_parts {P M Q : List Ent} {x y : Ent} {i j : Nat} (hi : i = P.length) (hj : j = P.length + 1 + M.length) : swpE (P ++ x :: (M ++ y :: Q)) i j = P ++ y :: (M ++ x :: Q) := by
  have e1 : (P ++ x :: (M ++ y :: Q)).getD i Ent.none_ = x := getD_at hi
  have e2 : (P ++ x :: (M ++ y :: Q)).getD j Ent.none_ = y := by
    have : P ++ x :: (M ++ y :: Q) = (P ++ x :: M) ++ y :: Q := by simp
    rw [this]
    exact getD_at (by simp; omega)
  unfold swpE
  rw [e1, e2, hi, List.set_append_right _ _ (Nat.le_refl _), Nat.sub_self, List.set_cons_zero, hj, List.set_append_right _ _ (by omega), show P.length + 1 + M.length - P.length = M.length + 1 by omega, List.set_cons_succ, List.set_append_right _ _ (Nat.le_refl _), Nat.sub_self, List.set_cons_zero]
theorem swp_comm (l : List Ent) {i j : Nat} : swpE l i j = swpE l j i := by
  unfold swpE
  by_cases h : i = j
  · subst h; rfl
  · rw [List.set_comm _ _ h]
theorem flat_set {l : List Ent} {i : Nat} {e : Ent} (hi : i < l.length) {j : Nat} (hj : j < l.length * 4) :
    ((l.set i e).flatMap Ent.cells)[j]? = if i * 4 ≤ j ∧ j < i * 4 + 4 then e.cells[j - i * 4]? else (l.flatMap Ent.cells)[j]? := by
  obtain ⟨q, r, hr, rfl⟩ : ∃ q r, r < 4 ∧ j = q * 4 + r := ⟨j / 4, j % 4, Nat.mod_lt _ (by decide), by omega⟩
  rw [flat_at _ q r (by rw [List.length_set]; omega) hr, flat_at l q r (by omega) hr]
  by_cases hq : q = i
  · subst hq
    rw [if_pos (by omega), Nat.add_sub_cancel_left]
    simp [List.getD, hi]
  · rw [if_neg (by omega)]
    simp [List.getD, List.getElem?_set_ne (Ne.symm hq)]
theorem own_set {W : World} {B g cap : Nat} {l : List Ent} (h : OwnE W B (.slice (some ⟨g, 0, none⟩) l.length cap) l) {i : Nat} (hi : i < l.length) (e : Ent) :
    OwnE (W.setCells g (i * 4) e.cells) B (.slice (some ⟨g, 0, none⟩) l.length cap) (l.set i e) ∧ Below B W (W.setCells g (i * 4) e.cells) := by
  rcases h.2 with ⟨h1, h2⟩ | ⟨g', cap', cur, hv, hb, hg, hn, hm, hs, ht⟩
  · cases h1
  · cases hv
    obtain ⟨cur', k1, k2, k3⟩ := setCells_row e.cells (i * 4) W cur hg
    refine ⟨⟨by rw [flat_length], .inr ⟨g, cap, cur', by rw [List.length_set], hb, k1, by rw [List.length_set]; exact hn, hm, by rw [k2, hs], ?_⟩⟩, Kept.below (kept_setCells (R := fun k => k < B) (by omega) _ _ _ (Kept.refl _ _)) fun _ h => h⟩
    rw [List.length_set]
    refine List.ext_getElem? fun j => ?_
    by_cases hj : j < l.length * 4
    · have hjc : j < cur.size := by rw [hs]; have := Nat.mul_le_mul_right 4 hn; omega
      rw [List.getElem?_take_of_lt hj, Array.getElem?_toList, k3 j hjc, flat_set hi hj]
      have h4 : e.cells.length = 4 := rfl
      rw [h4]
      by_cases hc : i * 4 ≤ j ∧ j < i * 4 + 4
      · rw [if_pos hc, if_pos hc]
      · rw [if_neg hc, if_neg hc, ← ht, List.getElem?_take_of_lt hj, Array.getElem?_toList]
    · rw [List.getElem?_take_eq_none (by omega), List.getElem?_eq_none (by rw [flat_length, List.length_set]; omega)]
theorem SL.set_ (h : SL B w0 (some ⟨g, 0, none⟩) cap n l W) {i : Nat} (hi : i < n) {e : Ent} (he : e.fits) : SL B w0 (some ⟨g, 0, none⟩) cap n (l.set i e) (W.setCells g (i * 4) e.cells) := by
  have ho := h.own
  rw [← h.len] at ho
  obtain ⟨h1, h2⟩ := own_set ho (by rw [h.len]; exact hi) e
  rw [h.len] at h1
  refine ⟨by rw [List.length_set]; exact h.len, h.below.trans h2, Nat.le_trans h.le h2.size, h1, fun x hx => ?_⟩
  rcases List.mem_or_eq_of_mem_set hx with h3 | rfl
  · exact h.fits x h3
  · exact he
theorem SL.set4 (h : SL B w0 (some ⟨g, 0, none⟩) cap n l W) {i : Nat} (hi : i < n) {e : Ent} (he : e.fits) : SL B w0 (some ⟨g, 0, none⟩) cap n (l.set i e) ((((W.setCell ⟨g, i * 4, none⟩ (.string e.u)).setCell ⟨g, i * 4 + 1, none⟩ (.int .i64 e.s)).setCell ⟨g, i * 4 + 2, none⟩ (.int .i64 e.k)).setCell ⟨g, i * 4 + 3, none⟩ (.string e.v)) := h.set_ hi he
theorem SL.swap (h : SL B w0 (some ⟨g, 0, none⟩) cap n l W) {i j : Nat} (hi : i < n) (hj : j < n) {x y : Ent} (hx : l.getD i Ent.none_ = x) (hy : l.getD j Ent.none_ = y) : SL B w0 (some ⟨g, 0, none⟩) cap n (swpE l i j)
    (((((((((W.setCell ⟨g, i * 4, none⟩ (.string y.u)).setCell ⟨g, i * 4 + 1, none⟩ (.int .i64 y.s)).setCell ⟨g, i * 4 + 2, none⟩ (.int .i64 y.k)).setCell ⟨g, i * 4 + 3, none⟩ (.string y.v)).setCell
      ⟨g, j * 4, none⟩ (.string x.u)).setCell ⟨g, j * 4 + 1, none⟩ (.int .i64 x.s)).setCell ⟨g, j * 4 + 2, none⟩ (.int .i64 x.k)).setCell ⟨g, j * 4 + 3, none⟩ (.string x.v)).drew) := by
  have h1 := h.fit hi
  have h2 := h.fit hj
  unfold swpE
  rw [hx] at h1 ⊢
  rw [hy] at h2 ⊢
  exact ((h.set4 hi h2).set4 hj h1).drew
end
end Go.Proofs.Ytnmmeaoapfampaa
