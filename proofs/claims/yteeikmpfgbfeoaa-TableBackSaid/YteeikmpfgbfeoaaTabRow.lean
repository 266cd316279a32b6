/-
  Tables: what the last frame says of a block: a last key, a place, a length; such rows in memory.
-/
import Derived.Test.YteeikmpfgbfeoaaOwnEnt
import Derived.Test.YteeikmpfgbfeoaaMoves
namespace Go.Proofs.Yteeikmpfgbfeoaa
open Go.RowKit

/-- What the last frame says of a block. -/
structure Rw where
  u : ByteArray
  s : Int
  k : Int
  at_ : Int
  n : Int
def Rw.none_ : Rw := ⟨⟨#[]⟩, 0, 0, 0, 0⟩
def Rw.cells (r : Rw) : List Value := [.string r.u, .int .i64 r.s, .int .i64 r.k, .int .i64 r.at_, .int .i64 r.n]
abbrev rwV (r : Rw) : Value := .agg #[.string r.u, .int .i64 r.s, .int .i64 r.k, .int .i64 r.at_, .int .i64 r.n]

theorem info_rw : (Try.prog.info? 67).map (fun i => (i.zero, i.size, i.bytes)) = some (some (.agg #[.string ⟨#[]⟩, .int .i64 0, .int .i64 0, .int .i64 0, .int .i64 0]), 5, 48) := by kernel_rfl

theorem rwFlat_length : ∀ rs : List Rw, (rs.flatMap Rw.cells).length = rs.length * 5
  | [] => rfl
  | r :: rs => by
    rw [List.flatMap_cons, List.length_append, rwFlat_length rs, List.length_cons]
    simp only [Rw.cells, List.length_cons, List.length_nil]
    omega
theorem rwFlat_at : ∀ (rs : List Rw) (i t : Nat), i < rs.length → t < 5 → (rs.flatMap Rw.cells)[i * 5 + t]? = (rs.getD i Rw.none_).cells[t]?
  | [], i, t, h, _ => by simp at h
  | r :: rs, 0, t, _, ht => by
    rw [List.flatMap_cons, Nat.zero_mul, Nat.zero_add, List.getElem?_append_left (by simp [Rw.cells]; omega)]
    rfl
  | r :: rs, i + 1, t, h, ht => by
    rw [List.flatMap_cons, List.getElem?_append_right (by simp [Rw.cells]; omega)]
    have : (i + 1) * 5 + t - r.cells.length = i * 5 + t := by simp [Rw.cells]; omega
    rw [this, rwFlat_at rs i t (by simpa using h) ht]
    simp [List.getD]
theorem rwFlat_one (l : List Rw) : ∀ u ∈ l.flatMap Rw.cells, u.oneCell' = true := by
  intro u hu
  obtain ⟨o, _, ho⟩ := List.mem_flatMap.1 hu
  simp only [Rw.cells, List.mem_cons, List.not_mem_nil, or_false] at ho
  rcases ho with rfl | rfl | rfl | rfl | rfl <;> rfl

/-- The slice 'v' of rows lies in memory of the call's own, from block 'B' on. -/
def OwnR (w : World) (B : Nat) (v : Value) (rs : List Rw) : Prop := w.ownsRow B 67 5 v rs.length (rs.flatMap Rw.cells)
/-- The slice 'v' reads as the rows. -/
def RdR (w : World) (v : Value) (rs : List Rw) : Prop := Rd w 5 v rs.length (rs.flatMap Rw.cells)
theorem OwnR.read {w : World} {B : Nat} {v : Value} {rs : List Rw} (h : OwnR w B v rs) : RdR w v rs := rd_of_own h
theorem OwnR.below {w w' : World} {B : Nat} {v : Value} {rs : List Rw} (h : OwnR w B v rs) (hb : Below w.heap.size w w') : OwnR w' B v rs := by
  refine own_base (B := 0) (own_kept (own_base h (B' := 0) fun _ _ => Nat.zero_le _) (R := fun k => k < w.heap.size) (Kept.of hb fun _ h => h) fun k hk => (World.ownsRow.lt h k hk).2) fun k hk => (World.ownsRow.lt h k hk).1
theorem OwnR.form {w : World} {B : Nat} {v : Value} {rs : List Rw} (h : OwnR w B v rs) : ∃ a cap, v = .slice a rs.length cap ∧ rs.length ≤ cap ∧ cap ≤ maxLen := by
  obtain ⟨a, cap, rfl, h1, h2, _⟩ := rd_of_own h
  exact ⟨a, cap, rfl, h1, h2⟩
theorem RdR.below {w w' : World} {v : Value} {rs : List Rw} (h : RdR w v rs) {B : Nat} (hb : Below B w w') (hB : w.heap.size ≤ B) : RdR w' v rs := Rd.below h hb hB
theorem RdR.form {w : World} {v : Value} {rs : List Rw} (h : RdR w v rs) : ∃ a cap, v = .slice a rs.length cap ∧ rs.length ≤ cap ∧ cap ≤ maxLen := by
  obtain ⟨a, cap, rfl, h1, h2, _⟩ := h
  exact ⟨a, cap, rfl, h1, h2⟩
theorem own_monoR {w : World} {B B' : Nat} {v : Value} {rs : List Rw} (h : OwnR w B v rs) (hB : B' ≤ B) : OwnR w B' v rs := own_base h fun k hk => Nat.le_trans hB (World.ownsRow.lt h k hk).1
theorem RdR.one {w : World} {v : Value} {l : List Rw} (h : RdR w v l) : ∃ a c, v = .slice a l.length c ∧ ∀ i, i < l.length → ∃ b off, a = some ⟨b, off, none⟩ ∧ b < w.heap.size ∧ w.cell? ⟨b, off + i * 5, none⟩ = some (.string (l.getD i Rw.none_).u) ∧ w.cell? ⟨b, off + i * 5 + 1, none⟩ = some (.int .i64 (l.getD i Rw.none_).s) ∧
      w.cell? ⟨b, off + i * 5 + 2, none⟩ = some (.int .i64 (l.getD i Rw.none_).k) ∧ w.cell? ⟨b, off + i * 5 + 3, none⟩ = some (.int .i64 (l.getD i Rw.none_).at_) ∧ w.cell? ⟨b, off + i * 5 + 4, none⟩ = some (.int .i64 (l.getD i Rw.none_).n) := by
  obtain ⟨a, cap, rfl, h1, h2, h0, h3 | ⟨b, off, rfl, h4, h5⟩⟩ := h
  · exact ⟨a, cap, rfl, fun i hi => by omega⟩
  · refine ⟨_, cap, rfl, fun i hi => ⟨b, off, rfl, h4, ?_, ?_, ?_, ?_, ?_⟩⟩
    · exact h5 (i * 5) _ (rwFlat_at l i 0 hi (by omega))
    · rw [Nat.add_assoc]; exact h5 (i * 5 + 1) _ (rwFlat_at l i 1 hi (by omega))
    · rw [Nat.add_assoc]; exact h5 (i * 5 + 2) _ (rwFlat_at l i 2 hi (by omega))
    · rw [Nat.add_assoc]; exact h5 (i * 5 + 3) _ (rwFlat_at l i 3 hi (by omega))
    · rw [Nat.add_assoc]; exact h5 (i * 5 + 4) _ (rwFlat_at l i 4 hi (by omega))
/-- One row, laid by itself. -/
theorem one_rw (w : World) (r : Rw) : Rd (w.alloc (.cells #[.string r.u, .int .i64 r.s, .int .i64 r.k, .int .i64 r.at_, .int .i64 r.n] 67)) 5 (.slice (some ⟨w.heap.size, 0, none⟩) 1 1) 1 ([r].flatMap Rw.cells) := by
  refine ⟨_, 1, rfl, Nat.le_refl _, by unfold maxLen; omega, rfl, .inr ⟨w.heap.size, 0, rfl, by simp, fun j u hj => ?_⟩⟩
  rw [Nat.zero_add, cell_of_row _ w.heap.size j _ 67 (0, 0) (heap_alloc_new w _)]
  simpa [Rw.cells] using hj

theorem set5 {w w1 w2 w3 w4 w5 : World} {q t : Nat} {c0 c1 c2 c3 c4 v0 v1 v2 v3 v4 : Value} (h : w.heap[q]? = some (.cells #[c0, c1, c2, c3, c4] t (0, 0))) (h1 : w1 = w.setCell ⟨q, 0, none⟩ v0) (h2 : w2 = w1.setCell ⟨q, 1, none⟩ v1) (h3 : w3 = w2.setCell ⟨q, 2, none⟩ v2) (h4 : w4 = w3.setCell ⟨q, 3, none⟩ v3) (h5 : w5 = w4.setCell ⟨q, 4, none⟩ v4) :
    w5.heap[q]? = some (.cells #[v0, v1, v2, v3, v4] t (0, 0)) ∧ ∀ B, B ≤ q → ∀ a : World, Below B a w → Below B a w5 := by
  have r1 : w1.heap[q]? = some (.cells #[v0, c1, c2, c3, c4] t (0, 0)) := by rw [h1, blk_set h]; rfl
  have r2 : w2.heap[q]? = some (.cells #[v0, v1, c2, c3, c4] t (0, 0)) := by rw [h2, blk_set r1]; rfl
  have r3 : w3.heap[q]? = some (.cells #[v0, v1, v2, c3, c4] t (0, 0)) := by rw [h3, blk_set r2]; rfl
  have r4 : w4.heap[q]? = some (.cells #[v0, v1, v2, v3, c4] t (0, 0)) := by rw [h4, blk_set r3]; rfl
  have r5 : w5.heap[q]? = some (.cells #[v0, v1, v2, v3, v4] t (0, 0)) := by rw [h5, blk_set r4]; rfl
  refine ⟨r5, fun B hB a hb => ?_⟩
  have k0 := Kept.of hb (R := fun k => k < B) fun _ h => h
  have k1 : Kept (fun k => k < B) a w1 := by rw [h1]; exact k0.setCell (by show ¬ q < B; omega) _
  have k2 : Kept (fun k => k < B) a w2 := by rw [h2]; exact k1.setCell (by show ¬ q < B; omega) _
  have k3 : Kept (fun k => k < B) a w3 := by rw [h3]; exact k2.setCell (by show ¬ q < B; omega) _
  have k4 : Kept (fun k => k < B) a w4 := by rw [h4]; exact k3.setCell (by show ¬ q < B; omega) _
  have k5 : Kept (fun k => k < B) a w5 := by rw [h5]; exact k4.setCell (by show ¬ q < B; omega) _
  exact Kept.below k5 fun _ h => h

set_option maxRecDepth 100000 in
set_option maxHeartbeats 400000 in
/-- rowOf: the row of a block. -/
theorem rowOf_any (v : Value) (es : List Ent) (at_ n : Int) (w : World) (hv : RdE w v es) (hne : es ≠ []) :
    Calls Try.prog 25 #[v, .int .i64 at_, .int .i64 n] w fun e w' => e = .returned (rwV ⟨(es.getD (es.length - 1) Ent.none_).u, (es.getD (es.length - 1) Ent.none_).s, (es.getD (es.length - 1) Ent.none_).k, at_, n⟩) ∧ Below w.heap.size w w' := by
  have hp := List.length_pos_iff.2 hne
  obtain ⟨va, vc, rfl, hc1, hc2⟩ := hv.form
  unfold maxLen at hc2
  obtain ⟨_, _, hva, hone⟩ := hv.one
  cases hva
  obtain ⟨b, off, rfl, hbw, z0, z1, z2, _, _⟩ := hone (es.length - 1) (by omega)
  obtain ⟨m, hm⟩ : ∃ m, es.length = m + 1 := ⟨es.length - 1, by omega⟩
  rw [hm] at hc1 z0 z1 z2 ⊢
  rw [Nat.add_sub_cancel] at z0 z1 z2 ⊢
  generalize es.getD m Ent.none_ = X at *
  obtain ⟨xu, xs, xk, xv⟩ := X
  simp only at z0 z1 z2 ⊢
  have e1 : IntKind.i64.wrap (((m + 1 : Nat) : Int) - 1) = (m : Int) := by rw [IntWalk.i64_in _ (by omega)]; omega
  have e2 : ((m + 1 : Nat) : Int) - 1 = (m : Int) := by omega
  clear hone hm hv hp hne
  go_enter Try.func25, Try.ntmps25
  go_wp2
  refine bodyPost_ret (results_cell_row rfl _ _ w.heap.size 67 #[.string xu, .int .i64 xs, .int .i64 xk, .int .i64 at_, .int .i64 n] (0, 0) _ rfl (heap_alloc_new w _) Try.underlying67 rfl (by kernel_rfl)) rfl ?_
  exact ⟨rfl, (Below.refl _ _).alloc (Nat.le_refl _) _⟩
end Go.Proofs.Yteeikmpfgbfeoaa
