import Derived.Test.YtfeogoihkpclcaaMg07

/-
  A change that is counted (what 'count' of a disk does).
-/
namespace Go.Proofs.Ytfeogoihkpclcaa
open Go.RowKit

set_option maxRecDepth 100000 in
set_option maxHeartbeats 4000000 in
set_option linter.unusedSimpArgs false in
theorem count_up (w : World) (p : Nat) (c0 c4 c5 c6 c7 c8 : Value) (crash : Int) (calls : Nat) (done : Bool) (k : Nat) (fst caps : Array Value) (h : w.heap[p]? = some (.cells #[c0, .int .i64 crash, .bool done, .int .i64 (calls : Int), c4, c5, c6, c7, c8] 51 (0, 0))) (hcl : calls < 1000000000000) (hc4 : ∃ d4, c4 = .bool d4) (hdn : (calls : Int) + 1 ≠ crash) (hen : Enters Try.prog k) (R : World → Prop)
    (hdo : ∀ w1, w1.heap[p]? = some (.cells #[c0, .int .i64 crash, .bool done, .int .i64 ((calls : Int) + 1), .bool (false), c5, c6, c7, c8] 51 (0, 0)) → Kept (fun j => j < w.heap.size ∧ j ≠ p) w w1 → w1.heap.size = w.heap.size → Calls Try.prog k (fst ++ caps) w1 fun e w2 => e = .returned (.tuple #[]) ∧ w2.cell? ⟨p, 4, none⟩ = some (.bool false) ∧ R w2) :
    Calls Try.prog 48 #[.pointer (some ⟨p, 0, none⟩), .func (.func k) fst caps] w fun e w' => e = .returned (.int .i64 0) ∧ R w' := by
  have HDO := Lib.hid hdo
  clear hdo
  unfold Enters at hen
  obtain ⟨d4, rfl⟩ := hc4
  have hdn' : ((((calls : Int) + 1) : Int) == crash) = false := by simpa using hdn
  have d1 : w.cell? ⟨p, 1, none⟩ = some (.int .i64 crash) := blk_cell h
  have d2 : w.cell? ⟨p, 2, none⟩ = some (.bool done) := blk_cell h
  have d3 : w.cell? ⟨p, 3, none⟩ = some (.int .i64 (calls : Int)) := blk_cell h
  have d4' : w.cell? ⟨p, 4, none⟩ = some (.bool d4) := blk_cell h
  have f3 : w.frozen? ⟨p, 3, none⟩ = false := blk_free h
  have f4 : w.frozen? ⟨p, 4, none⟩ = false := blk_free h
  obtain ⟨w1, hw1⟩ : ∃ w1, w1 = (w.setCell ⟨p, 3, none⟩ (.int .i64 ((calls : Int) + 1))).drew := ⟨_, rfl⟩
  have h1 : w1.heap[p]? = some (.cells #[c0, .int .i64 crash, .bool done, .int .i64 ((calls : Int) + 1), .bool d4, c5, c6, c7, c8] 51 (0, 0)) := by
    subst hw1
    exact (blk_set (i := 3) h (.int .i64 ((calls : Int) + 1))).trans (by simp)
  have e1 : w1.cell? ⟨p, 1, none⟩ = some (.int .i64 crash) := blk_cell h1
  have e2 : w1.cell? ⟨p, 2, none⟩ = some (.bool done) := blk_cell h1
  have e3 : w1.cell? ⟨p, 3, none⟩ = some (.int .i64 ((calls : Int) + 1)) := blk_cell h1
  have e4 : w1.cell? ⟨p, 4, none⟩ = some (.bool d4) := blk_cell h1
  have g4 : w1.frozen? ⟨p, 4, none⟩ = false := blk_free h1
  have hk1 : Kept (fun j => j < w.heap.size ∧ j ≠ p) w w1 := by subst hw1; exact ((Kept.refl _ w).setCell (fun h => h.2 rfl) _).drew
  have hs1 : w1.heap.size = w.heap.size := by subst hw1; simp [World.setCell]
  have h2 : (w1.setCell ⟨p, 4, none⟩ (.bool false)).heap[p]? = some (.cells #[c0, .int .i64 crash, .bool done, .int .i64 ((calls : Int) + 1), .bool (false), c5, c6, c7, c8] 51 (0, 0)) := by
    exact (blk_set (i := 4) h1 (.bool false)).trans (by simp)
  have hk2 : Kept (fun j => j < w.heap.size ∧ j ≠ p) w (w1.setCell ⟨p, 4, none⟩ (.bool false)) := hk1.setCell (fun h => h.2 rfl) _
  have hs2 : (w1.setCell ⟨p, 4, none⟩ (.bool false)).heap.size = w.heap.size := by rw [← hs1]; simp [World.setCell]
  have Hdn := Lib.hid hdn
  have Hw1 := Lib.hid hw1
  have H1 := Lib.hid h1
  have H2 := Lib.hid h2
  have HK2 := Lib.hid hk2
  have HS2 := Lib.hid hs2
  have HS1 := Lib.hid hs1
  have HK1 := Lib.hid hk1
  clear hdn hw1 h h1 h2 hk2 hs2 hs1 hk1
  go_enter Try.func48, Try.ntmps48
  go_wp2
  refine wp_region_two (fun wz => wz = w1) (fun _ => True) [(0, 0), (0, 1), (0, 2), (0, 3), (0, 4), (0, 5), (0, 6), (0, 7), (0, 8), (0, 9), (0, 10), (0, 11), (3, 12)] [12] (by kernel_rfl) (by kernel_rfl) (by kernel_rfl) (by kernel_rfl) (by kernel_rfl) Hw1.out.symm trivial ?_
  simp only [planT, List.drop_succ_cons, List.drop_zero]
  rw [← Hw1.out]
  refine PlanT.take0 (v := ?v0) (by kernel_rfl) ?y0 ?r0
  case y0 => (intro wz hz; subst hz; go_simp; try with_reducible rfl)
  (try simp only [Act.put, List.setIfInBounds_toArray, List.set_cons_zero, List.set_cons_succ])
  refine PlanT.take0 (v := ?v1) (by kernel_rfl) ?y1 ?r1
  case y1 => (intro wz hz; subst hz; go_simp; try with_reducible rfl)
  (try simp only [Act.put, List.setIfInBounds_toArray, List.set_cons_zero, List.set_cons_succ])
  refine PlanT.take0 (v := ?v2) (by kernel_rfl) ?y2 ?r2
  case y2 => (intro wz hz; subst hz; go_simp; try with_reducible rfl)
  (try simp only [Act.put, List.setIfInBounds_toArray, List.set_cons_zero, List.set_cons_succ])
  refine PlanT.take0 (v := ?v3) (by kernel_rfl) ?y3 ?r3
  case y3 => (intro wz hz; subst hz; go_simp; try with_reducible rfl)
  (try simp only [Act.put, List.setIfInBounds_toArray, List.set_cons_zero, List.set_cons_succ])
  refine PlanT.take0 (v := ?v4) (by kernel_rfl) ?y4 ?r4
  case y4 => (intro wz hz; subst hz; go_simp; try with_reducible rfl)
  (try simp only [Act.put, List.setIfInBounds_toArray, List.set_cons_zero, List.set_cons_succ])
  refine PlanT.take0 (v := ?v5) (by kernel_rfl) ?y5 ?r5
  case y5 => (intro wz hz; subst hz; go_simp; try with_reducible rfl)
  (try simp only [Act.put, List.setIfInBounds_toArray, List.set_cons_zero, List.set_cons_succ])
  refine PlanT.take0 (v := ?v6) (by kernel_rfl) ?y6 ?r6
  case y6 => (intro wz hz; subst hz; go_simp; try with_reducible rfl)
  (try simp only [Act.put, List.setIfInBounds_toArray, List.set_cons_zero, List.set_cons_succ])
  refine PlanT.take0 (v := ?v7) (by kernel_rfl) ?y7 ?r7
  case y7 => (intro wz hz; subst hz; go_simp; try with_reducible rfl)
  (try simp only [Act.put, List.setIfInBounds_toArray, List.set_cons_zero, List.set_cons_succ])
  refine PlanT.take0 (v := ?v8) (by kernel_rfl) ?y8 ?r8
  case y8 => (intro wz hz; subst hz; go_simp; try with_reducible rfl)
  (try simp only [Act.put, List.setIfInBounds_toArray, List.set_cons_zero, List.set_cons_succ])
  refine PlanT.take0 (v := ?v9) (by kernel_rfl) ?y9 ?r9
  case y9 => (intro wz hz; subst hz; go_simp; try with_reducible rfl)
  (try simp only [Act.put, List.setIfInBounds_toArray, List.set_cons_zero, List.set_cons_succ])
  refine PlanT.take0 (v := ?v10) (by kernel_rfl) ?y10 ?r10
  case y10 => (intro wz hz; subst hz; go_simp; try with_reducible rfl)
  (try simp only [Act.put, List.setIfInBounds_toArray, List.set_cons_zero, List.set_cons_succ])
  refine PlanT.take0 (v := ?v11) (by kernel_rfl) ?y11 ?r11
  case y11 => (intro wz hz; subst hz; go_simp; try with_reducible rfl)
  (try simp only [Act.put, List.setIfInBounds_toArray, List.set_cons_zero, List.set_cons_succ])
  refine PlanT.exec3 (fun K hK => ⟨by kernel_rfl, ?_⟩)
  go_simp
  refine hK.out _ _ trivial ?_
  clear hK K
  (try simp only [Act.put, List.setIfInBounds_toArray, List.set_cons_zero, List.set_cons_succ])
  refine PlanT.done (NoPanic.normal ?_)
  go_wp2_with (first | (go_at_call 46; refine (shut_any _ _ false hsh).mono ?_; rintro e w5 ⟨rfl, rfl⟩) | (with_reducible refine (HDO.out _ H2.out HK2.out HS2.out).mono ?_; rintro e w3 ⟨rfl, hsh, hR⟩))
  go_ret
  exact ⟨rfl, hR⟩

set_option maxRecDepth 100000 in
set_option maxHeartbeats 4000000 in
set_option linter.unusedSimpArgs false in
theorem count_last (w : World) (p : Nat) (c0 c4 c5 c6 c7 c8 : Value) (crash : Int) (calls : Nat) (k : Nat) (fst caps : Array Value) (h : w.heap[p]? = some (.cells #[c0, .int .i64 crash, .bool true, .int .i64 (calls : Int), c4, c5, c6, c7, c8] 51 (0, 0))) (hcl : calls < 1000000000000) (hc4 : ∃ d4, c4 = .bool d4) (hdn : (calls : Int) + 1 = crash) (hen : Enters Try.prog k) (R : World → Prop)
    (hdo : ∀ w1, w1.heap[p]? = some (.cells #[c0, .int .i64 crash, .bool true, .int .i64 ((calls : Int) + 1), .bool (true), c5, c6, c7, c8] 51 (0, 0)) → Kept (fun j => j < w.heap.size ∧ j ≠ p) w w1 → w1.heap.size = w.heap.size → Calls Try.prog k (fst ++ caps) w1 fun e w2 => e = .returned (.tuple #[]) ∧ w2.cell? ⟨p, 4, none⟩ = some (.bool true) ∧ R w2) :
    Calls Try.prog 48 #[.pointer (some ⟨p, 0, none⟩), .func (.func k) fst caps] w fun e w' => e = .returned (.int .i64 7) ∧ R w' := by
  have HDO := Lib.hid hdo
  clear hdo
  unfold Enters at hen
  obtain ⟨d4, rfl⟩ := hc4
  have hdn' : ((((calls : Int) + 1) : Int) == crash) = true := by simpa using hdn
  have d1 : w.cell? ⟨p, 1, none⟩ = some (.int .i64 crash) := blk_cell h
  have d2 : w.cell? ⟨p, 2, none⟩ = some (.bool true) := blk_cell h
  have d3 : w.cell? ⟨p, 3, none⟩ = some (.int .i64 (calls : Int)) := blk_cell h
  have d4' : w.cell? ⟨p, 4, none⟩ = some (.bool d4) := blk_cell h
  have f3 : w.frozen? ⟨p, 3, none⟩ = false := blk_free h
  have f4 : w.frozen? ⟨p, 4, none⟩ = false := blk_free h
  obtain ⟨w1, hw1⟩ : ∃ w1, w1 = (w.setCell ⟨p, 3, none⟩ (.int .i64 ((calls : Int) + 1))).drew := ⟨_, rfl⟩
  have h1 : w1.heap[p]? = some (.cells #[c0, .int .i64 crash, .bool true, .int .i64 ((calls : Int) + 1), .bool d4, c5, c6, c7, c8] 51 (0, 0)) := by
    subst hw1
    exact (blk_set (i := 3) h (.int .i64 ((calls : Int) + 1))).trans (by simp)
  have e1 : w1.cell? ⟨p, 1, none⟩ = some (.int .i64 crash) := blk_cell h1
  have e2 : w1.cell? ⟨p, 2, none⟩ = some (.bool true) := blk_cell h1
  have e3 : w1.cell? ⟨p, 3, none⟩ = some (.int .i64 ((calls : Int) + 1)) := blk_cell h1
  have e4 : w1.cell? ⟨p, 4, none⟩ = some (.bool d4) := blk_cell h1
  have g4 : w1.frozen? ⟨p, 4, none⟩ = false := blk_free h1
  have hk1 : Kept (fun j => j < w.heap.size ∧ j ≠ p) w w1 := by subst hw1; exact ((Kept.refl _ w).setCell (fun h => h.2 rfl) _).drew
  have hs1 : w1.heap.size = w.heap.size := by subst hw1; simp [World.setCell]
  have h2 : (w1.setCell ⟨p, 4, none⟩ (.bool true)).heap[p]? = some (.cells #[c0, .int .i64 crash, .bool true, .int .i64 ((calls : Int) + 1), .bool (true), c5, c6, c7, c8] 51 (0, 0)) := by
    exact (blk_set (i := 4) h1 (.bool true)).trans (by simp)
  have hk2 : Kept (fun j => j < w.heap.size ∧ j ≠ p) w (w1.setCell ⟨p, 4, none⟩ (.bool true)) := hk1.setCell (fun h => h.2 rfl) _
  have hs2 : (w1.setCell ⟨p, 4, none⟩ (.bool true)).heap.size = w.heap.size := by rw [← hs1]; simp [World.setCell]
  have Hdn := Lib.hid hdn
  have Hw1 := Lib.hid hw1
  have H1 := Lib.hid h1
  have H2 := Lib.hid h2
  have HK2 := Lib.hid hk2
  have HS2 := Lib.hid hs2
  have HS1 := Lib.hid hs1
  have HK1 := Lib.hid hk1
  clear hdn hw1 h h1 h2 hk2 hs2 hs1 hk1
  go_enter Try.func48, Try.ntmps48
  go_wp2
  refine wp_region_two (fun wz => wz = w1) (fun _ => True) [(0, 0), (0, 1), (0, 2), (0, 3), (0, 4), (0, 5), (0, 6), (0, 7), (0, 8), (0, 9), (0, 10), (0, 11), (3, 12)] [12] (by kernel_rfl) (by kernel_rfl) (by kernel_rfl) (by kernel_rfl) (by kernel_rfl) Hw1.out.symm trivial ?_
  simp only [planT, List.drop_succ_cons, List.drop_zero]
  rw [← Hw1.out]
  refine PlanT.take0 (v := ?v0) (by kernel_rfl) ?y0 ?r0
  case y0 => (intro wz hz; subst hz; go_simp; try with_reducible rfl)
  (try simp only [Act.put, List.setIfInBounds_toArray, List.set_cons_zero, List.set_cons_succ])
  refine PlanT.take0 (v := ?v1) (by kernel_rfl) ?y1 ?r1
  case y1 => (intro wz hz; subst hz; go_simp; try with_reducible rfl)
  (try simp only [Act.put, List.setIfInBounds_toArray, List.set_cons_zero, List.set_cons_succ])
  refine PlanT.take0 (v := ?v2) (by kernel_rfl) ?y2 ?r2
  case y2 => (intro wz hz; subst hz; go_simp; try with_reducible rfl)
  (try simp only [Act.put, List.setIfInBounds_toArray, List.set_cons_zero, List.set_cons_succ])
  refine PlanT.take0 (v := ?v3) (by kernel_rfl) ?y3 ?r3
  case y3 => (intro wz hz; subst hz; go_simp; try with_reducible rfl)
  (try simp only [Act.put, List.setIfInBounds_toArray, List.set_cons_zero, List.set_cons_succ])
  refine PlanT.take0 (v := ?v4) (by kernel_rfl) ?y4 ?r4
  case y4 => (intro wz hz; subst hz; go_simp; try with_reducible rfl)
  (try simp only [Act.put, List.setIfInBounds_toArray, List.set_cons_zero, List.set_cons_succ])
  refine PlanT.take0 (v := ?v5) (by kernel_rfl) ?y5 ?r5
  case y5 => (intro wz hz; subst hz; go_simp; try with_reducible rfl)
  (try simp only [Act.put, List.setIfInBounds_toArray, List.set_cons_zero, List.set_cons_succ])
  refine PlanT.take0 (v := ?v6) (by kernel_rfl) ?y6 ?r6
  case y6 => (intro wz hz; subst hz; go_simp; try with_reducible rfl)
  (try simp only [Act.put, List.setIfInBounds_toArray, List.set_cons_zero, List.set_cons_succ])
  refine PlanT.take0 (v := ?v7) (by kernel_rfl) ?y7 ?r7
  case y7 => (intro wz hz; subst hz; go_simp; try with_reducible rfl)
  (try simp only [Act.put, List.setIfInBounds_toArray, List.set_cons_zero, List.set_cons_succ])
  refine PlanT.take0 (v := ?v8) (by kernel_rfl) ?y8 ?r8
  case y8 => (intro wz hz; subst hz; go_simp; try with_reducible rfl)
  (try simp only [Act.put, List.setIfInBounds_toArray, List.set_cons_zero, List.set_cons_succ])
  refine PlanT.take0 (v := ?v9) (by kernel_rfl) ?y9 ?r9
  case y9 => (intro wz hz; subst hz; go_simp; try with_reducible rfl)
  (try simp only [Act.put, List.setIfInBounds_toArray, List.set_cons_zero, List.set_cons_succ])
  refine PlanT.take0 (v := ?v10) (by kernel_rfl) ?y10 ?r10
  case y10 => (intro wz hz; subst hz; go_simp; try with_reducible rfl)
  (try simp only [Act.put, List.setIfInBounds_toArray, List.set_cons_zero, List.set_cons_succ])
  refine PlanT.take0 (v := ?v11) (by kernel_rfl) ?y11 ?r11
  case y11 => (intro wz hz; subst hz; go_simp; try with_reducible rfl)
  (try simp only [Act.put, List.setIfInBounds_toArray, List.set_cons_zero, List.set_cons_succ])
  refine PlanT.exec3 (fun K hK => ⟨by kernel_rfl, ?_⟩)
  go_simp
  refine hK.out _ _ trivial ?_
  clear hK K
  (try simp only [Act.put, List.setIfInBounds_toArray, List.set_cons_zero, List.set_cons_succ])
  refine PlanT.done (NoPanic.normal ?_)
  go_wp2_with (first | (go_at_call 46; refine (shut_any _ _ true hsh).mono ?_; rintro e w5 ⟨rfl, rfl⟩) | (with_reducible refine (HDO.out _ H2.out HK2.out HS2.out).mono ?_; rintro e w3 ⟨rfl, hsh, hR⟩))
  go_ret
  exact ⟨rfl, hR⟩

set_option maxRecDepth 100000 in
set_option maxHeartbeats 4000000 in
set_option linter.unusedSimpArgs false in
theorem count_stop (w : World) (p : Nat) (c0 c4 c5 c6 c7 c8 : Value) (crash : Int) (calls : Nat) (k : Nat) (fst caps : Array Value) (h : w.heap[p]? = some (.cells #[c0, .int .i64 crash, .bool false, .int .i64 (calls : Int), c4, c5, c6, c7, c8] 51 (0, 0))) (hcl : calls < 1000000000000) (hc4 : ∃ d4, c4 = .bool d4) (hdn : (calls : Int) + 1 = crash) :
    Calls Try.prog 48 #[.pointer (some ⟨p, 0, none⟩), .func (.func k) fst caps] w fun e w' => e = .returned (.int .i64 7) ∧ w'.heap[p]? = some (.cells #[c0, .int .i64 crash, .bool false, .int .i64 ((calls : Int) + 1), .bool (true), c5, c6, c7, c8] 51 (0, 0)) ∧ Kept (fun j => j < w.heap.size ∧ j ≠ p) w w' ∧ w'.heap.size = w.heap.size := by
  obtain ⟨d4, rfl⟩ := hc4
  have hdn' : ((((calls : Int) + 1) : Int) == crash) = true := by simpa using hdn
  have d1 : w.cell? ⟨p, 1, none⟩ = some (.int .i64 crash) := blk_cell h
  have d2 : w.cell? ⟨p, 2, none⟩ = some (.bool false) := blk_cell h
  have d3 : w.cell? ⟨p, 3, none⟩ = some (.int .i64 (calls : Int)) := blk_cell h
  have d4' : w.cell? ⟨p, 4, none⟩ = some (.bool d4) := blk_cell h
  have f3 : w.frozen? ⟨p, 3, none⟩ = false := blk_free h
  have f4 : w.frozen? ⟨p, 4, none⟩ = false := blk_free h
  obtain ⟨w1, hw1⟩ : ∃ w1, w1 = (w.setCell ⟨p, 3, none⟩ (.int .i64 ((calls : Int) + 1))).drew := ⟨_, rfl⟩
  have h1 : w1.heap[p]? = some (.cells #[c0, .int .i64 crash, .bool false, .int .i64 ((calls : Int) + 1), .bool d4, c5, c6, c7, c8] 51 (0, 0)) := by
    subst hw1
    exact (blk_set (i := 3) h (.int .i64 ((calls : Int) + 1))).trans (by simp)
  have e1 : w1.cell? ⟨p, 1, none⟩ = some (.int .i64 crash) := blk_cell h1
  have e2 : w1.cell? ⟨p, 2, none⟩ = some (.bool false) := blk_cell h1
  have e3 : w1.cell? ⟨p, 3, none⟩ = some (.int .i64 ((calls : Int) + 1)) := blk_cell h1
  have e4 : w1.cell? ⟨p, 4, none⟩ = some (.bool d4) := blk_cell h1
  have g4 : w1.frozen? ⟨p, 4, none⟩ = false := blk_free h1
  have hk1 : Kept (fun j => j < w.heap.size ∧ j ≠ p) w w1 := by subst hw1; exact ((Kept.refl _ w).setCell (fun h => h.2 rfl) _).drew
  have hs1 : w1.heap.size = w.heap.size := by subst hw1; simp [World.setCell]
  have h2 : (w1.setCell ⟨p, 4, none⟩ (.bool true)).heap[p]? = some (.cells #[c0, .int .i64 crash, .bool false, .int .i64 ((calls : Int) + 1), .bool (true), c5, c6, c7, c8] 51 (0, 0)) := by
    exact (blk_set (i := 4) h1 (.bool true)).trans (by simp)
  have hk2 : Kept (fun j => j < w.heap.size ∧ j ≠ p) w (w1.setCell ⟨p, 4, none⟩ (.bool true)) := hk1.setCell (fun h => h.2 rfl) _
  have hs2 : (w1.setCell ⟨p, 4, none⟩ (.bool true)).heap.size = w.heap.size := by rw [← hs1]; simp [World.setCell]
  have Hdn := Lib.hid hdn
  have Hw1 := Lib.hid hw1
  have H1 := Lib.hid h1
  have H2 := Lib.hid h2
  have HK2 := Lib.hid hk2
  have HS2 := Lib.hid hs2
  have HS1 := Lib.hid hs1
  have HK1 := Lib.hid hk1
  clear hdn hw1 h h1 h2 hk2 hs2 hs1 hk1
  go_enter Try.func48, Try.ntmps48
  go_wp2
  refine wp_region_two (fun wz => wz = w1) (fun _ => True) [(0, 0), (0, 1), (0, 2), (0, 3), (0, 4), (0, 5), (0, 6), (0, 7), (0, 8), (0, 9), (0, 10), (0, 11), (3, 12)] [12] (by kernel_rfl) (by kernel_rfl) (by kernel_rfl) (by kernel_rfl) (by kernel_rfl) Hw1.out.symm trivial ?_
  simp only [planT, List.drop_succ_cons, List.drop_zero]
  rw [← Hw1.out]
  refine PlanT.take0 (v := ?v0) (by kernel_rfl) ?y0 ?r0
  case y0 => (intro wz hz; subst hz; go_simp; try with_reducible rfl)
  (try simp only [Act.put, List.setIfInBounds_toArray, List.set_cons_zero, List.set_cons_succ])
  refine PlanT.take0 (v := ?v1) (by kernel_rfl) ?y1 ?r1
  case y1 => (intro wz hz; subst hz; go_simp; try with_reducible rfl)
  (try simp only [Act.put, List.setIfInBounds_toArray, List.set_cons_zero, List.set_cons_succ])
  refine PlanT.take0 (v := ?v2) (by kernel_rfl) ?y2 ?r2
  case y2 => (intro wz hz; subst hz; go_simp; try with_reducible rfl)
  (try simp only [Act.put, List.setIfInBounds_toArray, List.set_cons_zero, List.set_cons_succ])
  refine PlanT.take0 (v := ?v3) (by kernel_rfl) ?y3 ?r3
  case y3 => (intro wz hz; subst hz; go_simp; try with_reducible rfl)
  (try simp only [Act.put, List.setIfInBounds_toArray, List.set_cons_zero, List.set_cons_succ])
  refine PlanT.take0 (v := ?v4) (by kernel_rfl) ?y4 ?r4
  case y4 => (intro wz hz; subst hz; go_simp; try with_reducible rfl)
  (try simp only [Act.put, List.setIfInBounds_toArray, List.set_cons_zero, List.set_cons_succ])
  refine PlanT.take0 (v := ?v5) (by kernel_rfl) ?y5 ?r5
  case y5 => (intro wz hz; subst hz; go_simp; try with_reducible rfl)
  (try simp only [Act.put, List.setIfInBounds_toArray, List.set_cons_zero, List.set_cons_succ])
  refine PlanT.take0 (v := ?v6) (by kernel_rfl) ?y6 ?r6
  case y6 => (intro wz hz; subst hz; go_simp; try with_reducible rfl)
  (try simp only [Act.put, List.setIfInBounds_toArray, List.set_cons_zero, List.set_cons_succ])
  refine PlanT.take0 (v := ?v7) (by kernel_rfl) ?y7 ?r7
  case y7 => (intro wz hz; subst hz; go_simp; try with_reducible rfl)
  (try simp only [Act.put, List.setIfInBounds_toArray, List.set_cons_zero, List.set_cons_succ])
  refine PlanT.take0 (v := ?v8) (by kernel_rfl) ?y8 ?r8
  case y8 => (intro wz hz; subst hz; go_simp; try with_reducible rfl)
  (try simp only [Act.put, List.setIfInBounds_toArray, List.set_cons_zero, List.set_cons_succ])
  refine PlanT.take0 (v := ?v9) (by kernel_rfl) ?y9 ?r9
  case y9 => (intro wz hz; subst hz; go_simp; try with_reducible rfl)
  (try simp only [Act.put, List.setIfInBounds_toArray, List.set_cons_zero, List.set_cons_succ])
  refine PlanT.take0 (v := ?v10) (by kernel_rfl) ?y10 ?r10
  case y10 => (intro wz hz; subst hz; go_simp; try with_reducible rfl)
  (try simp only [Act.put, List.setIfInBounds_toArray, List.set_cons_zero, List.set_cons_succ])
  refine PlanT.take0 (v := ?v11) (by kernel_rfl) ?y11 ?r11
  case y11 => (intro wz hz; subst hz; go_simp; try with_reducible rfl)
  (try simp only [Act.put, List.setIfInBounds_toArray, List.set_cons_zero, List.set_cons_succ])
  refine PlanT.exec3 (fun K hK => ⟨by kernel_rfl, ?_⟩)
  go_simp
  refine hK.out _ _ trivial ?_
  clear hK K
  (try simp only [Act.put, List.setIfInBounds_toArray, List.set_cons_zero, List.set_cons_succ])
  refine PlanT.done (NoPanic.normal ?_)
  have hsh : (w1.setCell ⟨p, 4, none⟩ (.bool true)).cell? ⟨p, 4, none⟩ = some (.bool true) := blk_cell H2.out
  go_wp2_with (go_at_call 46; refine (shut_any _ _ true hsh).mono ?_; rintro e w5 ⟨rfl, rfl⟩)
  go_ret
  exact ⟨rfl, H2.out, HK2.out, HS2.out⟩

end Go.Proofs.Ytfeogoihkpclcaa

/-
  A disk in memory, step by step: what each part that is written leaves of the whole.
-/
namespace Go.Proofs.Ytfeogoihkpclcaa
open Go.RowKit

/-- What a call leaves of what is not the disk's, and which blocks the disk has then. -/
structure Step (g g' : Gh) (w w' : World) : Prop where
  touch : Touch g.F w w'
  new : ∀ k, g'.F k → g.F k ∨ w.heap.size ≤ k

theorem Step.refl (g : Gh) (w : World) : Step g g w w := ⟨Touch.refl _ _, fun _ h => .inl h⟩
theorem Step.trans {g g' g'' : Gh} {a b c : World} (h : Step g g' a b) (k : Step g' g'' b c) : Step g g'' a c where
  touch := by
    refine Kept.trans h.touch (Kept.mono k.touch fun i hi => ⟨Nat.lt_of_lt_of_le hi.1 h.touch.size, fun hf => ?_⟩)
    rcases h.new i hf with h1 | h1
    · exact hi.2 h1
    · have := hi.1; omega
  new i hi := by
    rcases k.new i hi with h1 | h1
    · exact h.new i h1
    · exact .inr (Nat.le_trans h.touch.size h1)
theorem Step.below {g : Gh} {w w' : World} (h : Below w.heap.size w w') : Step g g w w' := ⟨Touch.of_below h, fun _ h => .inl h⟩
theorem Step.kept {g : Gh} {w w' : World} (h : Kept (fun k => k < w.heap.size ∧ ¬ g.F k) w w') : Step g g w w' := ⟨h, fun _ h => .inl h⟩

/-- The new block of 'v' has the role 'r'. -/
def claim (o : Nat → Role) (b : Option Nat) (r : Role) (k : Nat) : Role := if b = some k then r else o k

theorem claim_at {o : Nat → Role} {b : Option Nat} {r : Role} {k : Nat} (h : b = some k) : claim o b r k = r := by unfold claim; rw [if_pos h]
theorem claim_old {o : Nat → Role} {b : Option Nat} {r : Role} {k : Nat} (h : b ≠ some k) : claim o b r k = o k := by unfold claim; rw [if_neg h]
theorem claim_keep {o : Nat → Role} {b : Option Nat} {r : Role} (hb : ∀ k, b = some k → o k = r ∨ o k = .out) {k : Nat} (h : o k ≠ .out) : claim o b r k = o k := by
  unfold claim
  split
  · rename_i e
    rcases hb k e with h1 | h1
    · exact h1.symm
    · exact absurd h1 h
  · rfl
theorem claim_F {o : Nat → Role} {b : Option Nat} {r : Role} {k : Nat} (h : claim o b r k ≠ .out) : o k ≠ .out ∨ b = some k := by
  unfold claim at h
  split at h
  · rename_i e; exact .inr e
  · exact .inl h
/-- A role that is not the one claimed is held by those that held it. -/
theorem claim_role {o : Nat → Role} {b : Option Nat} {r s : Role} {k : Nat} (h : claim o b r k = s) (hs : s ≠ r) : o k = s := by
  unfold claim at h
  split at h
  · exact absurd h.symm hs
  · exact h

variable {g : Gh} {w w' : World} {p : Nat} {d d' : PD}

/-- No block of a role that is another's. -/
theorem role_ne {o : Nat → Role} {a b : Nat} (h : o a ≠ o b) : a ≠ b := fun e => h (by rw [e])

/-- The disk's own numbers are written. -/
theorem DiskAt.scal (h : DiskAt g w p d) (hk : Kept (fun k => k < w.heap.size ∧ k ≠ p) w w') (hb : w'.heap[p]? = some (.cells (dCells g d') 51 (0, 0)))
    (hf : d'.files = d.files) (hn : d'.names = d.names) (hs : d'.safe = d.safe) (hl : d'.loose = d.loose) : DiskAt g w' p d' where
  blk := hb
  rol := h.rol
  fl := by rw [hf]; exact h.fl
  fa x hx := (h.fa x hx).kept hk fun k e => ⟨h.olt k (by rcases e with e | e | e <;> rw [e] <;> simp), fun ep => by subst ep; rcases e with e | e | e <;> rw [h.rol] at e <;> cases e⟩
  nod := h.nod
  lt := h.lt
  otop := h.otop
  fr := own_kept h.fr hk fun k e => ⟨own_lt h.fr k e, fun ep => by subst ep; have := h.of k e; rw [h.rol] at this; cases this⟩
  of := h.of
  nr := by rw [hn]; exact h.nr.kept hk fun k e => ⟨h.nr.lt k e, fun ep => by subst ep; have := h.onm k e; rw [h.rol] at this; cases this⟩
  onm := h.onm
  sr := by rw [hs]; exact h.sr.kept hk fun k e => ⟨h.sr.lt k e, fun ep => by subst ep; have := h.osf k e; rw [h.rol] at this; cases this⟩
  osf := h.osf
  lr := by rw [hl]; exact own_kept h.lr hk fun k e => ⟨own_lt h.lr k e, fun ep => by subst ep; have := h.ol k e; rw [h.rol] at this; cases this⟩
  ol := h.ol
  olt k hk' := Nat.lt_of_lt_of_le (h.olt k hk') hk.size

theorem step_scal (h : DiskAt g w p d) (hk : Kept (fun k => k < w.heap.size ∧ k ≠ p) w w') : Step g g w w' :=
  ⟨Kept.mono hk fun k hk' => ⟨hk'.1, fun e => by subst e; exact hk'.2 (by unfold Gh.F; rw [h.rol]; decide)⟩, fun _ h => .inl h⟩

/-- The names' map is another one, or it was written. -/
theorem DiskAt.set_nv (h : DiskAt g w p d) (nv' : Value) (l' : DB) (hk : Kept (fun k => k < w.heap.size ∧ k ≠ p ∧ mapBlock g.nv ≠ some k) w w') (hb : w'.heap[p]? = some (.cells (dCells { g with nv := nv' } d) 51 (0, 0)))
    (hn : Nm w' nv' l') (hat : ∀ k, mapBlock nv' = some k → mapBlock g.nv = some k ∨ (w.heap.size ≤ k ∧ k < w'.heap.size)) :
    DiskAt { g with nv := nv', o := claim g.o (mapBlock nv') .names } w' p { d with names := l' } ∧ Step g { g with nv := nv', o := claim g.o (mapBlock nv') .names } w w' := by
  have hout : ∀ k, mapBlock nv' = some k → g.o k = .names ∨ g.o k = .out := by
    intro k e
    rcases hat k e with h1 | h1
    · exact .inl (h.onm k h1)
    · right
      cases ho : g.o k with
      | out => rfl
      | _ => exact absurd (h.olt k (by rw [ho]; simp)) (by omega)
  have hkp : ∀ k, g.o k ≠ .out → claim g.o (mapBlock nv') .names k = g.o k := fun k => claim_keep hout
  have hR : ∀ k, g.o k ≠ .out → g.o k ≠ .disk → g.o k ≠ .names → k < w.heap.size ∧ k ≠ p ∧ mapBlock g.nv ≠ some k := fun k h1 h2 h3 => ⟨h.olt k h1, fun e => by subst e; exact h2 h.rol, fun e => h3 (h.onm k e)⟩
  refine ⟨⟨hb, ?_, h.fl, fun x hx => ?_, h.nod, h.lt, fun k t hk' => ?_, ?_, fun k e => ?_, hn, fun k e => claim_at e, ?_, fun k e => ?_, ?_, fun k e => ?_, fun k hk' => ?_⟩, ?_, fun k hk' => ?_⟩
  · exact (hkp p (by rw [h.rol]; simp)).trans h.rol
  · have hfx := h.fa x hx
    refine FileAt.role (hfx.kept hk fun k e => hR k ?_ ?_ ?_) fun k e => hkp k ?_
    all_goals (rcases e with e | e | e <;> rw [e] <;> simp)
  · refine h.otop k t ?_
    rcases hk' with e | e | e
    · exact .inl (claim_role e (by simp))
    · exact .inr (.inl (claim_role e (by simp)))
    · exact .inr (.inr (claim_role e (by simp)))
  · exact own_kept h.fr hk fun k e => by have := h.of k e; exact hR k (by rw [this]; simp) (by rw [this]; simp) (by rw [this]; simp)
  · have := h.of k e
    exact (hkp k (by rw [this]; simp)).trans this
  · exact h.sr.kept hk fun k e => by have := h.osf k e; exact hR k (by rw [this]; simp) (by rw [this]; simp) (by rw [this]; simp)
  · have := h.osf k e
    exact (hkp k (by rw [this]; simp)).trans this
  · exact own_kept h.lr hk fun k e => by have := h.ol k e; exact hR k (by rw [this]; simp) (by rw [this]; simp) (by rw [this]; simp)
  · have := h.ol k e
    exact (hkp k (by rw [this]; simp)).trans this
  · rcases claim_F hk' with h1 | h1
    · exact Nat.lt_of_lt_of_le (h.olt k h1) hk.size
    · exact hn.lt k h1
  · exact Kept.mono hk fun k hk' => ⟨hk'.1, fun e => by subst e; exact hk'.2 (by unfold Gh.F; rw [h.rol]; simp), fun e => hk'.2 (by unfold Gh.F; rw [h.onm k e]; simp)⟩
  · rcases claim_F hk' with h1 | h1
    · exact .inl h1
    · rcases hat k h1 with h2 | h2
      · exact .inl (by unfold Gh.F; rw [h.onm k h2]; simp)
      · exact .inr h2.1

/-- The loose changes of names. -/
theorem DiskAt.set_lv (h : DiskAt g w p d) (lv' : Value) (l' : List PC) (hk : Kept (fun k => k < w.heap.size ∧ k ≠ p ∧ g.lv.ownBlock ≠ some k) w w') (hb : w'.heap[p]? = some (.cells (dCells { g with lv := lv' } d) 51 (0, 0)))
    (hl : w'.ownsRow 0 67 4 lv' l'.length (chCells l')) (hat : ∀ k, lv'.ownBlock = some k → g.lv.ownBlock = some k ∨ (w.heap.size ≤ k ∧ k < w'.heap.size)) :
    DiskAt { g with lv := lv', o := claim g.o lv'.ownBlock .loose } w' p { d with loose := l' } ∧ Step g { g with lv := lv', o := claim g.o lv'.ownBlock .loose } w w' := by
  have hout : ∀ k, lv'.ownBlock = some k → g.o k = .loose ∨ g.o k = .out := by
    intro k e
    rcases hat k e with h1 | h1
    · exact .inl (h.ol k h1)
    · right
      cases ho : g.o k with
      | out => rfl
      | _ => exact absurd (h.olt k (by rw [ho]; simp)) (by omega)
  have hkp : ∀ k, g.o k ≠ .out → claim g.o lv'.ownBlock .loose k = g.o k := fun k => claim_keep hout
  have hR : ∀ k, g.o k ≠ .out → g.o k ≠ .disk → g.o k ≠ .loose → k < w.heap.size ∧ k ≠ p ∧ g.lv.ownBlock ≠ some k := fun k h1 h2 h3 => ⟨h.olt k h1, fun e => by subst e; exact h2 h.rol, fun e => h3 (h.ol k e)⟩
  refine ⟨⟨hb, ?_, h.fl, fun x hx => ?_, h.nod, h.lt, fun k t hk' => ?_, ?_, fun k e => ?_, ?_, fun k e => ?_, ?_, fun k e => ?_, hl, fun k e => claim_at e, fun k hk' => ?_⟩, ?_, fun k hk' => ?_⟩
  · exact (hkp p (by rw [h.rol]; simp)).trans h.rol
  · have hfx := h.fa x hx
    refine FileAt.role (hfx.kept hk fun k e => hR k ?_ ?_ ?_) fun k e => hkp k ?_
    all_goals (rcases e with e | e | e <;> rw [e] <;> simp)
  · refine h.otop k t ?_
    rcases hk' with e | e | e
    · exact .inl (claim_role e (by simp))
    · exact .inr (.inl (claim_role e (by simp)))
    · exact .inr (.inr (claim_role e (by simp)))
  · exact own_kept h.fr hk fun k e => by have := h.of k e; exact hR k (by rw [this]; simp) (by rw [this]; simp) (by rw [this]; simp)
  · have := h.of k e
    exact (hkp k (by rw [this]; simp)).trans this
  · exact h.nr.kept hk fun k e => by have := h.onm k e; exact hR k (by rw [this]; simp) (by rw [this]; simp) (by rw [this]; simp)
  · have := h.onm k e
    exact (hkp k (by rw [this]; simp)).trans this
  · exact h.sr.kept hk fun k e => by have := h.osf k e; exact hR k (by rw [this]; simp) (by rw [this]; simp) (by rw [this]; simp)
  · have := h.osf k e
    exact (hkp k (by rw [this]; simp)).trans this
  · rcases claim_F hk' with h1 | h1
    · exact Nat.lt_of_lt_of_le (h.olt k h1) hk.size
    · exact own_lt hl k h1
  · exact Kept.mono hk fun k hk' => ⟨hk'.1, fun e => by subst e; exact hk'.2 (by unfold Gh.F; rw [h.rol]; simp), fun e => hk'.2 (by unfold Gh.F; rw [h.ol k e]; simp)⟩
  · rcases claim_F hk' with h1 | h1
    · exact .inl h1
    · rcases hat k h1 with h2 | h2
      · exact .inl (by unfold Gh.F; rw [h.ol k h2]; simp)
      · exact .inr h2.1

/-- What is asked of the names of a disk. -/
structure NmOk (d : PD) : Prop where
  n : d.names.length < 100000
  ids : ∀ x ∈ d.names, x.2 < 100000

/-- A change of names, done. -/
theorem rename_at (h : DiskAt g w p d) (c : PC) (hc : ChOk c) (hok : NmOk d) :
    Calls Try.prog 57 #[.pointer (some ⟨p, 0, none⟩), .agg #[.int .i64 (c.kind : Int), .string (strB c.src), .string (strB c.dst), .int .i64 (c.file : Int)]] w fun e w' => e = .returned (.tuple #[]) ∧ ∃ g', DiskAt g' w' p { d with names := ren d.names c } ∧ Step g g' w w' ∧ g'.l = g.l ∧ g'.fv = g.fv ∧ g'.lv = g.lv := by
  have hb := h.blk
  unfold dCells at hb
  refine (rename_any w p _ _ _ _ _ _ _ _ _ c d.names hb h.nr (fun e => by have := h.onm p e; rw [h.rol] at this; cases this) (by have := hok.n; omega) hc (fun x hx => by have := hok.ids x hx; omega)).mono ?_
  rintro e w' ⟨rfl, nv', hb', hn', hk', hl'⟩
  have := h.set_nv nv' (ren d.names c) hk' hb' hn' hl'
  exact ⟨rfl, _, this.1, this.2, rfl, rfl, rfl⟩
end Go.Proofs.Ytfeogoihkpclcaa

/-
  A change of names that is loose (what 'change' of a disk does).
-/
namespace Go.Proofs.Ytfeogoihkpclcaa
open Go.RowKit

set_option maxRecDepth 100000 in
set_option maxHeartbeats 4000000 in
set_option linter.unusedSimpArgs false in
theorem change_at {g : Gh} {w : World} {p : Nat} {d : PD} (h : DiskAt g w p d) (c : PC) (hc : ChOk c) (hok : NmOk d) (hl : d.loose.length < 100000) :
    Calls Try.prog 50 #[.pointer (some ⟨p, 0, none⟩), .agg #[.int .i64 (c.kind : Int), .string (strB c.src), .string (strB c.dst), .int .i64 (c.file : Int)]] w fun e w' => e = .returned (.tuple #[]) ∧ ∃ g', DiskAt g' w' p { d with names := ren d.names c, loose := d.loose ++ [c] } ∧ Step g g' w w' ∧ g'.l = g.l ∧ g'.fv = g.fv := by
  have hp := blk_lt h.blk
  obtain ⟨w1, hw1⟩ : ∃ w1, w1 = (w.alloc (.cells #[.int .i64 (c.kind : Int), .string (strB c.src), .string (strB c.dst), .int .i64 (c.file : Int)] 67)).drew := ⟨_, rfl⟩
  have hbel : Below w.heap.size w w1 := by subst hw1; exact ((Below.refl _ _).alloc (Nat.le_refl _) _).drew
  have h1 : w1.heap[p]? = some (.cells (dCells g d) 51 (0, 0)) := (hbel.block p hp).trans h.blk
  have hx : w1.heap[w.heap.size]? = some (.cells #[.int .i64 (c.kind : Int), .string (strB c.src), .string (strB c.dst), .int .i64 (c.file : Int)] 67 (0, 0)) := by subst hw1; exact heap_alloc_new w _
  have hlp : g.lv.ownBlock ≠ some p := fun e => by have := h.ol p e; rw [h.rol] at this; cases this
  have hlB : g.lv.ownBlock ≠ some w.heap.size := fun e => by have := own_lt h.lr _ e; omega
  have hne : ¬ w.heap.size = p := by omega
  have hne' : ¬ p = w.heap.size := by omega
  have hs1 : w.heap.size < w1.heap.size := blk_lt hx
  obtain ⟨la, lcap, hlv, _, _⟩ := rd_of_own h.lr
  have Hlv := Lib.hid hlv
  have HD := Lib.hid h
  have Hw1 := Lib.hid hw1
  have H1 := Lib.hid h1
  have HX := Lib.hid hx
  have HBEL := Lib.hid hbel
  have HC := Lib.hid hc
  have HOK := Lib.hid hok
  clear hw1 h1 hx h hbel hlv hc hok
  go_enter Try.func50, Try.ntmps50
  go_wp2
  refine wp_region_two (fun wz => wz.heap[p]? = some (.cells (dCells g d) 51 (0, 0)) ∧ wz.heap[w.heap.size]? = some (.cells #[.int .i64 (c.kind : Int), .string (strB c.src), .string (strB c.dst), .int .i64 (c.file : Int)] 67 (0, 0))) (fun _ => True) [(1, 0), (0, 1), (0, 2), (0, 3), (0, 4), (0, 5), (2, 6), (3, 7), (1, 8), (1, 9), (3, 10)] [7, 10] (by kernel_rfl) (by kernel_rfl) (by kernel_rfl) (by kernel_rfl) (by kernel_rfl) (by rw [← Hw1.out]; exact ⟨H1.out, HX.out⟩) trivial ?_
  simp only [planT, List.drop_succ_cons, List.drop_zero]
  rw [← Hw1.out]
  refine PlanT.take1 (v := ?v0) (by kernel_rfl) ?y0 ?r0
  case y0 => (intro wz hz; go_simp; try with_reducible rfl)
  (try simp only [Act.put, List.setIfInBounds_toArray, List.set_cons_zero, List.set_cons_succ])
  refine PlanT.take0 (v := ?v1) (by kernel_rfl) ?y1 ?r1
  case y1 => (intro wz hz; obtain ⟨z1, z2⟩ := hz; have q8 : wz.cell? ⟨p, 8, none⟩ = some g.lv := blk_cell z1; have b0 : wz.cell? ⟨w.heap.size, 0, none⟩ = some (.int .i64 (c.kind : Int)) := blk_cell z2; have b1 : wz.cell? ⟨w.heap.size, 1, none⟩ = some (.string (strB c.src)) := blk_cell z2; have b2 : wz.cell? ⟨w.heap.size, 2, none⟩ = some (.string (strB c.dst)) := blk_cell z2; have b3 : wz.cell? ⟨w.heap.size, 3, none⟩ = some (.int .i64 (c.file : Int)) := blk_cell z2; clear z1 z2; go_simp; try with_reducible rfl)
  (try simp only [Act.put, List.setIfInBounds_toArray, List.set_cons_zero, List.set_cons_succ])
  refine PlanT.take0 (v := ?v2) (by kernel_rfl) ?y2 ?r2
  case y2 => (intro wz hz; obtain ⟨z1, z2⟩ := hz; have q8 : wz.cell? ⟨p, 8, none⟩ = some g.lv := blk_cell z1; have b0 : wz.cell? ⟨w.heap.size, 0, none⟩ = some (.int .i64 (c.kind : Int)) := blk_cell z2; have b1 : wz.cell? ⟨w.heap.size, 1, none⟩ = some (.string (strB c.src)) := blk_cell z2; have b2 : wz.cell? ⟨w.heap.size, 2, none⟩ = some (.string (strB c.dst)) := blk_cell z2; have b3 : wz.cell? ⟨w.heap.size, 3, none⟩ = some (.int .i64 (c.file : Int)) := blk_cell z2; clear z1 z2; go_simp; try with_reducible rfl)
  (try simp only [Act.put, List.setIfInBounds_toArray, List.set_cons_zero, List.set_cons_succ])
  refine PlanT.take0 (v := ?v3) (by kernel_rfl) ?y3 ?r3
  case y3 => (intro wz hz; obtain ⟨z1, z2⟩ := hz; have q8 : wz.cell? ⟨p, 8, none⟩ = some g.lv := blk_cell z1; have b0 : wz.cell? ⟨w.heap.size, 0, none⟩ = some (.int .i64 (c.kind : Int)) := blk_cell z2; have b1 : wz.cell? ⟨w.heap.size, 1, none⟩ = some (.string (strB c.src)) := blk_cell z2; have b2 : wz.cell? ⟨w.heap.size, 2, none⟩ = some (.string (strB c.dst)) := blk_cell z2; have b3 : wz.cell? ⟨w.heap.size, 3, none⟩ = some (.int .i64 (c.file : Int)) := blk_cell z2; clear z1 z2; go_simp; try with_reducible rfl)
  (try simp only [Act.put, List.setIfInBounds_toArray, List.set_cons_zero, List.set_cons_succ])
  refine PlanT.take0 (v := ?v4) (by kernel_rfl) ?y4 ?r4
  case y4 => (intro wz hz; obtain ⟨z1, z2⟩ := hz; have q8 : wz.cell? ⟨p, 8, none⟩ = some g.lv := blk_cell z1; have b0 : wz.cell? ⟨w.heap.size, 0, none⟩ = some (.int .i64 (c.kind : Int)) := blk_cell z2; have b1 : wz.cell? ⟨w.heap.size, 1, none⟩ = some (.string (strB c.src)) := blk_cell z2; have b2 : wz.cell? ⟨w.heap.size, 2, none⟩ = some (.string (strB c.dst)) := blk_cell z2; have b3 : wz.cell? ⟨w.heap.size, 3, none⟩ = some (.int .i64 (c.file : Int)) := blk_cell z2; clear z1 z2; go_simp; try with_reducible rfl)
  (try simp only [Act.put, List.setIfInBounds_toArray, List.set_cons_zero, List.set_cons_succ])
  refine PlanT.take0 (v := ?v5) (by kernel_rfl) ?y5 ?r5
  case y5 => (intro wz hz; obtain ⟨z1, z2⟩ := hz; have q8 : wz.cell? ⟨p, 8, none⟩ = some g.lv := blk_cell z1; have b0 : wz.cell? ⟨w.heap.size, 0, none⟩ = some (.int .i64 (c.kind : Int)) := blk_cell z2; have b1 : wz.cell? ⟨w.heap.size, 1, none⟩ = some (.string (strB c.src)) := blk_cell z2; have b2 : wz.cell? ⟨w.heap.size, 2, none⟩ = some (.string (strB c.dst)) := blk_cell z2; have b3 : wz.cell? ⟨w.heap.size, 3, none⟩ = some (.int .i64 (c.file : Int)) := blk_cell z2; clear z1 z2; go_simp; try with_reducible rfl)
  (try simp only [Act.put, List.setIfInBounds_toArray, List.set_cons_zero, List.set_cons_succ])
  refine PlanT.exec2 (fun K hK => ⟨by kernel_rfl, ?_⟩)
  go_simp
  have hs2 : (w1.alloc (.cells #[.int .i64 (c.kind : Int), .string (strB c.src), .string (strB c.dst), .int .i64 (c.file : Int)] 67)).heap.size = w1.heap.size + 1 := by simp
  have hb2 := (Below.heap_alloc w1 (.cells #[.int .i64 (c.kind : Int), .string (strB c.src), .string (strB c.dst), .int .i64 (c.file : Int)] 67) p (blk_lt H1.out)).trans H1.out
  have hx2 := (Below.heap_alloc w1 (.cells #[.int .i64 (c.kind : Int), .string (strB c.src), .string (strB c.dst), .int .i64 (c.file : Int)] 67) w.heap.size (blk_lt HX.out)).trans HX.out
  have HS2 := Lib.hid hs2
  clear hs2
  refine hK.out _ _ ⟨hb2, hx2⟩ trivial ?_
  clear hK K
  (try simp only [Act.put, List.setIfInBounds_toArray, List.set_cons_zero, List.set_cons_succ])
  refine PlanT.exec3 (fun K hK => ⟨by kernel_rfl, ?_⟩)
  refine wp_append_at (.tmp 8) (.tmp 10) 49 rfl 67 4 48 (.agg #[.int .i64 0, .string ⟨#[]⟩, .string ⟨#[]⟩, .int .i64 0]) Try.underlying49 info_change rfl (by decide) g.lv _ d.loose.length 1 (chCells d.loose) (chCells [c]) rfl rfl ?own ?rd (ch_one _) (by omega) (by unfold maxLen; omega) ?_
  case own => exact own_kept HD.out.lr (R := fun k => k < w.heap.size) (Kept.of (HBEL.out.alloc (by have := HBEL.out.size; omega) _) fun _ h => h) fun k e => own_lt HD.out.lr k e
  case rd => exact ⟨_, 1, rfl, Nat.le_refl _, by unfold maxLen; omega, rfl, .inr ⟨w1.heap.size, 0, rfl, by simp, fun j u hj => by rw [blk_cell (heap_alloc_new w1 _)]; simpa [chCells] using hj⟩⟩
  intro v2 w2 ho2 hm2
  obtain ⟨av2, cv2, hv2, _, _⟩ := rd_of_own ho2
  subst hv2
  have hb3 := (hm2.grown.block p (by have := blk_lt H1.out; simp; omega) (fun e => hlp e.symm)).trans hb2
  have hx3 := (hm2.grown.block w.heap.size (by have := blk_lt HX.out; simp; omega) (fun e => hlB e.symm)).trans hx2
  have c8 : w2.cell? ⟨p, 8, none⟩ = some g.lv := blk_cell hb3
  have f8 : w2.frozen? ⟨p, 8, none⟩ = false := blk_free hb3
  have HM2 := Lib.hid hm2
  have HO2 := Lib.hid ho2
  have HB3 := Lib.hid hb3
  have HX3 := Lib.hid hx3
  have HB2 := Lib.hid hb2
  have HX2 := Lib.hid hx2
  clear hm2 ho2 hb3 hx3 hb2 hx2
  refine hK.out _ _ trivial ?_
  clear hK K
  (try simp only [Act.put, List.setIfInBounds_toArray, List.set_cons_zero, List.set_cons_succ])
  refine PlanT.take1 (v := ?v8) (by kernel_rfl) ?y8 ?r8
  case y8 => (intro wz hz; go_simp; try with_reducible rfl)
  (try simp only [Act.put, List.setIfInBounds_toArray, List.set_cons_zero, List.set_cons_succ])
  refine PlanT.take1 (v := ?v9) (by kernel_rfl) ?y9 ?r9
  case y9 => (intro wz hz; go_simp; try with_reducible rfl)
  (try simp only [Act.put, List.setIfInBounds_toArray, List.set_cons_zero, List.set_cons_succ])
  refine PlanT.exec3 (fun K hK => ⟨by kernel_rfl, ?_⟩)
  go_simp
  refine hK.out _ _ trivial ?_
  clear hK K
  (try simp only [Act.put, List.setIfInBounds_toArray, List.set_cons_zero, List.set_cons_succ])
  refine PlanT.done (NoPanic.normal ?_)
  have c8' := c8
  clear c8'
  obtain ⟨w3, hw3⟩ : ∃ w3, w3 = w2.setCell ⟨p, 8, none⟩ (.slice av2 (d.loose.length + 1) cv2) := ⟨_, rfl⟩
  rw [← hw3]
  have hb4 : w3.heap[p]? = some (.cells (dCells { g with lv := .slice av2 (d.loose.length + 1) cv2 } d) 51 (0, 0)) := by
    subst hw3
    exact (blk_set (i := 8) HB3.out _).trans (by simp [dCells])
  have hx4 : w3.heap[w.heap.size]? = some (.cells #[.int .i64 (c.kind : Int), .string (strB c.src), .string (strB c.dst), .int .i64 (c.file : Int)] 67 (0, 0)) := by
    subst hw3
    exact (Below.heap_setCell _ _ _ _ hne).trans HX3.out
  have hm4 : Moves w w2 g.lv (.slice av2 (d.loose.length + 1) cv2) := Moves.after (HBEL.out.alloc (by have := HBEL.out.size; omega) _) HM2.out
  have hk4 : Kept (fun k => k < w.heap.size ∧ k ≠ p ∧ g.lv.ownBlock ≠ some k) w w3 := by
    subst hw3
    exact (hm4.kept fun k hk => ⟨hk.1, hk.2.2⟩).setCell (fun h => h.2.1 rfl) _
  have hs4 : w3.heap.size = w2.heap.size := by subst hw3; simp [World.setCell]
  have ho4 : w3.ownsRow 0 67 4 (.slice av2 (d.loose.length + 1) cv2) (d.loose ++ [c]).length (chCells (d.loose ++ [c])) := by
    have e1 : chCells (d.loose ++ [c]) = chCells d.loose ++ chCells [c] := by simp [chCells]
    rw [e1, List.length_append]
    subst hw3
    refine own_kept HO2.out (R := fun k => k ≠ p) ((Kept.refl _ w2).setCell (fun h => h rfl) _) fun k e ep => ?_
    subst ep
    rcases hm4.at_ k e with h | h
    · exact hlp h
    · omega
  have hset := HD.out.set_lv _ (d.loose ++ [c]) hk4 hb4 ho4 (fun k e => by rw [hs4]; exact hm4.at_ k e)
  have hren := Lib.hid (rename_at hset.1 c HC.out ⟨HOK.out.n, HOK.out.ids⟩)
  have HST := Lib.hid hset.2
  have b0 : w3.cell? ⟨w.heap.size, 0, none⟩ = some (.int .i64 (c.kind : Int)) := blk_cell hx4
  have b1 : w3.cell? ⟨w.heap.size, 1, none⟩ = some (.string (strB c.src)) := blk_cell hx4
  have b2 : w3.cell? ⟨w.heap.size, 2, none⟩ = some (.string (strB c.dst)) := blk_cell hx4
  have b3 : w3.cell? ⟨w.heap.size, 3, none⟩ = some (.int .i64 (c.file : Int)) := blk_cell hx4
  clear hset ho4 hs4 hk4 hm4 hx4 hb4 hw3 c8 f8
  go_wp2_with (go_at_call 57; refine hren.out.mono ?_; rintro e w5 ⟨rfl, g5, hd5, hst5, hl5, hfv5, _⟩)
  go_end0
  exact ⟨rfl, g5, hd5, HST.out.trans hst5, hl5, hfv5⟩
end Go.Proofs.Ytfeogoihkpclcaa
