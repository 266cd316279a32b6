/-
  A change that is counted (what 'count' of a disk does).
-/
import Derived.Test.YtmlijnekidihbaaDiskUsed
namespace Go.Proofs.Ytmlijnekidihbaa
open Go.RowKit

set_option maxRecDepth 100000 in
set_option maxHeartbeats 4000000 in
set_option linter.unusedSimpArgs false in
theorem count_up (w : World) (p : Nat) (c0 c4 c5 c6 c7 c8 : Value) (crash : Int) (calls : Nat) (done : Bool) (k : Nat) (fst caps : Array Value) (h : w.heap[p]? = some (.cells #[c0, .int .i64 crash, .bool done, .int .i64 (calls : Int), c4, c5, c6, c7, c8] 60 (0, 0))) (hcl : calls < 1000000000000) (hc4 : ∃ d4, c4 = .bool d4) (hdn : (calls : Int) + 1 ≠ crash) (hen : Enters Try.prog k) (R : World → Prop)
    (hdo : ∀ w1, w1.heap[p]? = some (.cells #[c0, .int .i64 crash, .bool done, .int .i64 ((calls : Int) + 1), .bool (false), c5, c6, c7, c8] 60 (0, 0)) → Kept (fun j => j < w.heap.size ∧ j ≠ p) w w1 → w1.heap.size = w.heap.size → Calls Try.prog k (fst ++ caps) w1 fun e w2 => e = .returned (.tuple #[]) ∧ w2.cell? ⟨p, 4, none⟩ = some (.bool false) ∧ R w2) :
    Calls Try.prog 49 #[.pointer (some ⟨p, 0, none⟩), .func (.func k) fst caps] w fun e w' => e = .returned (.int .i64 0) ∧ R w' := by
  have HDO := Lib.hid hdo
  clear hdo
  unfold Enters at hen
  obtain ⟨d4, rfl⟩ := hc4
  have hdn' : ((((calls : Int) + 1) : Int) == crash) = false := by simpa using hdn
  have d1 : w.cell? ⟨p, 1, none⟩ = some (.int .i64 crash) := blk_cell h
  have d2 : w.cell? ⟨p, 2, none⟩ = some (.bool done) := blk_cell h
  have d3 : w.cell? ⟨p, 3, none⟩ = some (.int .i64 (calls : Int)) := blk_cell h
  have d4' : w.cell? ⟨p, 4, none⟩ = some (.bool d4) := blk_cell h
  have f3 : w.frozen? ⟨p, 3, none⟩ = false := blk_free h
  have f4 : w.frozen? ⟨p, 4, none⟩ = false := blk_free h
  obtain ⟨w1, hw1⟩ : ∃ w1, w1 = (w.setCell ⟨p, 3, none⟩ (.int .i64 ((calls : Int) + 1))).drew := ⟨_, rfl⟩
  have h1 : w1.heap[p]? = some (.cells #[c0, .int .i64 crash, .bool done, .int .i64 ((calls : Int) + 1), .bool d4, c5, c6, c7, c8] 60 (0, 0)) := by
    subst hw1
    exact (blk_set (i := 3) h (.int .i64 ((calls : Int) + 1))).trans (by simp)
  have e1 : w1.cell? ⟨p, 1, none⟩ = some (.int .i64 crash) := blk_cell h1
  have e2 : w1.cell? ⟨p, 2, none⟩ = some (.bool done) := blk_cell h1
  have e3 : w1.cell? ⟨p, 3, none⟩ = some (.int .i64 ((calls : Int) + 1)) := blk_cell h1
  have e4 : w1.cell? ⟨p, 4, none⟩ = some (.bool d4) := blk_cell h1
  have g4 : w1.frozen? ⟨p, 4, none⟩ = false := blk_free h1
  have hk1 : Kept (fun j => j < w.heap.size ∧ j ≠ p) w w1 := by subst hw1; exact ((Kept.refl _ w).setCell (fun h => h.2 rfl) _).drew
  have hs1 : w1.heap.size = w.heap.size := by subst hw1; simp [World.setCell]
  have h2 : (w1.setCell ⟨p, 4, none⟩ (.bool false)).heap[p]? = some (.cells #[c0, .int .i64 crash, .bool done, .int .i64 ((calls : Int) + 1), .bool (false), c5, c6, c7, c8] 60 (0, 0)) := by
    exact (blk_set (i := 4) h1 (.bool false)).trans (by simp)
  have hk2 : Kept (fun j => j < w.heap.size ∧ j ≠ p) w (w1.setCell ⟨p, 4, none⟩ (.bool false)) := hk1.setCell (fun h => h.2 rfl) _
  have hs2 : (w1.setCell ⟨p, 4, none⟩ (.bool false)).heap.size = w.heap.size := by rw [← hs1]; simp [World.setCell]
  have Hdn := Lib.hid hdn
  have Hw1 := Lib.hid hw1
  have H1 := Lib.hid h1
  have H2 := Lib.hid h2
  have HK2 := Lib.hid hk2
  have HS2 := Lib.hid hs2
  have HS1 := Lib.hid hs1
  have HK1 := Lib.hid hk1
  clear hdn hw1 h h1 h2 hk2 hs2 hs1 hk1
  go_enter Try.func49, Try.ntmps49
  go_wp2
  refine wp_region_two (fun wz => wz = w1) (fun _ => True) [(0, 0), (0, 1), (0, 2), (0, 3), (0, 4), (0, 5), (0, 6), (0, 7), (0, 8), (0, 9), (0, 10), (0, 11), (3, 12)] [12] (by kernel_rfl) (by kernel_rfl) (by kernel_rfl) (by kernel_rfl) (by kernel_rfl) Hw1.out.symm trivial ?_
  simp only [planT, List.drop_succ_cons, List.drop_zero]
  rw [← Hw1.out]
  refine PlanT.take0 (v := ?v0) (by kernel_rfl) ?y0 ?r0
  case y0 => (intro wz hz; subst hz; go_simp; try with_reducible rfl)
  (try simp only [Act.put, List.setIfInBounds_toArray, List.set_cons_zero, List.set_cons_succ])
  refine PlanT.take0 (v := ?v1) (by kernel_rfl) ?y1 ?r1
  case y1 => (intro wz hz; subst hz; go_simp; try with_reducible rfl)
  (try simp only [Act.put, List.setIfInBounds_toArray, List.set_cons_zero, List.set_cons_succ])
  refine PlanT.take0 (v := ?v2) (by kernel_rfl) ?y2 ?r2
  case y2 => (intro wz hz; subst hz; go_simp; try with_reducible rfl)
  (try simp only [Act.put, List.setIfInBounds_toArray, List.set_cons_zero, List.set_cons_succ])
  refine PlanT.take0 (v := ?v3) (by kernel_rfl) ?y3 ?r3
  case y3 => (intro wz hz; subst hz; go_simp; try with_reducible rfl)
  (try simp only [Act.put, List.setIfInBounds_toArray, List.set_cons_zero, List.set_cons_succ])
  refine PlanT.take0 (v := ?v4) (by kernel_rfl) ?y4 ?r4
  case y4 => (intro wz hz; subst hz; go_simp; try with_reducible rfl)
  (try simp only [Act.put, List.setIfInBounds_toArray, List.set_cons_zero, List.set_cons_succ])
  refine PlanT.take0 (v := ?v5) (by kernel_rfl) ?y5 ?r5
  case y5 => (intro wz hz; subst hz; go_simp; try with_reducible rfl)
  (try simp only [Act.put, List.setIfInBounds_toArray, List.set_cons_zero, List.set_cons_succ])
  refine PlanT.take0 (v := ?v6) (by kernel_rfl) ?y6 ?r6
  case y6 => (intro wz hz; subst hz; go_simp; try with_reducible rfl)
  (try simp only [Act.put, List.setIfInBounds_toArray, List.set_cons_zero, List.set_cons_succ])
  refine PlanT.take0 (v := ?v7) (by kernel_rfl) ?y7 ?r7
  case y7 => (intro wz hz; subst hz; go_simp; try with_reducible rfl)
  (try simp only [Act.put, List.setIfInBounds_toArray, List.set_cons_zero, List.set_cons_succ])
  refine PlanT.take0 (v := ?v8) (by kernel_rfl) ?y8 ?r8
  case y8 => (intro wz hz; subst hz; go_simp; try with_reducible rfl)
  (try simp only [Act.put, List.setIfInBounds_toArray, List.set_cons_zero, List.set_cons_succ])
  refine PlanT.take0 (v := ?v9) (by kernel_rfl) ?y9 ?r9
  case y9 => (intro wz hz; subst hz; go_simp; try with_reducible rfl)
  (try simp only [Act.put, List.setIfInBounds_toArray, List.set_cons_zero, List.set_cons_succ])
  refine PlanT.take0 (v := ?v10) (by kernel_rfl) ?y10 ?r10
  case y10 => (intro wz hz; subst hz; go_simp; try with_reducible rfl)
  (try simp only [Act.put, List.setIfInBounds_toArray, List.set_cons_zero, List.set_cons_succ])
  refine PlanT.take0 (v := ?v11) (by kernel_rfl) ?y11 ?r11
  case y11 => (intro wz hz; subst hz; go_simp; try with_reducible rfl)
  (try simp only [Act.put, List.setIfInBounds_toArray, List.set_cons_zero, List.set_cons_succ])
  refine PlanT.exec3 (fun K hK => ⟨by kernel_rfl, ?_⟩)
  go_simp
  refine hK.out _ _ trivial ?_
  clear hK K
  (try simp only [Act.put, List.setIfInBounds_toArray, List.set_cons_zero, List.set_cons_succ])
  refine PlanT.done (NoPanic.normal ?_)
  go_wp2_with (first | (go_at_call 47; refine (shut_any _ _ false hsh).mono ?_; rintro e w5 ⟨rfl, rfl⟩) | (with_reducible refine (HDO.out _ H2.out HK2.out HS2.out).mono ?_; rintro e w3 ⟨rfl, hsh, hR⟩))
  go_ret
  exact ⟨rfl, hR⟩

set_option maxRecDepth 100000 in
set_option maxHeartbeats 4000000 in
set_option linter.unusedSimpArgs false in
theorem count_last (w : World) (p : Nat) (c0 c4 c5 c6 c7 c8 : Value) (crash : Int) (calls : Nat) (k : Nat) (fst caps : Array Value) (h : w.heap[p]? = some (.cells #[c0, .int .i64 crash, .bool true, .int .i64 (calls : Int), c4, c5, c6, c7, c8] 60 (0, 0))) (hcl : calls < 1000000000000) (hc4 : ∃ d4, c4 = .bool d4) (hdn : (calls : Int) + 1 = crash) (hen : Enters Try.prog k) (R : World → Prop)
    (hdo : ∀ w1, w1.heap[p]? = some (.cells #[c0, .int .i64 crash, .bool true, .int .i64 ((calls : Int) + 1), .bool (true), c5, c6, c7, c8] 60 (0, 0)) → Kept (fun j => j < w.heap.size ∧ j ≠ p) w w1 → w1.heap.size = w.heap.size → Calls Try.prog k (fst ++ caps) w1 fun e w2 => e = .returned (.tuple #[]) ∧ w2.cell? ⟨p, 4, none⟩ = some (.bool true) ∧ R w2) :
    Calls Try.prog 49 #[.pointer (some ⟨p, 0, none⟩), .func (.func k) fst caps] w fun e w' => e = .returned (.int .i64 7) ∧ R w' := by
  have HDO := Lib.hid hdo
  clear hdo
  unfold Enters at hen
  obtain ⟨d4, rfl⟩ := hc4
  have hdn' : ((((calls : Int) + 1) : Int) == crash) = true := by simpa using hdn
  have d1 : w.cell? ⟨p, 1, none⟩ = some (.int .i64 crash) := blk_cell h
  have d2 : w.cell? ⟨p, 2, none⟩ = some (.bool true) := blk_cell h
  have d3 : w.cell? ⟨p, 3, none⟩ = some (.int .i64 (calls : Int)) := blk_cell h
  have d4' : w.cell? ⟨p, 4, none⟩ = some (.bool d4) := blk_cell h
  have f3 : w.frozen? ⟨p, 3, none⟩ = false := blk_free h
  have f4 : w.frozen? ⟨p, 4, none⟩ = false := blk_free h
  obtain ⟨w1, hw1⟩ : ∃ w1, w1 = (w.setCell ⟨p, 3, none⟩ (.int .i64 ((calls : Int) + 1))).drew := ⟨_, rfl⟩
  have h1 : w1.heap[p]? = some (.cells #[c0, .int .i64 crash, .bool true, .int .i64 ((calls : Int) + 1), .bool d4, c5, c6, c7, c8] 60 (0, 0)) := by
    subst hw1
    exact (blk_set (i := 3) h (.int .i64 ((calls : Int) + 1))).trans (by simp)
  have e1 : w1.cell? ⟨p, 1, none⟩ = some (.int .i64 crash) := blk_cell h1
  have e2 : w1.cell? ⟨p, 2, none⟩ = some (.bool true) := blk_cell h1
  have e3 : w1.cell? ⟨p, 3, none⟩ = some (.int .i64 ((calls : Int) + 1)) := blk_cell h1
  have e4 : w1.cell? ⟨p, 4, none⟩ = some (.bool d4) := blk_cell h1
  have g4 : w1.frozen? ⟨p, 4, none⟩ = false := blk_free h1
  have hk1 : Kept (fun j => j < w.heap.size ∧ j ≠ p) w w1 := by subst hw1; exact ((Kept.refl _ w).setCell (fun h => h.2 rfl) _).drew
  have hs1 : w1.heap.size = w.heap.size := by subst hw1; simp [World.setCell]
  have h2 : (w1.setCell ⟨p, 4, none⟩ (.bool true)).heap[p]? = some (.cells #[c0, .int .i64 crash, .bool true, .int .i64 ((calls : Int) + 1), .bool (true), c5, c6, c7, c8] 60 (0, 0)) := by
    exact (blk_set (i := 4) h1 (.bool true)).trans (by simp)
  have hk2 : Kept (fun j => j < w.heap.size ∧ j ≠ p) w (w1.setCell ⟨p, 4, none⟩ (.bool true)) := hk1.setCell (fun h => h.2 rfl) _
  have hs2 : (w1.setCell ⟨p, 4, none⟩ (.bool true)).heap.size = w.heap.size := by rw [← hs1]; simp [World.setCell]
  have Hdn := Lib.hid hdn
  have Hw1 := Lib.hid hw1
  have H1 := Lib.hid h1
  have H2 := Lib.hid h2
  have HK2 := Lib.hid hk2
  have HS2 := Lib.hid hs2
  have HS1 := Lib.hid hs1
  have HK1 := Lib.hid hk1
  clear hdn hw1 h h1 h2 hk2 hs2 hs1 hk1
  go_enter Try.func49, Try.ntmps49
  go_wp2
  refine wp_region_two (fun wz => wz = w1) (fun _ => True) [(0, 0), (0, 1), (0, 2), (0, 3), (0, 4), (0, 5), (0, 6), (0, 7), (0, 8), (0, 9), (0, 10), (0, 11), (3, 12)] [12] (by kernel_rfl) (by kernel_rfl) (by kernel_rfl) (by kernel_rfl) (by kernel_rfl) Hw1.out.symm trivial ?_
  simp only [planT, List.drop_succ_cons, List.drop_zero]
  rw [← Hw1.out]
  refine PlanT.take0 (v := ?v0) (by kernel_rfl) ?y0 ?r0
  case y0 => (intro wz hz; subst hz; go_simp; try with_reducible rfl)
  (try simp only [Act.put, List.setIfInBounds_toArray, List.set_cons_zero, List.set_cons_succ])
  refine PlanT.take0 (v := ?v1) (by kernel_rfl) ?y1 ?r1
  case y1 => (intro wz hz; subst hz; go_simp; try with_reducible rfl)
  (try simp only [Act.put, List.setIfInBounds_toArray, List.set_cons_zero, List.set_cons_succ])
  refine PlanT.take0 (v := ?v2) (by kernel_rfl) ?y2 ?r2
  case y2 => (intro wz hz; subst hz; go_simp; try with_reducible rfl)
  (try simp only [Act.put, List.setIfInBounds_toArray, List.set_cons_zero, List.set_cons_succ])
  refine PlanT.take0 (v := ?v3) (by kernel_rfl) ?y3 ?r3
  case y3 => (intro wz hz; subst hz; go_simp; try with_reducible rfl)
  (try simp only [Act.put, List.setIfInBounds_toArray, List.set_cons_zero, List.set_cons_succ])
  refine PlanT.take0 (v := ?v4) (by kernel_rfl) ?y4 ?r4
  case y4 => (intro wz hz; subst hz; go_simp; try with_reducible rfl)
  (try simp only [Act.put, List.setIfInBounds_toArray, List.set_cons_zero, List.set_cons_succ])
  refine PlanT.take0 (v := ?v5) (by kernel_rfl) ?y5 ?r5
  case y5 => (intro wz hz; subst hz; go_simp; try with_reducible rfl)
  (try simp only [Act.put, List.setIfInBounds_toArray, List.set_cons_zero, List.set_cons_succ])
  refine PlanT.take0 (v := ?v6) (by kernel_rfl) ?y6 ?r6
  case y6 => (intro wz hz; subst hz; go_simp; try with_reducible rfl)
  (try simp only [Act.put, List.setIfInBounds_toArray, List.set_cons_zero, List.set_cons_succ])
  refine PlanT.take0 (v := ?v7) (by kernel_rfl) ?y7 ?r7
  case y7 => (intro wz hz; subst hz; go_simp; try with_reducible rfl)
  (try simp only [Act.put, List.setIfInBounds_toArray, List.set_cons_zero, List.set_cons_succ])
  refine PlanT.take0 (v := ?v8) (by kernel_rfl) ?y8 ?r8
  case y8 => (intro wz hz; subst hz; go_simp; try with_reducible rfl)
  (try simp only [Act.put, List.setIfInBounds_toArray, List.set_cons_zero, List.set_cons_succ])
  refine PlanT.take0 (v := ?v9) (by kernel_rfl) ?y9 ?r9
  case y9 => (intro wz hz; subst hz; go_simp; try with_reducible rfl)
  (try simp only [Act.put, List.setIfInBounds_toArray, List.set_cons_zero, List.set_cons_succ])
  refine PlanT.take0 (v := ?v10) (by kernel_rfl) ?y10 ?r10
  case y10 => (intro wz hz; subst hz; go_simp; try with_reducible rfl)
  (try simp only [Act.put, List.setIfInBounds_toArray, List.set_cons_zero, List.set_cons_succ])
  refine PlanT.take0 (v := ?v11) (by kernel_rfl) ?y11 ?r11
  case y11 => (intro wz hz; subst hz; go_simp; try with_reducible rfl)
  (try simp only [Act.put, List.setIfInBounds_toArray, List.set_cons_zero, List.set_cons_succ])
  refine PlanT.exec3 (fun K hK => ⟨by kernel_rfl, ?_⟩)
  go_simp
  refine hK.out _ _ trivial ?_
  clear hK K
  (try simp only [Act.put, List.setIfInBounds_toArray, List.set_cons_zero, List.set_cons_succ])
  refine PlanT.done (NoPanic.normal ?_)
  go_wp2_with (first | (go_at_call 47; refine (shut_any _ _ true hsh).mono ?_; rintro e w5 ⟨rfl, rfl⟩) | (with_reducible refine (HDO.out _ H2.out HK2.out HS2.out).mono ?_; rintro e w3 ⟨rfl, hsh, hR⟩))
  go_ret
  exact ⟨rfl, hR⟩

set_option maxRecDepth 100000 in
set_option maxHeartbeats 4000000 in
set_option linter.unusedSimpArgs false in
theorem count_stop (w : World) (p : Nat) (c0 c4 c5 c6 c7 c8 : Value) (crash : Int) (calls : Nat) (k : Nat) (fst caps : Array Value) (h : w.heap[p]? = some (.cells #[c0, .int .i64 crash, .bool false, .int .i64 (calls : Int), c4, c5, c6, c7, c8] 60 (0, 0))) (hcl : calls < 1000000000000) (hc4 : ∃ d4, c4 = .bool d4) (hdn : (calls : Int) + 1 = crash) :
    Calls Try.prog 49 #[.pointer (some ⟨p, 0, none⟩), .func (.func k) fst caps] w fun e w' => e = .returned (.int .i64 7) ∧ w'.heap[p]? = some (.cells #[c0, .int .i64 crash, .bool false, .int .i64 ((calls : Int) + 1), .bool (true), c5, c6, c7, c8] 60 (0, 0)) ∧ Kept (fun j => j < w.heap.size ∧ j ≠ p) w w' ∧ w'.heap.size = w.heap.size := by
  obtain ⟨d4, rfl⟩ := hc4
  have hdn' : ((((calls : Int) + 1) : Int) == crash) = true := by simpa using hdn
  have d1 : w.cell? ⟨p, 1, none⟩ = some (.int .i64 crash) := blk_cell h
  have d2 : w.cell? ⟨p, 2, none⟩ = some (.bool false) := blk_cell h
  have d3 : w.cell? ⟨p, 3, none⟩ = some (.int .i64 (calls : Int)) := blk_cell h
  have d4' : w.cell? ⟨p, 4, none⟩ = some (.bool d4) := blk_cell h
  have f3 : w.frozen? ⟨p, 3, none⟩ = false := blk_free h
  have f4 : w.frozen? ⟨p, 4, none⟩ = false := blk_free h
  obtain ⟨w1, hw1⟩ : ∃ w1, w1 = (w.setCell ⟨p, 3, none⟩ (.int .i64 ((calls : Int) + 1))).drew := ⟨_, rfl⟩
  have h1 : w1.heap[p]? = some (.cells #[c0, .int .i64 crash, .bool false, .int .i64 ((calls : Int) + 1), .bool d4, c5, c6, c7, c8] 60 (0, 0)) := by
    subst hw1
    exact (blk_set (i := 3) h (.int .i64 ((calls : Int) + 1))).trans (by simp)
  have e1 : w1.cell? ⟨p, 1, none⟩ = some (.int .i64 crash) := blk_cell h1
  have e2 : w1.cell? ⟨p, 2, none⟩ = some (.bool false) := blk_cell h1
  have e3 : w1.cell? ⟨p, 3, none⟩ = some (.int .i64 ((calls : Int) + 1)) := blk_cell h1
  have e4 : w1.cell? ⟨p, 4, none⟩ = some (.bool d4) := blk_cell h1
  have g4 : w1.frozen? ⟨p, 4, none⟩ = false := blk_free h1
  have hk1 : Kept (fun j => j < w.heap.size ∧ j ≠ p) w w1 := by subst hw1; exact ((Kept.refl _ w).setCell (fun h => h.2 rfl) _).drew
  have hs1 : w1.heap.size = w.heap.size := by subst hw1; simp [World.setCell]
  have h2 : (w1.setCell ⟨p, 4, none⟩ (.bool true)).heap[p]? = some (.cells #[c0, .int .i64 crash, .bool false, .int .i64 ((calls : Int) + 1), .bool (true), c5, c6, c7, c8] 60 (0, 0)) := by
    exact (blk_set (i := 4) h1 (.bool true)).trans (by simp)
  have hk2 : Kept (fun j => j < w.heap.size ∧ j ≠ p) w (w1.setCell ⟨p, 4, none⟩ (.bool true)) := hk1.setCell (fun h => h.2 rfl) _
  have hs2 : (w1.setCell ⟨p, 4, none⟩ (.bool true)).heap.size = w.heap.size := by rw [← hs1]; simp [World.setCell]
  have Hdn := Lib.hid hdn
  have Hw1 := Lib.hid hw1
  have H1 := Lib.hid h1
  have H2 := Lib.hid h2
  have HK2 := Lib.hid hk2
  have HS2 := Lib.hid hs2
  have HS1 := Lib.hid hs1
  have HK1 := Lib.hid hk1
  clear hdn hw1 h h1 h2 hk2 hs2 hs1 hk1
  go_enter Try.func49, Try.ntmps49
  go_wp2
  refine wp_region_two (fun wz => wz = w1) (fun _ => True) [(0, 0), (0, 1), (0, 2), (0, 3), (0, 4), (0, 5), (0, 6), (0, 7), (0, 8), (0, 9), (0, 10), (0, 11), (3, 12)] [12] (by kernel_rfl) (by kernel_rfl) (by kernel_rfl) (by kernel_rfl) (by kernel_rfl) Hw1.out.symm trivial ?_
  simp only [planT, List.drop_succ_cons, List.drop_zero]
  rw [← Hw1.out]
  refine PlanT.take0 (v := ?v0) (by kernel_rfl) ?y0 ?r0
  case y0 => (intro wz hz; subst hz; go_simp; try with_reducible rfl)
  (try simp only [Act.put, List.setIfInBounds_toArray, List.set_cons_zero, List.set_cons_succ])
  refine PlanT.take0 (v := ?v1) (by kernel_rfl) ?y1 ?r1
  case y1 => (intro wz hz; subst hz; go_simp; try with_reducible rfl)
  (try simp only [Act.put, List.setIfInBounds_toArray, List.set_cons_zero, List.set_cons_succ])
  refine PlanT.take0 (v := ?v2) (by kernel_rfl) ?y2 ?r2
  case y2 => (intro wz hz; subst hz; go_simp; try with_reducible rfl)
  (try simp only [Act.put, List.setIfInBounds_toArray, List.set_cons_zero, List.set_cons_succ])
  refine PlanT.take0 (v := ?v3) (by kernel_rfl) ?y3 ?r3
  case y3 => (intro wz hz; subst hz; go_simp; try with_reducible rfl)
  (try simp only [Act.put, List.setIfInBounds_toArray, List.set_cons_zero, List.set_cons_succ])
  refine PlanT.take0 (v := ?v4) (by kernel_rfl) ?y4 ?r4
  case y4 => (intro wz hz; subst hz; go_simp; try with_reducible rfl)
  (try simp only [Act.put, List.setIfInBounds_toArray, List.set_cons_zero, List.set_cons_succ])
  refine PlanT.take0 (v := ?v5) (by kernel_rfl) ?y5 ?r5
  case y5 => (intro wz hz; subst hz; go_simp; try with_reducible rfl)
  (try simp only [Act.put, List.setIfInBounds_toArray, List.set_cons_zero, List.set_cons_succ])
  refine PlanT.take0 (v := ?v6) (by kernel_rfl) ?y6 ?r6
  case y6 => (intro wz hz; subst hz; go_simp; try with_reducible rfl)
  (try simp only [Act.put, List.setIfInBounds_toArray, List.set_cons_zero, List.set_cons_succ])
  refine PlanT.take0 (v := ?v7) (by kernel_rfl) ?y7 ?r7
  case y7 => (intro wz hz; subst hz; go_simp; try with_reducible rfl)
  (try simp only [Act.put, List.setIfInBounds_toArray, List.set_cons_zero, List.set_cons_succ])
  refine PlanT.take0 (v := ?v8) (by kernel_rfl) ?y8 ?r8
  case y8 => (intro wz hz; subst hz; go_simp; try with_reducible rfl)
  (try simp only [Act.put, List.setIfInBounds_toArray, List.set_cons_zero, List.set_cons_succ])
  refine PlanT.take0 (v := ?v9) (by kernel_rfl) ?y9 ?r9
  case y9 => (intro wz hz; subst hz; go_simp; try with_reducible rfl)
  (try simp only [Act.put, List.setIfInBounds_toArray, List.set_cons_zero, List.set_cons_succ])
  refine PlanT.take0 (v := ?v10) (by kernel_rfl) ?y10 ?r10
  case y10 => (intro wz hz; subst hz; go_simp; try with_reducible rfl)
  (try simp only [Act.put, List.setIfInBounds_toArray, List.set_cons_zero, List.set_cons_succ])
  refine PlanT.take0 (v := ?v11) (by kernel_rfl) ?y11 ?r11
  case y11 => (intro wz hz; subst hz; go_simp; try with_reducible rfl)
  (try simp only [Act.put, List.setIfInBounds_toArray, List.set_cons_zero, List.set_cons_succ])
  refine PlanT.exec3 (fun K hK => ⟨by kernel_rfl, ?_⟩)
  go_simp
  refine hK.out _ _ trivial ?_
  clear hK K
  (try simp only [Act.put, List.setIfInBounds_toArray, List.set_cons_zero, List.set_cons_succ])
  refine PlanT.done (NoPanic.normal ?_)
  have hsh : (w1.setCell ⟨p, 4, none⟩ (.bool true)).cell? ⟨p, 4, none⟩ = some (.bool true) := blk_cell H2.out
  go_wp2_with (go_at_call 47; refine (shut_any _ _ true hsh).mono ?_; rintro e w5 ⟨rfl, rfl⟩)
  go_ret
  exact ⟨rfl, H2.out, HK2.out, HS2.out⟩

end Go.Proofs.Ytmlijnekidihbaa
