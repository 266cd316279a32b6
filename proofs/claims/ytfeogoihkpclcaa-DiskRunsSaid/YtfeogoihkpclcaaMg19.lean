import Derived.Test.YtfeogoihkpclcaaMg18

/-
  The document's disk: a call that is counted.
-/
namespace Go.Proofs.Ytfeogoihkpclcaa
open Go.RowKit

set_option maxRecDepth 100000 in
set_option maxHeartbeats 4000000 in
set_option linter.unusedSimpArgs false in
theorem dcount_up0 {o : Nat → DR} {v : DV} {gs : List GD} (w : World) (q : Nat) (m : DM) (h : DocAt o v gs w q m) (hc0 : 0 ≤ m.calls) (hcl : m.calls < 1000000000000) (hd : m.down = false) (hp : m.plan.crash < 1) (hlv : m.live = true) :
    Calls Try.prog 65 #[.pointer (some ⟨q, 0, none⟩)] w fun e w' => e = .returned (.tuple #[.bool m.is, .int .i64 (m.err : Int)]) ∧ DocAt o v gs w' q m.counted ∧ Kept (fun k => k < w.heap.size ∧ k ≠ q) w w' := by
  obtain ⟨w1, hw1⟩ : ∃ w1, w1 = w.setCell ⟨q, 9, none⟩ (.int .i64 (m.calls + 1)) := ⟨_, rfl⟩
  have h1 : w1.heap[q]? = some (.cells (docCells v { m with calls := m.calls + 1 }) 56 (0, 0)) := by
    subst hw1
    exact (blk_set (i := 9) h.blk (.int .i64 (m.calls + 1))).trans (by simp [docCells])
  have hk1 : Kept (fun j => j < w.heap.size ∧ j ≠ q) w w1 := by subst hw1; exact (Kept.refl _ w).setCell (fun h => h.2 rfl) _
  have hs1 : w1.heap.size = w.heap.size := by subst hw1; simp [World.setCell]
  have d9 : w.cell? ⟨q, 9, none⟩ = some (.int .i64 m.calls) := blk_cell h.blk
  have f9 : w.frozen? ⟨q, 9, none⟩ = false := blk_free h.blk
  have e5 : w1.cell? ⟨q, 5, none⟩ = some (.int .i64 m.plan.crash) := blk_cell h1
  have e6 : w1.cell? ⟨q, 6, none⟩ = some (.bool m.plan.done) := blk_cell h1
  have e9 : w1.cell? ⟨q, 9, none⟩ = some (.int .i64 (m.calls + 1)) := blk_cell h1
  have e10 : w1.cell? ⟨q, 10, none⟩ = some (.bool m.down) := blk_cell h1
  have g10 : w1.frozen? ⟨q, 10, none⟩ = false := blk_free h1
  have HW1 := Lib.hid hw1
  have H := Lib.hid h
  have H1 := Lib.hid h1
  have HK := Lib.hid hk1
  have HD := Lib.hid hd
  have HLQ := Lib.hid (show q < w1.heap.size by rw [hs1]; exact h.lt q (by rw [h.rol]; decide))
  have HLV := Lib.hid hlv
  
  clear hw1 h h1 hk1 hs1 hd
  go_enter Try.func65, Try.ntmps65
  go_upto_region 2 with (fail)
  rw [← HW1.out]
  refine wp_region_plan [(true, 0), (true, 1), (true, 2), (true, 3), (true, 4), (true, 5), (true, 6), (true, 7), (true, 8), (true, 9), (true, 10), (true, 11), (true, 12), (true, 13), (true, 14), (true, 15), (true, 16), (true, 17)] (by kernel_rfl) (by kernel_rfl) (by kernel_rfl) (by kernel_rfl) (by kernel_rfl) ?_
  simp only [planO, List.drop_succ_cons, List.drop_zero]
  refine PlanO.take (v := ?v0) (by kernel_rfl) ?y0 ?r0
  case y0 => (intro wz hz; have p5 : wz.cell? ⟨q, 5, none⟩ = some (.int .i64 m.plan.crash) := (hz.cell (p := ⟨q, 5, none⟩) HLQ.out).trans e5; have p9 : wz.cell? ⟨q, 9, none⟩ = some (.int .i64 (m.calls + 1)) := (hz.cell (p := ⟨q, 9, none⟩) HLQ.out).trans e9; go_simp; try with_reducible rfl)
  (try simp only [Act.put, List.setIfInBounds_toArray, List.set_cons_zero, List.set_cons_succ])
  refine PlanO.take (v := ?v1) (by kernel_rfl) ?y1 ?r1
  case y1 => (intro wz hz; have p5 : wz.cell? ⟨q, 5, none⟩ = some (.int .i64 m.plan.crash) := (hz.cell (p := ⟨q, 5, none⟩) HLQ.out).trans e5; have p9 : wz.cell? ⟨q, 9, none⟩ = some (.int .i64 (m.calls + 1)) := (hz.cell (p := ⟨q, 9, none⟩) HLQ.out).trans e9; go_simp; try with_reducible rfl)
  (try simp only [Act.put, List.setIfInBounds_toArray, List.set_cons_zero, List.set_cons_succ])
  refine PlanO.take (v := ?v2) (by kernel_rfl) ?y2 ?r2
  case y2 => (intro wz hz; have p5 : wz.cell? ⟨q, 5, none⟩ = some (.int .i64 m.plan.crash) := (hz.cell (p := ⟨q, 5, none⟩) HLQ.out).trans e5; have p9 : wz.cell? ⟨q, 9, none⟩ = some (.int .i64 (m.calls + 1)) := (hz.cell (p := ⟨q, 9, none⟩) HLQ.out).trans e9; go_simp; try with_reducible rfl)
  (try simp only [Act.put, List.setIfInBounds_toArray, List.set_cons_zero, List.set_cons_succ])
  refine PlanO.take (v := ?v3) (by kernel_rfl) ?y3 ?r3
  case y3 => (intro wz hz; have p5 : wz.cell? ⟨q, 5, none⟩ = some (.int .i64 m.plan.crash) := (hz.cell (p := ⟨q, 5, none⟩) HLQ.out).trans e5; have p9 : wz.cell? ⟨q, 9, none⟩ = some (.int .i64 (m.calls + 1)) := (hz.cell (p := ⟨q, 9, none⟩) HLQ.out).trans e9; go_simp; try with_reducible rfl)
  (try simp only [Act.put, List.setIfInBounds_toArray, List.set_cons_zero, List.set_cons_succ])
  refine PlanO.take (v := ?v4) (by kernel_rfl) ?y4 ?r4
  case y4 => (intro wz hz; have p5 : wz.cell? ⟨q, 5, none⟩ = some (.int .i64 m.plan.crash) := (hz.cell (p := ⟨q, 5, none⟩) HLQ.out).trans e5; have p9 : wz.cell? ⟨q, 9, none⟩ = some (.int .i64 (m.calls + 1)) := (hz.cell (p := ⟨q, 9, none⟩) HLQ.out).trans e9; go_simp; try with_reducible rfl)
  (try simp only [Act.put, List.setIfInBounds_toArray, List.set_cons_zero, List.set_cons_succ])
  refine PlanO.take (v := ?v5) (by kernel_rfl) ?y5 ?r5
  case y5 => (intro wz hz; have p5 : wz.cell? ⟨q, 5, none⟩ = some (.int .i64 m.plan.crash) := (hz.cell (p := ⟨q, 5, none⟩) HLQ.out).trans e5; have p9 : wz.cell? ⟨q, 9, none⟩ = some (.int .i64 (m.calls + 1)) := (hz.cell (p := ⟨q, 9, none⟩) HLQ.out).trans e9; go_simp; try with_reducible rfl)
  (try simp only [Act.put, List.setIfInBounds_toArray, List.set_cons_zero, List.set_cons_succ])
  refine PlanO.take (v := ?v6) (by kernel_rfl) ?y6 ?r6
  case y6 => (intro wz hz; have p5 : wz.cell? ⟨q, 5, none⟩ = some (.int .i64 m.plan.crash) := (hz.cell (p := ⟨q, 5, none⟩) HLQ.out).trans e5; have p9 : wz.cell? ⟨q, 9, none⟩ = some (.int .i64 (m.calls + 1)) := (hz.cell (p := ⟨q, 9, none⟩) HLQ.out).trans e9; go_simp; try with_reducible rfl)
  (try simp only [Act.put, List.setIfInBounds_toArray, List.set_cons_zero, List.set_cons_succ])
  refine PlanO.skip (by kernel_rfl) ?_
  (try simp only [Act.put, List.setIfInBounds_toArray, List.set_cons_zero, List.set_cons_succ])
  refine PlanO.skip (by kernel_rfl) ?_
  (try simp only [Act.put, List.setIfInBounds_toArray, List.set_cons_zero, List.set_cons_succ])
  refine PlanO.skip (by kernel_rfl) ?_
  (try simp only [Act.put, List.setIfInBounds_toArray, List.set_cons_zero, List.set_cons_succ])
  refine PlanO.skip (by kernel_rfl) ?_
  (try simp only [Act.put, List.setIfInBounds_toArray, List.set_cons_zero, List.set_cons_succ])
  refine PlanO.skip (by kernel_rfl) ?_
  (try simp only [Act.put, List.setIfInBounds_toArray, List.set_cons_zero, List.set_cons_succ])
  refine PlanO.skip (by kernel_rfl) ?_
  (try simp only [Act.put, List.setIfInBounds_toArray, List.set_cons_zero, List.set_cons_succ])
  refine PlanO.skip (by kernel_rfl) ?_
  (try simp only [Act.put, List.setIfInBounds_toArray, List.set_cons_zero, List.set_cons_succ])
  refine PlanO.skip (by kernel_rfl) ?_
  (try simp only [Act.put, List.setIfInBounds_toArray, List.set_cons_zero, List.set_cons_succ])
  refine PlanO.skip (by kernel_rfl) ?_
  (try simp only [Act.put, List.setIfInBounds_toArray, List.set_cons_zero, List.set_cons_succ])
  refine PlanO.skip (by kernel_rfl) ?_
  (try simp only [Act.put, List.setIfInBounds_toArray, List.set_cons_zero, List.set_cons_succ])
  refine PlanO.take (v := ?v17) (by kernel_rfl) ?y17 ?r17
  case y17 => (intro wz hz; have p5 : wz.cell? ⟨q, 5, none⟩ = some (.int .i64 m.plan.crash) := (hz.cell (p := ⟨q, 5, none⟩) HLQ.out).trans e5; have p9 : wz.cell? ⟨q, 9, none⟩ = some (.int .i64 (m.calls + 1)) := (hz.cell (p := ⟨q, 9, none⟩) HLQ.out).trans e9; go_simp; try with_reducible rfl)
  (try simp only [Act.put, List.setIfInBounds_toArray, List.set_cons_zero, List.set_cons_succ])
  refine PlanO.done (NoPanic.normal ?_)
  go_wp2
  go_ret2
  refine ⟨?_, ?_, ?_⟩
  · simp [DM.is, DM.err, HLV.out]
  · exact H.out.scal HK.out.drew (H1.out.trans (by simp [docCells, DM.counted, HLV.out, HD.out])) rfl rfl rfl rfl
  · exact HK.out.drew

set_option maxRecDepth 100000 in
set_option maxHeartbeats 4000000 in
set_option linter.unusedSimpArgs false in
theorem dcount_up1 {o : Nat → DR} {v : DV} {gs : List GD} (w : World) (q : Nat) (m : DM) (h : DocAt o v gs w q m) (hc0 : 0 ≤ m.calls) (hcl : m.calls < 1000000000000) (hd : m.down = false) (hp : 1 ≤ m.plan.crash) (hne : m.calls + 1 ≠ m.plan.crash) (hlv : m.live = true) :
    Calls Try.prog 65 #[.pointer (some ⟨q, 0, none⟩)] w fun e w' => e = .returned (.tuple #[.bool m.is, .int .i64 (m.err : Int)]) ∧ DocAt o v gs w' q m.counted ∧ Kept (fun k => k < w.heap.size ∧ k ≠ q) w w' := by
  obtain ⟨w1, hw1⟩ : ∃ w1, w1 = w.setCell ⟨q, 9, none⟩ (.int .i64 (m.calls + 1)) := ⟨_, rfl⟩
  have h1 : w1.heap[q]? = some (.cells (docCells v { m with calls := m.calls + 1 }) 56 (0, 0)) := by
    subst hw1
    exact (blk_set (i := 9) h.blk (.int .i64 (m.calls + 1))).trans (by simp [docCells])
  have hk1 : Kept (fun j => j < w.heap.size ∧ j ≠ q) w w1 := by subst hw1; exact (Kept.refl _ w).setCell (fun h => h.2 rfl) _
  have hs1 : w1.heap.size = w.heap.size := by subst hw1; simp [World.setCell]
  have d9 : w.cell? ⟨q, 9, none⟩ = some (.int .i64 m.calls) := blk_cell h.blk
  have f9 : w.frozen? ⟨q, 9, none⟩ = false := blk_free h.blk
  have e5 : w1.cell? ⟨q, 5, none⟩ = some (.int .i64 m.plan.crash) := blk_cell h1
  have e6 : w1.cell? ⟨q, 6, none⟩ = some (.bool m.plan.done) := blk_cell h1
  have e9 : w1.cell? ⟨q, 9, none⟩ = some (.int .i64 (m.calls + 1)) := blk_cell h1
  have e10 : w1.cell? ⟨q, 10, none⟩ = some (.bool m.down) := blk_cell h1
  have g10 : w1.frozen? ⟨q, 10, none⟩ = false := blk_free h1
  have HW1 := Lib.hid hw1
  have H := Lib.hid h
  have H1 := Lib.hid h1
  have HK := Lib.hid hk1
  have HD := Lib.hid hd
  have HLQ := Lib.hid (show q < w1.heap.size by rw [hs1]; exact h.lt q (by rw [h.rol]; decide))
  have HLV := Lib.hid hlv
  have hpd : decide (m.plan.crash < 1) = false := by simp; omega
  have hnb : ((m.calls + 1 : Int) == m.plan.crash) = false := by simpa using hne
  clear hne
  
  clear hw1 h h1 hk1 hs1 hd
  go_enter Try.func65, Try.ntmps65
  go_upto_region 2 with (fail)
  rw [← HW1.out]
  refine wp_region_plan [(true, 0), (true, 1), (true, 2), (true, 3), (true, 4), (true, 5), (true, 6), (true, 7), (true, 8), (true, 9), (true, 10), (true, 11), (true, 12), (true, 13), (true, 14), (true, 15), (true, 16), (true, 17)] (by kernel_rfl) (by kernel_rfl) (by kernel_rfl) (by kernel_rfl) (by kernel_rfl) ?_
  simp only [planO, List.drop_succ_cons, List.drop_zero]
  refine PlanO.take (v := ?v0) (by kernel_rfl) ?y0 ?r0
  case y0 => (intro wz hz; have p5 : wz.cell? ⟨q, 5, none⟩ = some (.int .i64 m.plan.crash) := (hz.cell (p := ⟨q, 5, none⟩) HLQ.out).trans e5; have p9 : wz.cell? ⟨q, 9, none⟩ = some (.int .i64 (m.calls + 1)) := (hz.cell (p := ⟨q, 9, none⟩) HLQ.out).trans e9; go_simp; try with_reducible rfl)
  (try simp only [Act.put, List.setIfInBounds_toArray, List.set_cons_zero, List.set_cons_succ])
  refine PlanO.take (v := ?v1) (by kernel_rfl) ?y1 ?r1
  case y1 => (intro wz hz; have p5 : wz.cell? ⟨q, 5, none⟩ = some (.int .i64 m.plan.crash) := (hz.cell (p := ⟨q, 5, none⟩) HLQ.out).trans e5; have p9 : wz.cell? ⟨q, 9, none⟩ = some (.int .i64 (m.calls + 1)) := (hz.cell (p := ⟨q, 9, none⟩) HLQ.out).trans e9; go_simp; try with_reducible rfl)
  (try simp only [Act.put, List.setIfInBounds_toArray, List.set_cons_zero, List.set_cons_succ])
  refine PlanO.take (v := ?v2) (by kernel_rfl) ?y2 ?r2
  case y2 => (intro wz hz; have p5 : wz.cell? ⟨q, 5, none⟩ = some (.int .i64 m.plan.crash) := (hz.cell (p := ⟨q, 5, none⟩) HLQ.out).trans e5; have p9 : wz.cell? ⟨q, 9, none⟩ = some (.int .i64 (m.calls + 1)) := (hz.cell (p := ⟨q, 9, none⟩) HLQ.out).trans e9; go_simp; try with_reducible rfl)
  (try simp only [Act.put, List.setIfInBounds_toArray, List.set_cons_zero, List.set_cons_succ])
  refine PlanO.take (v := ?v3) (by kernel_rfl) ?y3 ?r3
  case y3 => (intro wz hz; have p5 : wz.cell? ⟨q, 5, none⟩ = some (.int .i64 m.plan.crash) := (hz.cell (p := ⟨q, 5, none⟩) HLQ.out).trans e5; have p9 : wz.cell? ⟨q, 9, none⟩ = some (.int .i64 (m.calls + 1)) := (hz.cell (p := ⟨q, 9, none⟩) HLQ.out).trans e9; go_simp; try with_reducible rfl)
  (try simp only [Act.put, List.setIfInBounds_toArray, List.set_cons_zero, List.set_cons_succ])
  refine PlanO.take (v := ?v4) (by kernel_rfl) ?y4 ?r4
  case y4 => (intro wz hz; have p5 : wz.cell? ⟨q, 5, none⟩ = some (.int .i64 m.plan.crash) := (hz.cell (p := ⟨q, 5, none⟩) HLQ.out).trans e5; have p9 : wz.cell? ⟨q, 9, none⟩ = some (.int .i64 (m.calls + 1)) := (hz.cell (p := ⟨q, 9, none⟩) HLQ.out).trans e9; go_simp; try with_reducible rfl)
  (try simp only [Act.put, List.setIfInBounds_toArray, List.set_cons_zero, List.set_cons_succ])
  refine PlanO.take (v := ?v5) (by kernel_rfl) ?y5 ?r5
  case y5 => (intro wz hz; have p5 : wz.cell? ⟨q, 5, none⟩ = some (.int .i64 m.plan.crash) := (hz.cell (p := ⟨q, 5, none⟩) HLQ.out).trans e5; have p9 : wz.cell? ⟨q, 9, none⟩ = some (.int .i64 (m.calls + 1)) := (hz.cell (p := ⟨q, 9, none⟩) HLQ.out).trans e9; go_simp; try with_reducible rfl)
  (try simp only [Act.put, List.setIfInBounds_toArray, List.set_cons_zero, List.set_cons_succ])
  refine PlanO.take (v := ?v6) (by kernel_rfl) ?y6 ?r6
  case y6 => (intro wz hz; have p5 : wz.cell? ⟨q, 5, none⟩ = some (.int .i64 m.plan.crash) := (hz.cell (p := ⟨q, 5, none⟩) HLQ.out).trans e5; have p9 : wz.cell? ⟨q, 9, none⟩ = some (.int .i64 (m.calls + 1)) := (hz.cell (p := ⟨q, 9, none⟩) HLQ.out).trans e9; go_simp; try with_reducible rfl)
  (try simp only [Act.put, List.setIfInBounds_toArray, List.set_cons_zero, List.set_cons_succ])
  refine PlanO.take (v := ?v7) (by kernel_rfl) ?y7 ?r7
  case y7 => (intro wz hz; have p5 : wz.cell? ⟨q, 5, none⟩ = some (.int .i64 m.plan.crash) := (hz.cell (p := ⟨q, 5, none⟩) HLQ.out).trans e5; have p9 : wz.cell? ⟨q, 9, none⟩ = some (.int .i64 (m.calls + 1)) := (hz.cell (p := ⟨q, 9, none⟩) HLQ.out).trans e9; go_simp; try with_reducible rfl)
  (try simp only [Act.put, List.setIfInBounds_toArray, List.set_cons_zero, List.set_cons_succ])
  refine PlanO.take (v := ?v8) (by kernel_rfl) ?y8 ?r8
  case y8 => (intro wz hz; have p5 : wz.cell? ⟨q, 5, none⟩ = some (.int .i64 m.plan.crash) := (hz.cell (p := ⟨q, 5, none⟩) HLQ.out).trans e5; have p9 : wz.cell? ⟨q, 9, none⟩ = some (.int .i64 (m.calls + 1)) := (hz.cell (p := ⟨q, 9, none⟩) HLQ.out).trans e9; go_simp; try with_reducible rfl)
  (try simp only [Act.put, List.setIfInBounds_toArray, List.set_cons_zero, List.set_cons_succ])
  refine PlanO.take (v := ?v9) (by kernel_rfl) ?y9 ?r9
  case y9 => (intro wz hz; have p5 : wz.cell? ⟨q, 5, none⟩ = some (.int .i64 m.plan.crash) := (hz.cell (p := ⟨q, 5, none⟩) HLQ.out).trans e5; have p9 : wz.cell? ⟨q, 9, none⟩ = some (.int .i64 (m.calls + 1)) := (hz.cell (p := ⟨q, 9, none⟩) HLQ.out).trans e9; go_simp; try with_reducible rfl)
  (try simp only [Act.put, List.setIfInBounds_toArray, List.set_cons_zero, List.set_cons_succ])
  refine PlanO.take (v := ?v10) (by kernel_rfl) ?y10 ?r10
  case y10 => (intro wz hz; have p5 : wz.cell? ⟨q, 5, none⟩ = some (.int .i64 m.plan.crash) := (hz.cell (p := ⟨q, 5, none⟩) HLQ.out).trans e5; have p9 : wz.cell? ⟨q, 9, none⟩ = some (.int .i64 (m.calls + 1)) := (hz.cell (p := ⟨q, 9, none⟩) HLQ.out).trans e9; go_simp; try with_reducible rfl)
  (try simp only [Act.put, List.setIfInBounds_toArray, List.set_cons_zero, List.set_cons_succ])
  refine PlanO.take (v := ?v11) (by kernel_rfl) ?y11 ?r11
  case y11 => (intro wz hz; have p5 : wz.cell? ⟨q, 5, none⟩ = some (.int .i64 m.plan.crash) := (hz.cell (p := ⟨q, 5, none⟩) HLQ.out).trans e5; have p9 : wz.cell? ⟨q, 9, none⟩ = some (.int .i64 (m.calls + 1)) := (hz.cell (p := ⟨q, 9, none⟩) HLQ.out).trans e9; go_simp; try with_reducible rfl)
  (try simp only [Act.put, List.setIfInBounds_toArray, List.set_cons_zero, List.set_cons_succ])
  refine PlanO.take (v := ?v12) (by kernel_rfl) ?y12 ?r12
  case y12 => (intro wz hz; have p5 : wz.cell? ⟨q, 5, none⟩ = some (.int .i64 m.plan.crash) := (hz.cell (p := ⟨q, 5, none⟩) HLQ.out).trans e5; have p9 : wz.cell? ⟨q, 9, none⟩ = some (.int .i64 (m.calls + 1)) := (hz.cell (p := ⟨q, 9, none⟩) HLQ.out).trans e9; go_simp; try with_reducible rfl)
  (try simp only [Act.put, List.setIfInBounds_toArray, List.set_cons_zero, List.set_cons_succ])
  refine PlanO.take (v := ?v13) (by kernel_rfl) ?y13 ?r13
  case y13 => (intro wz hz; have p5 : wz.cell? ⟨q, 5, none⟩ = some (.int .i64 m.plan.crash) := (hz.cell (p := ⟨q, 5, none⟩) HLQ.out).trans e5; have p9 : wz.cell? ⟨q, 9, none⟩ = some (.int .i64 (m.calls + 1)) := (hz.cell (p := ⟨q, 9, none⟩) HLQ.out).trans e9; go_simp; try with_reducible rfl)
  (try simp only [Act.put, List.setIfInBounds_toArray, List.set_cons_zero, List.set_cons_succ])
  refine PlanO.take (v := ?v14) (by kernel_rfl) ?y14 ?r14
  case y14 => (intro wz hz; have p5 : wz.cell? ⟨q, 5, none⟩ = some (.int .i64 m.plan.crash) := (hz.cell (p := ⟨q, 5, none⟩) HLQ.out).trans e5; have p9 : wz.cell? ⟨q, 9, none⟩ = some (.int .i64 (m.calls + 1)) := (hz.cell (p := ⟨q, 9, none⟩) HLQ.out).trans e9; go_simp; try with_reducible rfl)
  (try simp only [Act.put, List.setIfInBounds_toArray, List.set_cons_zero, List.set_cons_succ])
  refine PlanO.take (v := ?v15) (by kernel_rfl) ?y15 ?r15
  case y15 => (intro wz hz; have p5 : wz.cell? ⟨q, 5, none⟩ = some (.int .i64 m.plan.crash) := (hz.cell (p := ⟨q, 5, none⟩) HLQ.out).trans e5; have p9 : wz.cell? ⟨q, 9, none⟩ = some (.int .i64 (m.calls + 1)) := (hz.cell (p := ⟨q, 9, none⟩) HLQ.out).trans e9; go_simp; try with_reducible rfl)
  (try simp only [Act.put, List.setIfInBounds_toArray, List.set_cons_zero, List.set_cons_succ])
  refine PlanO.take (v := ?v16) (by kernel_rfl) ?y16 ?r16
  case y16 => (intro wz hz; have p5 : wz.cell? ⟨q, 5, none⟩ = some (.int .i64 m.plan.crash) := (hz.cell (p := ⟨q, 5, none⟩) HLQ.out).trans e5; have p9 : wz.cell? ⟨q, 9, none⟩ = some (.int .i64 (m.calls + 1)) := (hz.cell (p := ⟨q, 9, none⟩) HLQ.out).trans e9; go_simp; try with_reducible rfl)
  (try simp only [Act.put, List.setIfInBounds_toArray, List.set_cons_zero, List.set_cons_succ])
  refine PlanO.take (v := ?v17) (by kernel_rfl) ?y17 ?r17
  case y17 => (intro wz hz; have p5 : wz.cell? ⟨q, 5, none⟩ = some (.int .i64 m.plan.crash) := (hz.cell (p := ⟨q, 5, none⟩) HLQ.out).trans e5; have p9 : wz.cell? ⟨q, 9, none⟩ = some (.int .i64 (m.calls + 1)) := (hz.cell (p := ⟨q, 9, none⟩) HLQ.out).trans e9; go_simp; try with_reducible rfl)
  (try simp only [Act.put, List.setIfInBounds_toArray, List.set_cons_zero, List.set_cons_succ])
  refine PlanO.done (NoPanic.normal ?_)
  go_wp2
  go_ret2
  refine ⟨?_, ?_, ?_⟩
  · simp [DM.is, DM.err, HLV.out]
  · exact H.out.scal HK.out.drew (H1.out.trans (by simp [docCells, DM.counted, HLV.out, HD.out])) rfl rfl rfl rfl
  · exact HK.out.drew

set_option maxRecDepth 100000 in
set_option maxHeartbeats 4000000 in
set_option linter.unusedSimpArgs false in
theorem dcount_last {o : Nat → DR} {v : DV} {gs : List GD} (w : World) (q : Nat) (m : DM) (h : DocAt o v gs w q m) (hc0 : 0 ≤ m.calls) (hcl : m.calls < 1000000000000) (hd : m.down = false) (hp : 1 ≤ m.plan.crash) (hne : m.calls + 1 = m.plan.crash) (hlv : m.live = false) :
    Calls Try.prog 65 #[.pointer (some ⟨q, 0, none⟩)] w fun e w' => e = .returned (.tuple #[.bool m.is, .int .i64 (m.err : Int)]) ∧ DocAt o v gs w' q m.counted ∧ Kept (fun k => k < w.heap.size ∧ k ≠ q) w w' := by
  obtain ⟨w1, hw1⟩ : ∃ w1, w1 = w.setCell ⟨q, 9, none⟩ (.int .i64 (m.calls + 1)) := ⟨_, rfl⟩
  have h1 : w1.heap[q]? = some (.cells (docCells v { m with calls := m.calls + 1 }) 56 (0, 0)) := by
    subst hw1
    exact (blk_set (i := 9) h.blk (.int .i64 (m.calls + 1))).trans (by simp [docCells])
  have hk1 : Kept (fun j => j < w.heap.size ∧ j ≠ q) w w1 := by subst hw1; exact (Kept.refl _ w).setCell (fun h => h.2 rfl) _
  have hs1 : w1.heap.size = w.heap.size := by subst hw1; simp [World.setCell]
  have d9 : w.cell? ⟨q, 9, none⟩ = some (.int .i64 m.calls) := blk_cell h.blk
  have f9 : w.frozen? ⟨q, 9, none⟩ = false := blk_free h.blk
  have e5 : w1.cell? ⟨q, 5, none⟩ = some (.int .i64 m.plan.crash) := blk_cell h1
  have e6 : w1.cell? ⟨q, 6, none⟩ = some (.bool m.plan.done) := blk_cell h1
  have e9 : w1.cell? ⟨q, 9, none⟩ = some (.int .i64 (m.calls + 1)) := blk_cell h1
  have e10 : w1.cell? ⟨q, 10, none⟩ = some (.bool m.down) := blk_cell h1
  have g10 : w1.frozen? ⟨q, 10, none⟩ = false := blk_free h1
  have HW1 := Lib.hid hw1
  have H := Lib.hid h
  have H1 := Lib.hid h1
  have HK := Lib.hid hk1
  have HD := Lib.hid hd
  have HLQ := Lib.hid (show q < w1.heap.size by rw [hs1]; exact h.lt q (by rw [h.rol]; decide))
  have HLV := Lib.hid hlv
  have hpd : decide (m.plan.crash < 1) = false := by simp; omega
  have hnb : ((m.calls + 1 : Int) == m.plan.crash) = true := by simpa using hne
  clear hne
  
  clear hw1 h h1 hk1 hs1 hd
  go_enter Try.func65, Try.ntmps65
  go_upto_region 2 with (fail)
  rw [← HW1.out]
  refine wp_region_plan [(true, 0), (true, 1), (true, 2), (true, 3), (true, 4), (true, 5), (true, 6), (true, 7), (true, 8), (true, 9), (true, 10), (true, 11), (true, 12), (true, 13), (true, 14), (true, 15), (true, 16), (true, 17)] (by kernel_rfl) (by kernel_rfl) (by kernel_rfl) (by kernel_rfl) (by kernel_rfl) ?_
  simp only [planO, List.drop_succ_cons, List.drop_zero]
  refine PlanO.take (v := ?v0) (by kernel_rfl) ?y0 ?r0
  case y0 => (intro wz hz; have p5 : wz.cell? ⟨q, 5, none⟩ = some (.int .i64 m.plan.crash) := (hz.cell (p := ⟨q, 5, none⟩) HLQ.out).trans e5; have p9 : wz.cell? ⟨q, 9, none⟩ = some (.int .i64 (m.calls + 1)) := (hz.cell (p := ⟨q, 9, none⟩) HLQ.out).trans e9; go_simp; try with_reducible rfl)
  (try simp only [Act.put, List.setIfInBounds_toArray, List.set_cons_zero, List.set_cons_succ])
  refine PlanO.take (v := ?v1) (by kernel_rfl) ?y1 ?r1
  case y1 => (intro wz hz; have p5 : wz.cell? ⟨q, 5, none⟩ = some (.int .i64 m.plan.crash) := (hz.cell (p := ⟨q, 5, none⟩) HLQ.out).trans e5; have p9 : wz.cell? ⟨q, 9, none⟩ = some (.int .i64 (m.calls + 1)) := (hz.cell (p := ⟨q, 9, none⟩) HLQ.out).trans e9; go_simp; try with_reducible rfl)
  (try simp only [Act.put, List.setIfInBounds_toArray, List.set_cons_zero, List.set_cons_succ])
  refine PlanO.take (v := ?v2) (by kernel_rfl) ?y2 ?r2
  case y2 => (intro wz hz; have p5 : wz.cell? ⟨q, 5, none⟩ = some (.int .i64 m.plan.crash) := (hz.cell (p := ⟨q, 5, none⟩) HLQ.out).trans e5; have p9 : wz.cell? ⟨q, 9, none⟩ = some (.int .i64 (m.calls + 1)) := (hz.cell (p := ⟨q, 9, none⟩) HLQ.out).trans e9; go_simp; try with_reducible rfl)
  (try simp only [Act.put, List.setIfInBounds_toArray, List.set_cons_zero, List.set_cons_succ])
  refine PlanO.take (v := ?v3) (by kernel_rfl) ?y3 ?r3
  case y3 => (intro wz hz; have p5 : wz.cell? ⟨q, 5, none⟩ = some (.int .i64 m.plan.crash) := (hz.cell (p := ⟨q, 5, none⟩) HLQ.out).trans e5; have p9 : wz.cell? ⟨q, 9, none⟩ = some (.int .i64 (m.calls + 1)) := (hz.cell (p := ⟨q, 9, none⟩) HLQ.out).trans e9; go_simp; try with_reducible rfl)
  (try simp only [Act.put, List.setIfInBounds_toArray, List.set_cons_zero, List.set_cons_succ])
  refine PlanO.take (v := ?v4) (by kernel_rfl) ?y4 ?r4
  case y4 => (intro wz hz; have p5 : wz.cell? ⟨q, 5, none⟩ = some (.int .i64 m.plan.crash) := (hz.cell (p := ⟨q, 5, none⟩) HLQ.out).trans e5; have p9 : wz.cell? ⟨q, 9, none⟩ = some (.int .i64 (m.calls + 1)) := (hz.cell (p := ⟨q, 9, none⟩) HLQ.out).trans e9; go_simp; try with_reducible rfl)
  (try simp only [Act.put, List.setIfInBounds_toArray, List.set_cons_zero, List.set_cons_succ])
  refine PlanO.take (v := ?v5) (by kernel_rfl) ?y5 ?r5
  case y5 => (intro wz hz; have p5 : wz.cell? ⟨q, 5, none⟩ = some (.int .i64 m.plan.crash) := (hz.cell (p := ⟨q, 5, none⟩) HLQ.out).trans e5; have p9 : wz.cell? ⟨q, 9, none⟩ = some (.int .i64 (m.calls + 1)) := (hz.cell (p := ⟨q, 9, none⟩) HLQ.out).trans e9; go_simp; try with_reducible rfl)
  (try simp only [Act.put, List.setIfInBounds_toArray, List.set_cons_zero, List.set_cons_succ])
  refine PlanO.take (v := ?v6) (by kernel_rfl) ?y6 ?r6
  case y6 => (intro wz hz; have p5 : wz.cell? ⟨q, 5, none⟩ = some (.int .i64 m.plan.crash) := (hz.cell (p := ⟨q, 5, none⟩) HLQ.out).trans e5; have p9 : wz.cell? ⟨q, 9, none⟩ = some (.int .i64 (m.calls + 1)) := (hz.cell (p := ⟨q, 9, none⟩) HLQ.out).trans e9; go_simp; try with_reducible rfl)
  (try simp only [Act.put, List.setIfInBounds_toArray, List.set_cons_zero, List.set_cons_succ])
  refine PlanO.take (v := ?v7) (by kernel_rfl) ?y7 ?r7
  case y7 => (intro wz hz; have p5 : wz.cell? ⟨q, 5, none⟩ = some (.int .i64 m.plan.crash) := (hz.cell (p := ⟨q, 5, none⟩) HLQ.out).trans e5; have p9 : wz.cell? ⟨q, 9, none⟩ = some (.int .i64 (m.calls + 1)) := (hz.cell (p := ⟨q, 9, none⟩) HLQ.out).trans e9; go_simp; try with_reducible rfl)
  (try simp only [Act.put, List.setIfInBounds_toArray, List.set_cons_zero, List.set_cons_succ])
  refine PlanO.take (v := ?v8) (by kernel_rfl) ?y8 ?r8
  case y8 => (intro wz hz; have p5 : wz.cell? ⟨q, 5, none⟩ = some (.int .i64 m.plan.crash) := (hz.cell (p := ⟨q, 5, none⟩) HLQ.out).trans e5; have p9 : wz.cell? ⟨q, 9, none⟩ = some (.int .i64 (m.calls + 1)) := (hz.cell (p := ⟨q, 9, none⟩) HLQ.out).trans e9; go_simp; try with_reducible rfl)
  (try simp only [Act.put, List.setIfInBounds_toArray, List.set_cons_zero, List.set_cons_succ])
  refine PlanO.take (v := ?v9) (by kernel_rfl) ?y9 ?r9
  case y9 => (intro wz hz; have p5 : wz.cell? ⟨q, 5, none⟩ = some (.int .i64 m.plan.crash) := (hz.cell (p := ⟨q, 5, none⟩) HLQ.out).trans e5; have p9 : wz.cell? ⟨q, 9, none⟩ = some (.int .i64 (m.calls + 1)) := (hz.cell (p := ⟨q, 9, none⟩) HLQ.out).trans e9; go_simp; try with_reducible rfl)
  (try simp only [Act.put, List.setIfInBounds_toArray, List.set_cons_zero, List.set_cons_succ])
  refine PlanO.take (v := ?v10) (by kernel_rfl) ?y10 ?r10
  case y10 => (intro wz hz; have p5 : wz.cell? ⟨q, 5, none⟩ = some (.int .i64 m.plan.crash) := (hz.cell (p := ⟨q, 5, none⟩) HLQ.out).trans e5; have p9 : wz.cell? ⟨q, 9, none⟩ = some (.int .i64 (m.calls + 1)) := (hz.cell (p := ⟨q, 9, none⟩) HLQ.out).trans e9; go_simp; try with_reducible rfl)
  (try simp only [Act.put, List.setIfInBounds_toArray, List.set_cons_zero, List.set_cons_succ])
  refine PlanO.take (v := ?v11) (by kernel_rfl) ?y11 ?r11
  case y11 => (intro wz hz; have p5 : wz.cell? ⟨q, 5, none⟩ = some (.int .i64 m.plan.crash) := (hz.cell (p := ⟨q, 5, none⟩) HLQ.out).trans e5; have p9 : wz.cell? ⟨q, 9, none⟩ = some (.int .i64 (m.calls + 1)) := (hz.cell (p := ⟨q, 9, none⟩) HLQ.out).trans e9; go_simp; try with_reducible rfl)
  (try simp only [Act.put, List.setIfInBounds_toArray, List.set_cons_zero, List.set_cons_succ])
  refine PlanO.take (v := ?v12) (by kernel_rfl) ?y12 ?r12
  case y12 => (intro wz hz; have p5 : wz.cell? ⟨q, 5, none⟩ = some (.int .i64 m.plan.crash) := (hz.cell (p := ⟨q, 5, none⟩) HLQ.out).trans e5; have p9 : wz.cell? ⟨q, 9, none⟩ = some (.int .i64 (m.calls + 1)) := (hz.cell (p := ⟨q, 9, none⟩) HLQ.out).trans e9; go_simp; try with_reducible rfl)
  (try simp only [Act.put, List.setIfInBounds_toArray, List.set_cons_zero, List.set_cons_succ])
  refine PlanO.take (v := ?v13) (by kernel_rfl) ?y13 ?r13
  case y13 => (intro wz hz; have p5 : wz.cell? ⟨q, 5, none⟩ = some (.int .i64 m.plan.crash) := (hz.cell (p := ⟨q, 5, none⟩) HLQ.out).trans e5; have p9 : wz.cell? ⟨q, 9, none⟩ = some (.int .i64 (m.calls + 1)) := (hz.cell (p := ⟨q, 9, none⟩) HLQ.out).trans e9; go_simp; try with_reducible rfl)
  (try simp only [Act.put, List.setIfInBounds_toArray, List.set_cons_zero, List.set_cons_succ])
  refine PlanO.take (v := ?v14) (by kernel_rfl) ?y14 ?r14
  case y14 => (intro wz hz; have p5 : wz.cell? ⟨q, 5, none⟩ = some (.int .i64 m.plan.crash) := (hz.cell (p := ⟨q, 5, none⟩) HLQ.out).trans e5; have p9 : wz.cell? ⟨q, 9, none⟩ = some (.int .i64 (m.calls + 1)) := (hz.cell (p := ⟨q, 9, none⟩) HLQ.out).trans e9; go_simp; try with_reducible rfl)
  (try simp only [Act.put, List.setIfInBounds_toArray, List.set_cons_zero, List.set_cons_succ])
  refine PlanO.take (v := ?v15) (by kernel_rfl) ?y15 ?r15
  case y15 => (intro wz hz; have p5 : wz.cell? ⟨q, 5, none⟩ = some (.int .i64 m.plan.crash) := (hz.cell (p := ⟨q, 5, none⟩) HLQ.out).trans e5; have p9 : wz.cell? ⟨q, 9, none⟩ = some (.int .i64 (m.calls + 1)) := (hz.cell (p := ⟨q, 9, none⟩) HLQ.out).trans e9; go_simp; try with_reducible rfl)
  (try simp only [Act.put, List.setIfInBounds_toArray, List.set_cons_zero, List.set_cons_succ])
  refine PlanO.take (v := ?v16) (by kernel_rfl) ?y16 ?r16
  case y16 => (intro wz hz; have p5 : wz.cell? ⟨q, 5, none⟩ = some (.int .i64 m.plan.crash) := (hz.cell (p := ⟨q, 5, none⟩) HLQ.out).trans e5; have p9 : wz.cell? ⟨q, 9, none⟩ = some (.int .i64 (m.calls + 1)) := (hz.cell (p := ⟨q, 9, none⟩) HLQ.out).trans e9; go_simp; try with_reducible rfl)
  (try simp only [Act.put, List.setIfInBounds_toArray, List.set_cons_zero, List.set_cons_succ])
  refine PlanO.take (v := ?v17) (by kernel_rfl) ?y17 ?r17
  case y17 => (intro wz hz; have p5 : wz.cell? ⟨q, 5, none⟩ = some (.int .i64 m.plan.crash) := (hz.cell (p := ⟨q, 5, none⟩) HLQ.out).trans e5; have p9 : wz.cell? ⟨q, 9, none⟩ = some (.int .i64 (m.calls + 1)) := (hz.cell (p := ⟨q, 9, none⟩) HLQ.out).trans e9; go_simp; try with_reducible rfl)
  (try simp only [Act.put, List.setIfInBounds_toArray, List.set_cons_zero, List.set_cons_succ])
  refine PlanO.done (NoPanic.normal ?_)
  have hk2 : Kept (fun k => k < w.heap.size ∧ k ≠ q) w (w1.drew.setCell ⟨q, 10, none⟩ (.bool true)) := HK.out.drew.setCell (fun h => h.2 rfl) _
  have h2 : (w1.drew.setCell ⟨q, 10, none⟩ (.bool true)).heap[q]? = some (.cells (docCells v m.counted) 56 (0, 0)) := (blk_set (w := w1.drew) (i := 10) H1.out (.bool true)).trans (by simp [docCells, DM.counted, HLV.out])
  have e6' : (w1.drew.setCell ⟨q, 10, none⟩ (.bool true)).cell? ⟨q, 6, none⟩ = some (.bool m.plan.done) := blk_cell h2
  have g10' : w1.drew.frozen? ⟨q, 10, none⟩ = false := g10
  have HK2 := Lib.hid hk2
  have H2 := Lib.hid h2
  clear hk2 h2
  go_wp2
  go_ret2
  refine ⟨?_, ?_, ?_⟩
  · simp [DM.is, DM.err, HLV.out]
  · exact H.out.scal HK2.out H2.out rfl rfl rfl rfl
  · exact HK2.out

theorem dcount_any {o : Nat → DR} {v : DV} {gs : List GD} (w : World) (q : Nat) (m : DM) (h : DocAt o v gs w q m) (hc0 : 0 ≤ m.calls) (hcl : m.calls < 1000000000000) (hd : m.down = false) :
    Calls Try.prog 65 #[.pointer (some ⟨q, 0, none⟩)] w fun e w' => e = .returned (.tuple #[.bool m.is, .int .i64 (m.err : Int)]) ∧ DocAt o v gs w' q m.counted ∧ Kept (fun k => k < w.heap.size ∧ k ≠ q) w w' := by
  by_cases hp : m.plan.crash < 1
  · exact dcount_up0 w q m h hc0 hcl hd hp (by simp [DM.live, hp])
  · by_cases hne : m.calls + 1 = m.plan.crash
    · exact dcount_last w q m h hc0 hcl hd (by omega) hne (by simp [DM.live, hp, hne])
    · exact dcount_up1 w q m h hc0 hcl hd (by omega) hne (by simp [DM.live, hne])
end Go.Proofs.Ytfeogoihkpclcaa
