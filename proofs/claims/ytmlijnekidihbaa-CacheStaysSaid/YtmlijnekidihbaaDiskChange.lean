/-
  A change of names that is loose (what 'change' of a disk does).
-/
import Derived.Test.YtmlijnekidihbaaDiskAt
namespace Go.Proofs.Ytmlijnekidihbaa
open Go.RowKit

set_option maxRecDepth 100000 in
set_option maxHeartbeats 4000000 in
set_option linter.unusedSimpArgs false in
theorem change_at {g : Gh} {w : World} {p : Nat} {d : PD} (h : DiskAt g w p d) (c : PC) (hc : ChOk c) (hok : NmOk d) (hl : d.loose.length < 100000) :
    Calls Try.prog 67 #[.pointer (some ⟨p, 0, none⟩), .agg #[.int .i64 (c.kind : Int), .string (strB c.src), .string (strB c.dst), .int .i64 (c.file : Int)]] w fun e w' => e = .returned (.tuple #[]) ∧ ∃ g', DiskAt g' w' p { d with names := ren d.names c, loose := d.loose ++ [c] } ∧ Step g g' w w' ∧ g'.l = g.l ∧ g'.fv = g.fv := by
  have hp := blk_lt h.blk
  obtain ⟨w1, hw1⟩ : ∃ w1, w1 = (w.alloc (.cells #[.int .i64 (c.kind : Int), .string (strB c.src), .string (strB c.dst), .int .i64 (c.file : Int)] 72)).drew := ⟨_, rfl⟩
  have hbel : Below w.heap.size w w1 := by subst hw1; exact ((Below.refl _ _).alloc (Nat.le_refl _) _).drew
  have h1 : w1.heap[p]? = some (.cells (dCells g d) 60 (0, 0)) := (hbel.block p hp).trans h.blk
  have hx : w1.heap[w.heap.size]? = some (.cells #[.int .i64 (c.kind : Int), .string (strB c.src), .string (strB c.dst), .int .i64 (c.file : Int)] 72 (0, 0)) := by subst hw1; exact heap_alloc_new w _
  have hlp : g.lv.ownBlock ≠ some p := fun e => by have := h.ol p e; rw [h.rol] at this; cases this
  have hlB : g.lv.ownBlock ≠ some w.heap.size := fun e => by have := own_lt h.lr _ e; omega
  have hne : ¬ w.heap.size = p := by omega
  have hne' : ¬ p = w.heap.size := by omega
  have hs1 : w.heap.size < w1.heap.size := blk_lt hx
  obtain ⟨la, lcap, hlv, _, _⟩ := rd_of_own h.lr
  have Hlv := Lib.hid hlv
  have HD := Lib.hid h
  have Hw1 := Lib.hid hw1
  have H1 := Lib.hid h1
  have HX := Lib.hid hx
  have HBEL := Lib.hid hbel
  have HC := Lib.hid hc
  have HOK := Lib.hid hok
  clear hw1 h1 hx h hbel hlv hc hok
  go_enter Try.func67, Try.ntmps67
  go_wp2
  refine wp_region_two (fun wz => wz.heap[p]? = some (.cells (dCells g d) 60 (0, 0)) ∧ wz.heap[w.heap.size]? = some (.cells #[.int .i64 (c.kind : Int), .string (strB c.src), .string (strB c.dst), .int .i64 (c.file : Int)] 72 (0, 0))) (fun _ => True) [(1, 0), (0, 1), (0, 2), (0, 3), (0, 4), (0, 5), (2, 6), (3, 7), (1, 8), (1, 9), (3, 10)] [7, 10] (by kernel_rfl) (by kernel_rfl) (by kernel_rfl) (by kernel_rfl) (by kernel_rfl) (by rw [← Hw1.out]; exact ⟨H1.out, HX.out⟩) trivial ?_
  simp only [planT, List.drop_succ_cons, List.drop_zero]
  rw [← Hw1.out]
  refine PlanT.take1 (v := ?v0) (by kernel_rfl) ?y0 ?r0
  case y0 => (intro wz hz; go_simp; try with_reducible rfl)
  (try simp only [Act.put, List.setIfInBounds_toArray, List.set_cons_zero, List.set_cons_succ])
  refine PlanT.take0 (v := ?v1) (by kernel_rfl) ?y1 ?r1
  case y1 => (intro wz hz; obtain ⟨z1, z2⟩ := hz; have q8 : wz.cell? ⟨p, 8, none⟩ = some g.lv := blk_cell z1; have b0 : wz.cell? ⟨w.heap.size, 0, none⟩ = some (.int .i64 (c.kind : Int)) := blk_cell z2; have b1 : wz.cell? ⟨w.heap.size, 1, none⟩ = some (.string (strB c.src)) := blk_cell z2; have b2 : wz.cell? ⟨w.heap.size, 2, none⟩ = some (.string (strB c.dst)) := blk_cell z2; have b3 : wz.cell? ⟨w.heap.size, 3, none⟩ = some (.int .i64 (c.file : Int)) := blk_cell z2; clear z1 z2; go_simp; try with_reducible rfl)
  (try simp only [Act.put, List.setIfInBounds_toArray, List.set_cons_zero, List.set_cons_succ])
  refine PlanT.take0 (v := ?v2) (by kernel_rfl) ?y2 ?r2
  case y2 => (intro wz hz; obtain ⟨z1, z2⟩ := hz; have q8 : wz.cell? ⟨p, 8, none⟩ = some g.lv := blk_cell z1; have b0 : wz.cell? ⟨w.heap.size, 0, none⟩ = some (.int .i64 (c.kind : Int)) := blk_cell z2; have b1 : wz.cell? ⟨w.heap.size, 1, none⟩ = some (.string (strB c.src)) := blk_cell z2; have b2 : wz.cell? ⟨w.heap.size, 2, none⟩ = some (.string (strB c.dst)) := blk_cell z2; have b3 : wz.cell? ⟨w.heap.size, 3, none⟩ = some (.int .i64 (c.file : Int)) := blk_cell z2; clear z1 z2; go_simp; try with_reducible rfl)
  (try simp only [Act.put, List.setIfInBounds_toArray, List.set_cons_zero, List.set_cons_succ])
  refine PlanT.take0 (v := ?v3) (by kernel_rfl) ?y3 ?r3
  case y3 => (intro wz hz; obtain ⟨z1, z2⟩ := hz; have q8 : wz.cell? ⟨p, 8, none⟩ = some g.lv := blk_cell z1; have b0 : wz.cell? ⟨w.heap.size, 0, none⟩ = some (.int .i64 (c.kind : Int)) := blk_cell z2; have b1 : wz.cell? ⟨w.heap.size, 1, none⟩ = some (.string (strB c.src)) := blk_cell z2; have b2 : wz.cell? ⟨w.heap.size, 2, none⟩ = some (.string (strB c.dst)) := blk_cell z2; have b3 : wz.cell? ⟨w.heap.size, 3, none⟩ = some (.int .i64 (c.file : Int)) := blk_cell z2; clear z1 z2; go_simp; try with_reducible rfl)
  (try simp only [Act.put, List.setIfInBounds_toArray, List.set_cons_zero, List.set_cons_succ])
  refine PlanT.take0 (v := ?v4) (by kernel_rfl) ?y4 ?r4
  case y4 => (intro wz hz; obtain ⟨z1, z2⟩ := hz; have q8 : wz.cell? ⟨p, 8, none⟩ = some g.lv := blk_cell z1; have b0 : wz.cell? ⟨w.heap.size, 0, none⟩ = some (.int .i64 (c.kind : Int)) := blk_cell z2; have b1 : wz.cell? ⟨w.heap.size, 1, none⟩ = some (.string (strB c.src)) := blk_cell z2; have b2 : wz.cell? ⟨w.heap.size, 2, none⟩ = some (.string (strB c.dst)) := blk_cell z2; have b3 : wz.cell? ⟨w.heap.size, 3, none⟩ = some (.int .i64 (c.file : Int)) := blk_cell z2; clear z1 z2; go_simp; try with_reducible rfl)
  (try simp only [Act.put, List.setIfInBounds_toArray, List.set_cons_zero, List.set_cons_succ])
  refine PlanT.take0 (v := ?v5) (by kernel_rfl) ?y5 ?r5
  case y5 => (intro wz hz; obtain ⟨z1, z2⟩ := hz; have q8 : wz.cell? ⟨p, 8, none⟩ = some g.lv := blk_cell z1; have b0 : wz.cell? ⟨w.heap.size, 0, none⟩ = some (.int .i64 (c.kind : Int)) := blk_cell z2; have b1 : wz.cell? ⟨w.heap.size, 1, none⟩ = some (.string (strB c.src)) := blk_cell z2; have b2 : wz.cell? ⟨w.heap.size, 2, none⟩ = some (.string (strB c.dst)) := blk_cell z2; have b3 : wz.cell? ⟨w.heap.size, 3, none⟩ = some (.int .i64 (c.file : Int)) := blk_cell z2; clear z1 z2; go_simp; try with_reducible rfl)
  (try simp only [Act.put, List.setIfInBounds_toArray, List.set_cons_zero, List.set_cons_succ])
  refine PlanT.exec2 (fun K hK => ⟨by kernel_rfl, ?_⟩)
  go_simp
  have hs2 : (w1.alloc (.cells #[.int .i64 (c.kind : Int), .string (strB c.src), .string (strB c.dst), .int .i64 (c.file : Int)] 72)).heap.size = w1.heap.size + 1 := by simp
  have hb2 := (Below.heap_alloc w1 (.cells #[.int .i64 (c.kind : Int), .string (strB c.src), .string (strB c.dst), .int .i64 (c.file : Int)] 72) p (blk_lt H1.out)).trans H1.out
  have hx2 := (Below.heap_alloc w1 (.cells #[.int .i64 (c.kind : Int), .string (strB c.src), .string (strB c.dst), .int .i64 (c.file : Int)] 72) w.heap.size (blk_lt HX.out)).trans HX.out
  have HS2 := Lib.hid hs2
  clear hs2
  refine hK.out _ _ ⟨hb2, hx2⟩ trivial ?_
  clear hK K
  (try simp only [Act.put, List.setIfInBounds_toArray, List.set_cons_zero, List.set_cons_succ])
  refine PlanT.exec3 (fun K hK => ⟨by kernel_rfl, ?_⟩)
  refine wp_append_at (.tmp 8) (.tmp 10) 58 rfl 72 4 48 (.agg #[.int .i64 0, .string ⟨#[]⟩, .string ⟨#[]⟩, .int .i64 0]) Try.underlying58 info_change rfl (by decide) g.lv _ d.loose.length 1 (chCells d.loose) (chCells [c]) rfl rfl ?own ?rd (ch_one _) (by omega) (by unfold maxLen; omega) ?_
  case own => exact own_kept HD.out.lr (R := fun k => k < w.heap.size) (Kept.of (HBEL.out.alloc (by have := HBEL.out.size; omega) _) fun _ h => h) fun k e => own_lt HD.out.lr k e
  case rd => exact ⟨_, 1, rfl, Nat.le_refl _, by unfold maxLen; omega, rfl, .inr ⟨w1.heap.size, 0, rfl, by simp, fun j u hj => by rw [blk_cell (heap_alloc_new w1 _)]; simpa [chCells] using hj⟩⟩
  intro v2 w2 ho2 hm2
  obtain ⟨av2, cv2, hv2, _, _⟩ := rd_of_own ho2
  subst hv2
  have hb3 := (hm2.grown.block p (by have := blk_lt H1.out; simp; omega) (fun e => hlp e.symm)).trans hb2
  have hx3 := (hm2.grown.block w.heap.size (by have := blk_lt HX.out; simp; omega) (fun e => hlB e.symm)).trans hx2
  have c8 : w2.cell? ⟨p, 8, none⟩ = some g.lv := blk_cell hb3
  have f8 : w2.frozen? ⟨p, 8, none⟩ = false := blk_free hb3
  have HM2 := Lib.hid hm2
  have HO2 := Lib.hid ho2
  have HB3 := Lib.hid hb3
  have HX3 := Lib.hid hx3
  have HB2 := Lib.hid hb2
  have HX2 := Lib.hid hx2
  clear hm2 ho2 hb3 hx3 hb2 hx2
  refine hK.out _ _ trivial ?_
  clear hK K
  (try simp only [Act.put, List.setIfInBounds_toArray, List.set_cons_zero, List.set_cons_succ])
  refine PlanT.take1 (v := ?v8) (by kernel_rfl) ?y8 ?r8
  case y8 => (intro wz hz; go_simp; try with_reducible rfl)
  (try simp only [Act.put, List.setIfInBounds_toArray, List.set_cons_zero, List.set_cons_succ])
  refine PlanT.take1 (v := ?v9) (by kernel_rfl) ?y9 ?r9
  case y9 => (intro wz hz; go_simp; try with_reducible rfl)
  (try simp only [Act.put, List.setIfInBounds_toArray, List.set_cons_zero, List.set_cons_succ])
  refine PlanT.exec3 (fun K hK => ⟨by kernel_rfl, ?_⟩)
  go_simp
  refine hK.out _ _ trivial ?_
  clear hK K
  (try simp only [Act.put, List.setIfInBounds_toArray, List.set_cons_zero, List.set_cons_succ])
  refine PlanT.done (NoPanic.normal ?_)
  have c8' := c8
  clear c8'
  obtain ⟨w3, hw3⟩ : ∃ w3, w3 = w2.setCell ⟨p, 8, none⟩ (.slice av2 (d.loose.length + 1) cv2) := ⟨_, rfl⟩
  rw [← hw3]
  have hb4 : w3.heap[p]? = some (.cells (dCells { g with lv := .slice av2 (d.loose.length + 1) cv2 } d) 60 (0, 0)) := by
    subst hw3
    exact (blk_set (i := 8) HB3.out _).trans (by simp [dCells])
  have hx4 : w3.heap[w.heap.size]? = some (.cells #[.int .i64 (c.kind : Int), .string (strB c.src), .string (strB c.dst), .int .i64 (c.file : Int)] 72 (0, 0)) := by
    subst hw3
    exact (Below.heap_setCell _ _ _ _ hne).trans HX3.out
  have hm4 : Moves w w2 g.lv (.slice av2 (d.loose.length + 1) cv2) := Moves.after (HBEL.out.alloc (by have := HBEL.out.size; omega) _) HM2.out
  have hk4 : Kept (fun k => k < w.heap.size ∧ k ≠ p ∧ g.lv.ownBlock ≠ some k) w w3 := by
    subst hw3
    exact (hm4.kept fun k hk => ⟨hk.1, hk.2.2⟩).setCell (fun h => h.2.1 rfl) _
  have hs4 : w3.heap.size = w2.heap.size := by subst hw3; simp [World.setCell]
  have ho4 : w3.ownsRow 0 72 4 (.slice av2 (d.loose.length + 1) cv2) (d.loose ++ [c]).length (chCells (d.loose ++ [c])) := by
    have e1 : chCells (d.loose ++ [c]) = chCells d.loose ++ chCells [c] := by simp [chCells]
    rw [e1, List.length_append]
    subst hw3
    refine own_kept HO2.out (R := fun k => k ≠ p) ((Kept.refl _ w2).setCell (fun h => h rfl) _) fun k e ep => ?_
    subst ep
    rcases hm4.at_ k e with h | h
    · exact hlp h
    · omega
  have hset := HD.out.set_lv _ (d.loose ++ [c]) hk4 hb4 ho4 (fun k e => by rw [hs4]; exact hm4.at_ k e)
  have hren := Lib.hid (rename_at hset.1 c HC.out ⟨HOK.out.n, HOK.out.ids⟩)
  have HST := Lib.hid hset.2
  have b0 : w3.cell? ⟨w.heap.size, 0, none⟩ = some (.int .i64 (c.kind : Int)) := blk_cell hx4
  have b1 : w3.cell? ⟨w.heap.size, 1, none⟩ = some (.string (strB c.src)) := blk_cell hx4
  have b2 : w3.cell? ⟨w.heap.size, 2, none⟩ = some (.string (strB c.dst)) := blk_cell hx4
  have b3 : w3.cell? ⟨w.heap.size, 3, none⟩ = some (.int .i64 (c.file : Int)) := blk_cell hx4
  clear hset ho4 hs4 hk4 hm4 hx4 hb4 hw3 c8 f8
  go_wp2_with (go_at_call 32; refine hren.out.mono ?_; rintro e w5 ⟨rfl, g5, hd5, hst5, hl5, hfv5, _⟩)
  go_end0
  exact ⟨rfl, g5, hd5, HST.out.trans hst5, hl5, hfv5⟩
end Go.Proofs.Ytmlijnekidihbaa
