/-
  What the calls that change do, once they are counted: Make, Write, Safe, Move, Gone.
-/
import Derived.Test.YtkobjbjakgfhcaaDiskSetFile
import Derived.Deep.RegionHeld
namespace Go.Proofs.Ytkobjbjakgfhcaa
open Go.RowKit

theorem gf_new_one (g : Gh) : ∀ u ∈ gfCells [g.newF], u.oneCell' = true := by
  intro u hu
  simp [gfCells, Gh.newF] at hu
  subst hu
  rfl

/-- What holds of a disk's sizes. -/
structure Small (d : PD) : Prop where
  files : d.files.length < 10000
  loose : d.loose.length < 10000
  names : d.names.length < 10000
  safe : d.safe.length < 10000
  calls : d.calls < 10000
  idn : ∀ x ∈ d.names, x.2 < d.files.length
  ids : ∀ x ∈ d.safe, x.2 < d.files.length
  ch : ∀ c ∈ d.loose, ChOk c
  fl : ∀ f ∈ d.files, f.safe.length < 2000000 ∧ f.now.length < 2000000 ∧ f.loose.length < 10000 ∧ manyL f.loose < 900000000 ∧ WOk f.safe f.loose ∧ ∀ left, (kept f.loose left f.safe).length < 2000000
  nml : ∀ x ∈ d.names, x.1.length < 1000
  sml : ∀ x ∈ d.safe, x.1.length < 1000

theorem Small.nm {d : PD} (h : Small d) : NmOk d := ⟨by have := h.names; omega, fun x hx => by have := h.idn x hx; have := h.files; omega⟩

def PD.makes (d : PD) (n : List UInt8) : PD := { d with files := d.files ++ [PF.new], names := ren d.names ⟨0, [], n, d.files.length⟩, loose := d.loose ++ [⟨0, [], n, d.files.length⟩] }

set_option maxRecDepth 100000 in
set_option maxHeartbeats 4000000 in
set_option linter.unusedSimpArgs false in
theorem make1_at {g : Gh} {w : World} {p : Nat} {d : PD} (h : DiskAt g w p d) (hsm : Small d) (n : List UInt8) (hn : n.length < 1000) (bd bn : Nat) (hbd : w.cell? ⟨bd, 0, none⟩ = some (.pointer (some ⟨p, 0, none⟩))) (hbn : w.cell? ⟨bn, 0, none⟩ = some (.string (strB n))) (obd : g.o bd = .out) (obn : g.o bn = .out) :
    Calls Try.prog 50 #[.pointer (some ⟨bd, 0, none⟩), .pointer (some ⟨bn, 0, none⟩)] w fun e w' => e = .returned (.tuple #[]) ∧ ∃ g', DiskAt g' w' p (d.makes n) ∧ Step g g' w w' := by
  have hp := blk_lt h.blk
  obtain ⟨w1, hw1⟩ : ∃ w1, w1 = w.drew := ⟨_, rfl⟩
  have hbel : Below w.heap.size w w1 := by subst hw1; exact (Below.refl _ _).drew
  have h1 : w1.heap[p]? = some (.cells (dCells g d) 54 (0, 0)) := (hbel.block p hp).trans h.blk
  have hc1 : w1.cell? ⟨bd, 0, none⟩ = some (.pointer (some ⟨p, 0, none⟩)) := by subst hw1; exact hbd
  have hc1n : w1.cell? ⟨bn, 0, none⟩ = some (.string (strB n)) := by subst hw1; exact hbn
  have hfp : g.fv.ownBlock ≠ some p := fun e => by have := h.of p e; rw [h.rol] at this; cases this
  have hfbd : g.fv.ownBlock ≠ some bd := fun e => by have := h.of bd e; rw [obd] at this; cases this
  have hfbn : g.fv.ownBlock ≠ some bn := fun e => by have := h.of bn e; rw [obn] at this; cases this
  have hpbd : p ≠ bd := fun e => by subst e; rw [h.rol] at obd; cases obd
  have hpbn : p ≠ bn := fun e => by subst e; rw [h.rol] at obn; cases obn
  have hlen : g.l.length = d.files.length := by rw [h.fl, List.length_map]
  have hl : g.l.length < 10000 := by rw [hlen]; exact hsm.files
  obtain ⟨fa, fcap, hfv, _, _⟩ := rd_of_own h.fr
  have Hfv := Lib.hid hfv
  have HD := Lib.hid h
  have Hw1 := Lib.hid hw1
  have H1 := Lib.hid h1
  have HC1 := Lib.hid hc1
  have HC1n := Lib.hid hc1n
  have HBEL := Lib.hid hbel
  have HSM := Lib.hid hsm
  have HL := Lib.hid hl
  have HLEN := Lib.hid hlen
  have HBD := Lib.hid hbd
  have HBN := Lib.hid hbn
  clear hw1 h1 hc1 hc1n h hbel hfv hsm hl hlen hbd hbn
  go_enter Try.func50, Try.ntmps50
  go_wp2
  refine wp_region_two (fun wz => wz.heap[p]? = some (.cells (dCells g d) 54 (0, 0)) ∧ wz.cell? ⟨bd, 0, none⟩ = some (.pointer (some ⟨p, 0, none⟩))) (fun wz => wz.cell? ⟨bd, 0, none⟩ = some (.pointer (some ⟨p, 0, none⟩))) [(1, 0), (0, 1), (0, 2), (0, 3), (0, 4), (0, 5), (2, 6), (3, 7), (1, 8), (1, 9), (3, 10)] [7, 10] (by kernel_rfl) (by kernel_rfl) (by kernel_rfl) (by kernel_rfl) (by kernel_rfl) (by rw [← Hw1.out]; exact ⟨H1.out, HC1.out⟩) (by rw [← Hw1.out]; exact HC1.out) ?_
  simp only [planT, List.drop_succ_cons, List.drop_zero]
  rw [← Hw1.out]
  refine PlanT.take1 (v := ?v0) (by kernel_rfl) ?y0 ?r0
  case y0 => (intro wz hz; go_simp; try with_reducible rfl)
  (try simp only [Act.put, List.setIfInBounds_toArray, List.set_cons_zero, List.set_cons_succ])
  refine PlanT.take0 (v := ?v1) (by kernel_rfl) ?y1 ?r1
  case y1 => (intro wz hz; obtain ⟨z1, z2⟩ := hz; have q5 : wz.cell? ⟨p, 5, none⟩ = some g.fv := blk_cell z1; clear z1; go_simp; try with_reducible rfl)
  (try simp only [Act.put, List.setIfInBounds_toArray, List.set_cons_zero, List.set_cons_succ])
  refine PlanT.take0 (v := ?v2) (by kernel_rfl) ?y2 ?r2
  case y2 => (intro wz hz; obtain ⟨z1, z2⟩ := hz; have q5 : wz.cell? ⟨p, 5, none⟩ = some g.fv := blk_cell z1; clear z1; go_simp; try with_reducible rfl)
  (try simp only [Act.put, List.setIfInBounds_toArray, List.set_cons_zero, List.set_cons_succ])
  refine PlanT.take0 (v := ?v3) (by kernel_rfl) ?y3 ?r3
  case y3 => (intro wz hz; obtain ⟨z1, z2⟩ := hz; have q5 : wz.cell? ⟨p, 5, none⟩ = some g.fv := blk_cell z1; clear z1; go_simp; try with_reducible rfl)
  (try simp only [Act.put, List.setIfInBounds_toArray, List.set_cons_zero, List.set_cons_succ])
  refine PlanT.take0 (v := ?v4) (by kernel_rfl) ?y4 ?r4
  case y4 => (intro wz hz; obtain ⟨z1, z2⟩ := hz; have q5 : wz.cell? ⟨p, 5, none⟩ = some g.fv := blk_cell z1; clear z1; go_simp; try with_reducible rfl)
  (try simp only [Act.put, List.setIfInBounds_toArray, List.set_cons_zero, List.set_cons_succ])
  refine PlanT.take0 (v := ?v5) (by kernel_rfl) ?y5 ?r5
  case y5 => (intro wz hz; obtain ⟨z1, z2⟩ := hz; have q5 : wz.cell? ⟨p, 5, none⟩ = some g.fv := blk_cell z1; clear z1; go_simp; try with_reducible rfl)
  (try simp only [Act.put, List.setIfInBounds_toArray, List.set_cons_zero, List.set_cons_succ])
  refine PlanT.exec2 (fun K hK => ⟨by kernel_rfl, ?_⟩)
  go_simp
  have hb2 := (Below.heap_alloc w1 (.cells #[.slice none 0 0, .slice none 0 0, .slice none 0 0] 62) p (blk_lt H1.out)).trans H1.out
  have hc2 : (w1.alloc (.cells #[.slice none 0 0, .slice none 0 0, .slice none 0 0] 62)).cell? ⟨bd, 0, none⟩ = some (.pointer (some ⟨p, 0, none⟩)) := (World.cell?_alloc_lt _ _ _ (World.block_lt_of_cell? w1 _ HC1.out)).trans HC1.out
  refine hK.out _ _ ⟨hb2, hc2⟩ hc2 ?_
  clear hK K
  (try simp only [Act.put, List.setIfInBounds_toArray, List.set_cons_zero, List.set_cons_succ])
  refine PlanT.exec3 (fun K hK => ⟨by kernel_rfl, ?_⟩)
  refine wp_append_at (.tmp 6) (.tmp 8) 50 rfl 62 3 72 (.agg #[.slice none 0 0, .slice none 0 0, .slice none 0 0]) Try.underlying50 info_file rfl (by decide) g.fv _ g.l.length 1 (gfCells g.l) (gfCells [g.newF]) rfl rfl ?own ?rd (gf_new_one g) (by have := HL.out; omega) (by have := HL.out; unfold maxLen; omega) ?_
  case own => exact own_kept HD.out.fr (R := fun k => k < w.heap.size) (Kept.of (HBEL.out.alloc (by have := HBEL.out.size; omega) _) fun _ h => h) fun k e => own_lt HD.out.fr k e
  case rd => exact ⟨_, 1, rfl, Nat.le_refl _, by unfold maxLen; omega, rfl, .inr ⟨w1.heap.size, 0, rfl, by simp, fun j u hj => by rw [blk_cell (heap_alloc_new w1 _)]; simpa [gfCells, Gh.newF] using hj⟩⟩
  intro v2 w2 ho2 hm2
  obtain ⟨av2, cv2, hv2, _, _⟩ := rd_of_own ho2
  subst hv2
  have hb3 := (hm2.grown.block p (by have := blk_lt H1.out; simp; omega) (fun e => hfp e.symm)).trans hb2
  have hc3 : w2.cell? ⟨bd, 0, none⟩ = some (.pointer (some ⟨p, 0, none⟩)) := (World.cell?_of_block (a := ⟨bd, 0, none⟩) (hm2.grown.block bd (World.block_lt_of_cell? _ _ hc2) (fun e => hfbd e.symm))).trans hc2
  have c5 : w2.cell? ⟨p, 5, none⟩ = some g.fv := blk_cell hb3
  have f5 : w2.frozen? ⟨p, 5, none⟩ = false := blk_free hb3
  have HM2 := Lib.hid hm2
  have HO2 := Lib.hid ho2
  have HB3 := Lib.hid hb3
  have HC3 := Lib.hid hc3
  clear hm2 ho2 hb3 hb2 hc2
  refine hK.out _ _ HC3.out ?_
  clear hK K
  (try simp only [Act.put, List.setIfInBounds_toArray, List.set_cons_zero, List.set_cons_succ])
  refine PlanT.take1 (v := ?v8) (by kernel_rfl) ?y8 ?r8
  case y8 => (intro wz hz; go_simp; try with_reducible rfl)
  (try simp only [Act.put, List.setIfInBounds_toArray, List.set_cons_zero, List.set_cons_succ])
  refine PlanT.take1 (v := ?v9) (by kernel_rfl) ?y9 ?r9
  case y9 => (intro wz hz; go_simp; try with_reducible rfl)
  (try simp only [Act.put, List.setIfInBounds_toArray, List.set_cons_zero, List.set_cons_succ])
  refine PlanT.exec3 (fun K hK => ⟨by kernel_rfl, ?_⟩)
  go_simp
  have hc4 : (w2.setCell ⟨p, 5, none⟩ (.slice av2 (g.l.length + 1) cv2)).cell? ⟨bd, 0, none⟩ = some (.pointer (some ⟨p, 0, none⟩)) := (World.cell?_setCell_far _ _ _ _ hpbd).trans HC3.out
  refine hK.out _ _ hc4 ?_
  clear hK K
  (try simp only [Act.put, List.setIfInBounds_toArray, List.set_cons_zero, List.set_cons_succ])
  refine PlanT.done (NoPanic.normal ?_)
  obtain ⟨w3, hw3⟩ : ∃ w3, w3 = w2.setCell ⟨p, 5, none⟩ (.slice av2 (g.l.length + 1) cv2) := ⟨_, rfl⟩
  rw [← hw3]
  have hb4 : w3.heap[p]? = some (.cells (dCells { g with fv := .slice av2 (g.l.length + 1) cv2 } d) 54 (0, 0)) := by
    subst hw3
    exact (blk_set (i := 5) HB3.out _).trans (by simp [dCells])
  have hm4 : Moves w w2 g.fv (.slice av2 (g.l.length + 1) cv2) := Moves.after (HBEL.out.alloc (by have := HBEL.out.size; omega) _) HM2.out
  have hk4 : Kept (fun k => k < w.heap.size ∧ k ≠ p ∧ g.fv.ownBlock ≠ some k) w w3 := by
    subst hw3
    exact (hm4.kept fun k hk => ⟨hk.1, hk.2.2⟩).setCell (fun h => h.2.1 rfl) _
  have hs4 : w3.heap.size = w2.heap.size := by subst hw3; simp [World.setCell]
  have ho4 : w3.ownsRow 0 62 3 (.slice av2 (g.l.length + 1) cv2) (g.l ++ [g.newF]).length (gfCells (g.l ++ [g.newF])) := by
    have e1 : gfCells (g.l ++ [g.newF]) = gfCells g.l ++ gfCells [g.newF] := by simp [gfCells]
    rw [e1, List.length_append]
    subst hw3
    refine own_kept HO2.out (R := fun k => k ≠ p) ((Kept.refl _ w2).setCell (fun h => h rfl) _) fun k e ep => ?_
    subst ep
    rcases hm4.at_ k e with h | h
    · exact hfp h
    · omega
  have hset := HD.out.add_file _ hk4 hb4 ho4 (fun k e => by rw [hs4]; exact hm4.at_ k e)
  have hcd : w3.cell? ⟨bd, 0, none⟩ = some (.pointer (some ⟨p, 0, none⟩)) := (hk4.cell (p := ⟨bd, 0, none⟩) ⟨World.block_lt_of_cell? _ _ HBD.out, Ne.symm hpbd, hfbd⟩).trans HBD.out
  have hcn : w3.cell? ⟨bn, 0, none⟩ = some (.string (strB n)) := (hk4.cell (p := ⟨bn, 0, none⟩) ⟨World.block_lt_of_cell? _ _ HBN.out, Ne.symm hpbn, hfbn⟩).trans HBN.out
  have c5' : w3.cell? ⟨p, 5, none⟩ = some (.slice av2 (g.l.length + 1) cv2) := blk_cell hb4
  obtain ⟨w4, hw4⟩ : ∃ w4, w4 = w3.drew := ⟨_, rfl⟩
  have hd4 : DiskAt { g with fv := .slice av2 (g.l.length + 1) cv2, l := g.l ++ [g.newF], top := g.top + 1, o := claim g.o (Value.slice av2 (g.l.length + 1) cv2).ownBlock .files } w4 p { d with files := d.files ++ [PF.new] } := by subst hw4; exact hset.1.drew
  have hch := change_at hd4 ⟨0, [], n, d.files.length⟩ ⟨Nat.zero_le 2, (show (0 : Nat) < 1000000000 by omega), (show n.length < 1000000000 by omega), by have := HSM.out.files; show d.files.length < _; omega⟩ ⟨HSM.out.nm.n, HSM.out.nm.ids⟩ (by have := HSM.out.loose; show d.loose.length < _; omega)
  have hch2 : Calls Try.prog 51 #[.pointer (some ⟨p, 0, none⟩), .agg #[.int .i64 0, .string ⟨#[]⟩, .string (strB n), .int .i64 (d.files.length : Int)]] w4 fun e w' => e = .returned (.tuple #[]) ∧ ∃ g', DiskAt g' w' p (d.makes n) ∧ Step { g with fv := .slice av2 (g.l.length + 1) cv2, l := g.l ++ [g.newF], top := g.top + 1, o := claim g.o (Value.slice av2 (g.l.length + 1) cv2).ownBlock .files } g' w4 w' := by
    refine Calls.mono hch ?_
    rintro e w' ⟨rfl, g', h1, h2, _⟩
    exact ⟨rfl, g', h1, h2⟩
  have HCH := Lib.hid hch2
  have HST := Lib.hid hset.2
  have k1 : w4.cell? ⟨bd, 0, none⟩ = some (.pointer (some ⟨p, 0, none⟩)) := by subst hw4; exact hcd
  have k2 : w4.cell? ⟨bn, 0, none⟩ = some (.string (strB n)) := by subst hw4; exact hcn
  have k3 : w4.cell? ⟨p, 5, none⟩ = some (.slice av2 (g.l.length + 1) cv2) := by subst hw4; exact c5'
  have Hw4 := Lib.hid hw4
  have hsz : Below w3.heap.size w3 w4 := by subst hw4; exact (Below.refl _ _).drew
  have HSZ := Lib.hid hsz
  have hint : IntKind.i64.wrap (g.l.length : Int) = (d.files.length : Int) := by
    rw [← HLEN.out]
    have := HL.out
    exact IntWalk.i64_in _ (by omega)
  clear hch hch2 hd4 hset ho4 hs4 hk4 hm4 hb4 hw3 hw4 c5 f5 hcd hcn c5' hc4 hsz
  go_wp2
  refine wp_region_two (fun wz => wz = w4) (fun _ => True) [(0, 0), (0, 1), (0, 2), (0, 3), (0, 4), (0, 5), (0, 6), (0, 7), (0, 8), (3, 9)] [9] (by kernel_rfl) (by kernel_rfl) (by kernel_rfl) (by kernel_rfl) (by kernel_rfl) Hw4.out.symm trivial ?_
  simp only [planT, List.drop_succ_cons, List.drop_zero]
  rw [← Hw4.out]
  refine PlanT.take0 (v := ?vB0) (by kernel_rfl) ?yB0 ?rB0
  case yB0 => (intro wz hz; subst hz; go_simp; try with_reducible rfl)
  (try simp only [Act.put, List.setIfInBounds_toArray, List.set_cons_zero, List.set_cons_succ])
  refine PlanT.take0 (v := ?vB1) (by kernel_rfl) ?yB1 ?rB1
  case yB1 => (intro wz hz; subst hz; go_simp; try with_reducible rfl)
  (try simp only [Act.put, List.setIfInBounds_toArray, List.set_cons_zero, List.set_cons_succ])
  refine PlanT.take0 (v := ?vB2) (by kernel_rfl) ?yB2 ?rB2
  case yB2 => (intro wz hz; subst hz; go_simp; try with_reducible rfl)
  (try simp only [Act.put, List.setIfInBounds_toArray, List.set_cons_zero, List.set_cons_succ])
  refine PlanT.take0 (v := ?vB3) (by kernel_rfl) ?yB3 ?rB3
  case yB3 => (intro wz hz; subst hz; go_simp; try with_reducible rfl)
  (try simp only [Act.put, List.setIfInBounds_toArray, List.set_cons_zero, List.set_cons_succ])
  refine PlanT.take0 (v := ?vB4) (by kernel_rfl) ?yB4 ?rB4
  case yB4 => (intro wz hz; subst hz; go_simp; try with_reducible rfl)
  (try simp only [Act.put, List.setIfInBounds_toArray, List.set_cons_zero, List.set_cons_succ])
  refine PlanT.take0 (v := ?vB5) (by kernel_rfl) ?yB5 ?rB5
  case yB5 => (intro wz hz; subst hz; go_simp; try with_reducible rfl)
  (try simp only [Act.put, List.setIfInBounds_toArray, List.set_cons_zero, List.set_cons_succ])
  refine PlanT.take0 (v := ?vB6) (by kernel_rfl) ?yB6 ?rB6
  case yB6 => (intro wz hz; subst hz; go_simp; try with_reducible rfl)
  (try simp only [Act.put, List.setIfInBounds_toArray, List.set_cons_zero, List.set_cons_succ])
  refine PlanT.take0 (v := ?vB7) (by kernel_rfl) ?yB7 ?rB7
  case yB7 => (intro wz hz; subst hz; go_simp; try with_reducible rfl)
  (try simp only [Act.put, List.setIfInBounds_toArray, List.set_cons_zero, List.set_cons_succ])
  refine PlanT.take0 (v := ?vB8) (by kernel_rfl) ?yB8 ?rB8
  case yB8 => (intro wz hz; subst hz; go_simp; try with_reducible rfl)
  (try simp only [Act.put, List.setIfInBounds_toArray, List.set_cons_zero, List.set_cons_succ])
  refine PlanT.exec3 (fun K hK => ⟨by kernel_rfl, ?_⟩)
  go_simp
  (with_reducible refine HCH.out.mono ?_)
  rintro e w5 ⟨rfl, g5, hd5, hst5⟩
  refine hK.out _ _ trivial ?_
  clear hK K
  (try simp only [Act.put, List.setIfInBounds_toArray, List.set_cons_zero, List.set_cons_succ])
  refine PlanT.done (NoPanic.normal ?_)
  go_wp2
  go_end0
  exact ⟨rfl, g5, hd5, (HST.out.trans (Step.below HSZ.out)).trans hst5⟩
end Go.Proofs.Ytkobjbjakgfhcaa
