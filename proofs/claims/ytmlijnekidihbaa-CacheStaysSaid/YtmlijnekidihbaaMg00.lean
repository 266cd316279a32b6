import Derived.Test.YtmlijnekidihbaaDiskSetFile
import Derived.Deep.RegionHeld

/-
  What the calls that change do, once they are counted: Make, Write, Safe, Move, Gone.
-/
namespace Go.Proofs.Ytmlijnekidihbaa
open Go.RowKit

theorem gf_new_one (g : Gh) : ∀ u ∈ gfCells [g.newF], u.oneCell' = true := by
  intro u hu
  simp [gfCells, Gh.newF] at hu
  subst hu
  rfl

/-- What holds of a disk's sizes. -/
structure Small (d : PD) : Prop where
  files : d.files.length < 10000
  loose : d.loose.length < 10000
  names : d.names.length < 10000
  safe : d.safe.length < 10000
  calls : d.calls < 10000
  idn : ∀ x ∈ d.names, x.2 < d.files.length
  ids : ∀ x ∈ d.safe, x.2 < d.files.length
  ch : ∀ c ∈ d.loose, ChOk c
  fl : ∀ f ∈ d.files, f.safe.length < 2000000 ∧ f.now.length < 2000000 ∧ f.loose.length < 10000 ∧ manyL f.loose < 900000000 ∧ WOk f.safe f.loose ∧ ∀ left, (kept f.loose left f.safe).length < 2000000
  nml : ∀ x ∈ d.names, x.1.length < 1000
  sml : ∀ x ∈ d.safe, x.1.length < 1000

theorem Small.nm {d : PD} (h : Small d) : NmOk d := ⟨by have := h.names; omega, fun x hx => by have := h.idn x hx; have := h.files; omega⟩

def PD.makes (d : PD) (n : List UInt8) : PD := { d with files := d.files ++ [PF.new], names := ren d.names ⟨0, [], n, d.files.length⟩, loose := d.loose ++ [⟨0, [], n, d.files.length⟩] }

set_option maxRecDepth 100000 in
set_option maxHeartbeats 4000000 in
set_option linter.unusedSimpArgs false in
theorem make1_at {g : Gh} {w : World} {p : Nat} {d : PD} (h : DiskAt g w p d) (hsm : Small d) (n : List UInt8) (hn : n.length < 1000) (bd bn : Nat) (hbd : w.cell? ⟨bd, 0, none⟩ = some (.pointer (some ⟨p, 0, none⟩))) (hbn : w.cell? ⟨bn, 0, none⟩ = some (.string (strB n))) (obd : g.o bd = .out) (obn : g.o bn = .out) :
    Calls Try.prog 66 #[.pointer (some ⟨bd, 0, none⟩), .pointer (some ⟨bn, 0, none⟩)] w fun e w' => e = .returned (.tuple #[]) ∧ ∃ g', DiskAt g' w' p (d.makes n) ∧ Step g g' w w' := by
  have hp := blk_lt h.blk
  obtain ⟨w1, hw1⟩ : ∃ w1, w1 = w.drew := ⟨_, rfl⟩
  have hbel : Below w.heap.size w w1 := by subst hw1; exact (Below.refl _ _).drew
  have h1 : w1.heap[p]? = some (.cells (dCells g d) 60 (0, 0)) := (hbel.block p hp).trans h.blk
  have hc1 : w1.cell? ⟨bd, 0, none⟩ = some (.pointer (some ⟨p, 0, none⟩)) := by subst hw1; exact hbd
  have hc1n : w1.cell? ⟨bn, 0, none⟩ = some (.string (strB n)) := by subst hw1; exact hbn
  have hfp : g.fv.ownBlock ≠ some p := fun e => by have := h.of p e; rw [h.rol] at this; cases this
  have hfbd : g.fv.ownBlock ≠ some bd := fun e => by have := h.of bd e; rw [obd] at this; cases this
  have hfbn : g.fv.ownBlock ≠ some bn := fun e => by have := h.of bn e; rw [obn] at this; cases this
  have hpbd : p ≠ bd := fun e => by subst e; rw [h.rol] at obd; cases obd
  have hpbn : p ≠ bn := fun e => by subst e; rw [h.rol] at obn; cases obn
  have hlen : g.l.length = d.files.length := by rw [h.fl, List.length_map]
  have hl : g.l.length < 10000 := by rw [hlen]; exact hsm.files
  obtain ⟨fa, fcap, hfv, _, _⟩ := rd_of_own h.fr
  have Hfv := Lib.hid hfv
  have HD := Lib.hid h
  have Hw1 := Lib.hid hw1
  have H1 := Lib.hid h1
  have HC1 := Lib.hid hc1
  have HC1n := Lib.hid hc1n
  have HBEL := Lib.hid hbel
  have HSM := Lib.hid hsm
  have HL := Lib.hid hl
  have HLEN := Lib.hid hlen
  have HBD := Lib.hid hbd
  have HBN := Lib.hid hbn
  clear hw1 h1 hc1 hc1n h hbel hfv hsm hl hlen hbd hbn
  go_enter Try.func66, Try.ntmps66
  go_wp2
  refine wp_region_two (fun wz => wz.heap[p]? = some (.cells (dCells g d) 60 (0, 0)) ∧ wz.cell? ⟨bd, 0, none⟩ = some (.pointer (some ⟨p, 0, none⟩))) (fun wz => wz.cell? ⟨bd, 0, none⟩ = some (.pointer (some ⟨p, 0, none⟩))) [(1, 0), (0, 1), (0, 2), (0, 3), (0, 4), (0, 5), (2, 6), (3, 7), (1, 8), (1, 9), (3, 10)] [7, 10] (by kernel_rfl) (by kernel_rfl) (by kernel_rfl) (by kernel_rfl) (by kernel_rfl) (by rw [← Hw1.out]; exact ⟨H1.out, HC1.out⟩) (by rw [← Hw1.out]; exact HC1.out) ?_
  simp only [planT, List.drop_succ_cons, List.drop_zero]
  rw [← Hw1.out]
  refine PlanT.take1 (v := ?v0) (by kernel_rfl) ?y0 ?r0
  case y0 => (intro wz hz; go_simp; try with_reducible rfl)
  (try simp only [Act.put, List.setIfInBounds_toArray, List.set_cons_zero, List.set_cons_succ])
  refine PlanT.take0 (v := ?v1) (by kernel_rfl) ?y1 ?r1
  case y1 => (intro wz hz; obtain ⟨z1, z2⟩ := hz; have q5 : wz.cell? ⟨p, 5, none⟩ = some g.fv := blk_cell z1; clear z1; go_simp; try with_reducible rfl)
  (try simp only [Act.put, List.setIfInBounds_toArray, List.set_cons_zero, List.set_cons_succ])
  refine PlanT.take0 (v := ?v2) (by kernel_rfl) ?y2 ?r2
  case y2 => (intro wz hz; obtain ⟨z1, z2⟩ := hz; have q5 : wz.cell? ⟨p, 5, none⟩ = some g.fv := blk_cell z1; clear z1; go_simp; try with_reducible rfl)
  (try simp only [Act.put, List.setIfInBounds_toArray, List.set_cons_zero, List.set_cons_succ])
  refine PlanT.take0 (v := ?v3) (by kernel_rfl) ?y3 ?r3
  case y3 => (intro wz hz; obtain ⟨z1, z2⟩ := hz; have q5 : wz.cell? ⟨p, 5, none⟩ = some g.fv := blk_cell z1; clear z1; go_simp; try with_reducible rfl)
  (try simp only [Act.put, List.setIfInBounds_toArray, List.set_cons_zero, List.set_cons_succ])
  refine PlanT.take0 (v := ?v4) (by kernel_rfl) ?y4 ?r4
  case y4 => (intro wz hz; obtain ⟨z1, z2⟩ := hz; have q5 : wz.cell? ⟨p, 5, none⟩ = some g.fv := blk_cell z1; clear z1; go_simp; try with_reducible rfl)
  (try simp only [Act.put, List.setIfInBounds_toArray, List.set_cons_zero, List.set_cons_succ])
  refine PlanT.take0 (v := ?v5) (by kernel_rfl) ?y5 ?r5
  case y5 => (intro wz hz; obtain ⟨z1, z2⟩ := hz; have q5 : wz.cell? ⟨p, 5, none⟩ = some g.fv := blk_cell z1; clear z1; go_simp; try with_reducible rfl)
  (try simp only [Act.put, List.setIfInBounds_toArray, List.set_cons_zero, List.set_cons_succ])
  refine PlanT.exec2 (fun K hK => ⟨by kernel_rfl, ?_⟩)
  go_simp
  have hb2 := (Below.heap_alloc w1 (.cells #[.slice none 0 0, .slice none 0 0, .slice none 0 0] 93) p (blk_lt H1.out)).trans H1.out
  have hc2 : (w1.alloc (.cells #[.slice none 0 0, .slice none 0 0, .slice none 0 0] 93)).cell? ⟨bd, 0, none⟩ = some (.pointer (some ⟨p, 0, none⟩)) := (World.cell?_alloc_lt _ _ _ (World.block_lt_of_cell? w1 _ HC1.out)).trans HC1.out
  refine hK.out _ _ ⟨hb2, hc2⟩ hc2 ?_
  clear hK K
  (try simp only [Act.put, List.setIfInBounds_toArray, List.set_cons_zero, List.set_cons_succ])
  refine PlanT.exec3 (fun K hK => ⟨by kernel_rfl, ?_⟩)
  refine wp_append_at (.tmp 6) (.tmp 8) 56 rfl 93 3 72 (.agg #[.slice none 0 0, .slice none 0 0, .slice none 0 0]) Try.underlying56 info_file rfl (by decide) g.fv _ g.l.length 1 (gfCells g.l) (gfCells [g.newF]) rfl rfl ?own ?rd (gf_new_one g) (by have := HL.out; omega) (by have := HL.out; unfold maxLen; omega) ?_
  case own => exact own_kept HD.out.fr (R := fun k => k < w.heap.size) (Kept.of (HBEL.out.alloc (by have := HBEL.out.size; omega) _) fun _ h => h) fun k e => own_lt HD.out.fr k e
  case rd => exact ⟨_, 1, rfl, Nat.le_refl _, by unfold maxLen; omega, rfl, .inr ⟨w1.heap.size, 0, rfl, by simp, fun j u hj => by rw [blk_cell (heap_alloc_new w1 _)]; simpa [gfCells, Gh.newF] using hj⟩⟩
  intro v2 w2 ho2 hm2
  obtain ⟨av2, cv2, hv2, _, _⟩ := rd_of_own ho2
  subst hv2
  have hb3 := (hm2.grown.block p (by have := blk_lt H1.out; simp; omega) (fun e => hfp e.symm)).trans hb2
  have hc3 : w2.cell? ⟨bd, 0, none⟩ = some (.pointer (some ⟨p, 0, none⟩)) := (World.cell?_of_block (a := ⟨bd, 0, none⟩) (hm2.grown.block bd (World.block_lt_of_cell? _ _ hc2) (fun e => hfbd e.symm))).trans hc2
  have c5 : w2.cell? ⟨p, 5, none⟩ = some g.fv := blk_cell hb3
  have f5 : w2.frozen? ⟨p, 5, none⟩ = false := blk_free hb3
  have HM2 := Lib.hid hm2
  have HO2 := Lib.hid ho2
  have HB3 := Lib.hid hb3
  have HC3 := Lib.hid hc3
  clear hm2 ho2 hb3 hb2 hc2
  refine hK.out _ _ HC3.out ?_
  clear hK K
  (try simp only [Act.put, List.setIfInBounds_toArray, List.set_cons_zero, List.set_cons_succ])
  refine PlanT.take1 (v := ?v8) (by kernel_rfl) ?y8 ?r8
  case y8 => (intro wz hz; go_simp; try with_reducible rfl)
  (try simp only [Act.put, List.setIfInBounds_toArray, List.set_cons_zero, List.set_cons_succ])
  refine PlanT.take1 (v := ?v9) (by kernel_rfl) ?y9 ?r9
  case y9 => (intro wz hz; go_simp; try with_reducible rfl)
  (try simp only [Act.put, List.setIfInBounds_toArray, List.set_cons_zero, List.set_cons_succ])
  refine PlanT.exec3 (fun K hK => ⟨by kernel_rfl, ?_⟩)
  go_simp
  have hc4 : (w2.setCell ⟨p, 5, none⟩ (.slice av2 (g.l.length + 1) cv2)).cell? ⟨bd, 0, none⟩ = some (.pointer (some ⟨p, 0, none⟩)) := (World.cell?_setCell_far _ _ _ _ hpbd).trans HC3.out
  refine hK.out _ _ hc4 ?_
  clear hK K
  (try simp only [Act.put, List.setIfInBounds_toArray, List.set_cons_zero, List.set_cons_succ])
  refine PlanT.done (NoPanic.normal ?_)
  obtain ⟨w3, hw3⟩ : ∃ w3, w3 = w2.setCell ⟨p, 5, none⟩ (.slice av2 (g.l.length + 1) cv2) := ⟨_, rfl⟩
  rw [← hw3]
  have hb4 : w3.heap[p]? = some (.cells (dCells { g with fv := .slice av2 (g.l.length + 1) cv2 } d) 60 (0, 0)) := by
    subst hw3
    exact (blk_set (i := 5) HB3.out _).trans (by simp [dCells])
  have hm4 : Moves w w2 g.fv (.slice av2 (g.l.length + 1) cv2) := Moves.after (HBEL.out.alloc (by have := HBEL.out.size; omega) _) HM2.out
  have hk4 : Kept (fun k => k < w.heap.size ∧ k ≠ p ∧ g.fv.ownBlock ≠ some k) w w3 := by
    subst hw3
    exact (hm4.kept fun k hk => ⟨hk.1, hk.2.2⟩).setCell (fun h => h.2.1 rfl) _
  have hs4 : w3.heap.size = w2.heap.size := by subst hw3; simp [World.setCell]
  have ho4 : w3.ownsRow 0 93 3 (.slice av2 (g.l.length + 1) cv2) (g.l ++ [g.newF]).length (gfCells (g.l ++ [g.newF])) := by
    have e1 : gfCells (g.l ++ [g.newF]) = gfCells g.l ++ gfCells [g.newF] := by simp [gfCells]
    rw [e1, List.length_append]
    subst hw3
    refine own_kept HO2.out (R := fun k => k ≠ p) ((Kept.refl _ w2).setCell (fun h => h rfl) _) fun k e ep => ?_
    subst ep
    rcases hm4.at_ k e with h | h
    · exact hfp h
    · omega
  have hset := HD.out.add_file _ hk4 hb4 ho4 (fun k e => by rw [hs4]; exact hm4.at_ k e)
  have hcd : w3.cell? ⟨bd, 0, none⟩ = some (.pointer (some ⟨p, 0, none⟩)) := (hk4.cell (p := ⟨bd, 0, none⟩) ⟨World.block_lt_of_cell? _ _ HBD.out, Ne.symm hpbd, hfbd⟩).trans HBD.out
  have hcn : w3.cell? ⟨bn, 0, none⟩ = some (.string (strB n)) := (hk4.cell (p := ⟨bn, 0, none⟩) ⟨World.block_lt_of_cell? _ _ HBN.out, Ne.symm hpbn, hfbn⟩).trans HBN.out
  have c5' : w3.cell? ⟨p, 5, none⟩ = some (.slice av2 (g.l.length + 1) cv2) := blk_cell hb4
  obtain ⟨w4, hw4⟩ : ∃ w4, w4 = w3.drew := ⟨_, rfl⟩
  have hd4 : DiskAt { g with fv := .slice av2 (g.l.length + 1) cv2, l := g.l ++ [g.newF], top := g.top + 1, o := claim g.o (Value.slice av2 (g.l.length + 1) cv2).ownBlock .files } w4 p { d with files := d.files ++ [PF.new] } := by subst hw4; exact hset.1.drew
  have hch := change_at hd4 ⟨0, [], n, d.files.length⟩ ⟨Nat.zero_le 2, (show (0 : Nat) < 1000000000 by omega), (show n.length < 1000000000 by omega), by have := HSM.out.files; show d.files.length < _; omega⟩ ⟨HSM.out.nm.n, HSM.out.nm.ids⟩ (by have := HSM.out.loose; show d.loose.length < _; omega)
  have hch2 : Calls Try.prog 67 #[.pointer (some ⟨p, 0, none⟩), .agg #[.int .i64 0, .string ⟨#[]⟩, .string (strB n), .int .i64 (d.files.length : Int)]] w4 fun e w' => e = .returned (.tuple #[]) ∧ ∃ g', DiskAt g' w' p (d.makes n) ∧ Step { g with fv := .slice av2 (g.l.length + 1) cv2, l := g.l ++ [g.newF], top := g.top + 1, o := claim g.o (Value.slice av2 (g.l.length + 1) cv2).ownBlock .files } g' w4 w' := by
    refine Calls.mono hch ?_
    rintro e w' ⟨rfl, g', h1, h2, _⟩
    exact ⟨rfl, g', h1, h2⟩
  have HCH := Lib.hid hch2
  have HST := Lib.hid hset.2
  have k1 : w4.cell? ⟨bd, 0, none⟩ = some (.pointer (some ⟨p, 0, none⟩)) := by subst hw4; exact hcd
  have k2 : w4.cell? ⟨bn, 0, none⟩ = some (.string (strB n)) := by subst hw4; exact hcn
  have k3 : w4.cell? ⟨p, 5, none⟩ = some (.slice av2 (g.l.length + 1) cv2) := by subst hw4; exact c5'
  have Hw4 := Lib.hid hw4
  have hsz : Below w3.heap.size w3 w4 := by subst hw4; exact (Below.refl _ _).drew
  have HSZ := Lib.hid hsz
  have hint : IntKind.i64.wrap (g.l.length : Int) = (d.files.length : Int) := by
    rw [← HLEN.out]
    have := HL.out
    exact IntWalk.i64_in _ (by omega)
  clear hch hch2 hd4 hset ho4 hs4 hk4 hm4 hb4 hw3 hw4 c5 f5 hcd hcn c5' hc4 hsz
  go_wp2
  refine wp_region_two (fun wz => wz = w4) (fun _ => True) [(0, 0), (0, 1), (0, 2), (0, 3), (0, 4), (0, 5), (0, 6), (0, 7), (0, 8), (3, 9)] [9] (by kernel_rfl) (by kernel_rfl) (by kernel_rfl) (by kernel_rfl) (by kernel_rfl) Hw4.out.symm trivial ?_
  simp only [planT, List.drop_succ_cons, List.drop_zero]
  rw [← Hw4.out]
  refine PlanT.take0 (v := ?vB0) (by kernel_rfl) ?yB0 ?rB0
  case yB0 => (intro wz hz; subst hz; go_simp; try with_reducible rfl)
  (try simp only [Act.put, List.setIfInBounds_toArray, List.set_cons_zero, List.set_cons_succ])
  refine PlanT.take0 (v := ?vB1) (by kernel_rfl) ?yB1 ?rB1
  case yB1 => (intro wz hz; subst hz; go_simp; try with_reducible rfl)
  (try simp only [Act.put, List.setIfInBounds_toArray, List.set_cons_zero, List.set_cons_succ])
  refine PlanT.take0 (v := ?vB2) (by kernel_rfl) ?yB2 ?rB2
  case yB2 => (intro wz hz; subst hz; go_simp; try with_reducible rfl)
  (try simp only [Act.put, List.setIfInBounds_toArray, List.set_cons_zero, List.set_cons_succ])
  refine PlanT.take0 (v := ?vB3) (by kernel_rfl) ?yB3 ?rB3
  case yB3 => (intro wz hz; subst hz; go_simp; try with_reducible rfl)
  (try simp only [Act.put, List.setIfInBounds_toArray, List.set_cons_zero, List.set_cons_succ])
  refine PlanT.take0 (v := ?vB4) (by kernel_rfl) ?yB4 ?rB4
  case yB4 => (intro wz hz; subst hz; go_simp; try with_reducible rfl)
  (try simp only [Act.put, List.setIfInBounds_toArray, List.set_cons_zero, List.set_cons_succ])
  refine PlanT.take0 (v := ?vB5) (by kernel_rfl) ?yB5 ?rB5
  case yB5 => (intro wz hz; subst hz; go_simp; try with_reducible rfl)
  (try simp only [Act.put, List.setIfInBounds_toArray, List.set_cons_zero, List.set_cons_succ])
  refine PlanT.take0 (v := ?vB6) (by kernel_rfl) ?yB6 ?rB6
  case yB6 => (intro wz hz; subst hz; go_simp; try with_reducible rfl)
  (try simp only [Act.put, List.setIfInBounds_toArray, List.set_cons_zero, List.set_cons_succ])
  refine PlanT.take0 (v := ?vB7) (by kernel_rfl) ?yB7 ?rB7
  case yB7 => (intro wz hz; subst hz; go_simp; try with_reducible rfl)
  (try simp only [Act.put, List.setIfInBounds_toArray, List.set_cons_zero, List.set_cons_succ])
  refine PlanT.take0 (v := ?vB8) (by kernel_rfl) ?yB8 ?rB8
  case yB8 => (intro wz hz; subst hz; go_simp; try with_reducible rfl)
  (try simp only [Act.put, List.setIfInBounds_toArray, List.set_cons_zero, List.set_cons_succ])
  refine PlanT.exec3 (fun K hK => ⟨by kernel_rfl, ?_⟩)
  go_simp
  (with_reducible refine HCH.out.mono ?_)
  rintro e w5 ⟨rfl, g5, hd5, hst5⟩
  refine hK.out _ _ trivial ?_
  clear hK K
  (try simp only [Act.put, List.setIfInBounds_toArray, List.set_cons_zero, List.set_cons_succ])
  refine PlanT.done (NoPanic.normal ?_)
  go_wp2
  go_end0
  exact ⟨rfl, g5, hd5, (HST.out.trans (Step.below HSZ.out)).trans hst5⟩
end Go.Proofs.Ytmlijnekidihbaa

/-
  A change is counted, and done; Make.
-/
namespace Go.Proofs.Ytmlijnekidihbaa
open Go.RowKit

def PD.dn (d : PD) : Bool := decide ((d.calls : Int) + 1 = d.crash)
def PD.cnt (d : PD) : PD := { d with calls := d.calls + 1, down := d.dn }
def PD.isdo (d : PD) : Bool := !d.dn || d.done
def PD.err (d : PD) : Nat := if d.dn then 7 else 0
def PD.after (d : PD) (f : PD → PD) : PD := if d.isdo then f d.cnt else d.cnt

theorem out_of {g : Gh} {w : World} {p : Nat} {d : PD} (h : DiskAt g w p d) {k : Nat} (hk : w.heap.size ≤ k) : g.o k = .out := by
  cases ho : g.o k with
  | out => rfl
  | _ => exact absurd (h.olt k (by rw [ho]; simp)) (by omega)

theorem counted {g : Gh} {w : World} {p : Nat} {d : PD} (h : DiskAt g w p d) (hcl : d.calls < 10000) (k : Nat) (fst caps : Array Value) (hen : Enters Try.prog k) (f : PD → PD) (hf : (f d.cnt).down = d.dn)
    (hdo : d.isdo = true → ∀ w1, DiskAt g w1 p d.cnt → Kept (fun j => j < w.heap.size ∧ j ≠ p) w w1 → w1.heap.size = w.heap.size → Calls Try.prog k (fst ++ caps) w1 fun e w2 => e = .returned (.tuple #[]) ∧ ∃ g', DiskAt g' w2 p (f d.cnt) ∧ Step g g' w1 w2) :
    Calls Try.prog 49 #[.pointer (some ⟨p, 0, none⟩), .func (.func k) fst caps] w fun e w' => e = .returned (.int .i64 (d.err : Int)) ∧ ∃ g', DiskAt g' w' p (d.after f) ∧ Step g g' w w' := by
  have hb := h.blk
  unfold dCells at hb
  have hscal : ∀ w1, w1.heap[p]? = some (.cells #[.int .i64 d.room, .int .i64 d.crash, .bool d.done, .int .i64 ((d.calls : Int) + 1), .bool d.dn, g.fv, g.nv, g.sv, g.lv] 60 (0, 0)) → Kept (fun j => j < w.heap.size ∧ j ≠ p) w w1 → DiskAt g w1 p d.cnt ∧ Step g g w w1 := by
    intro w1 h1 hk
    refine ⟨h.scal (d' := d.cnt) hk ?_ rfl rfl rfl rfl, step_scal h hk⟩
    rw [h1]
    simp [dCells, PD.cnt]
  have hdo2 : d.isdo = true → ∀ w1, w1.heap[p]? = some (.cells #[.int .i64 d.room, .int .i64 d.crash, .bool d.done, .int .i64 ((d.calls : Int) + 1), .bool d.dn, g.fv, g.nv, g.sv, g.lv] 60 (0, 0)) → Kept (fun j => j < w.heap.size ∧ j ≠ p) w w1 → w1.heap.size = w.heap.size →
      Calls Try.prog k (fst ++ caps) w1 fun e w2 => e = .returned (.tuple #[]) ∧ w2.cell? ⟨p, 4, none⟩ = some (.bool d.dn) ∧ ∃ g', DiskAt g' w2 p (f d.cnt) ∧ Step g g' w w2 := by
    intro hi w1 h1 hk hs
    obtain ⟨hd1, hst1⟩ := hscal w1 h1 hk
    refine (hdo hi w1 hd1 hk hs).mono ?_
    rintro e w2 ⟨rfl, g', hd2, hst2⟩
    refine ⟨rfl, ?_, g', hd2, hst1.trans hst2⟩
    rw [blk_cell hd2.blk]
    simp [dCells, hf]
  by_cases hdn : (d.calls : Int) + 1 = d.crash
  · have hdn1 : d.dn = true := by simp [PD.dn, hdn]
    by_cases hdone : d.done = true
    · have hi : d.isdo = true := by simp [PD.isdo, hdone]
      have := hdo2 hi
      rw [hdn1, hdone] at this
      rw [hdone] at hb
      refine (count_last w p _ _ _ _ _ _ d.crash d.calls k fst caps hb (by omega) ⟨_, rfl⟩ hdn hen _ this).mono ?_
      rintro e w' ⟨rfl, g', r1, r2⟩
      exact ⟨by simp [PD.err, hdn1], g', by unfold PD.after; rw [if_pos hi]; exact r1, r2⟩
    · have hd0 : d.done = false := by simpa using hdone
      have hi : d.isdo = false := by simp [PD.isdo, hdn1, hd0]
      rw [hd0] at hb
      refine (count_stop w p _ _ _ _ _ _ d.crash d.calls k fst caps hb (by omega) ⟨_, rfl⟩ hdn).mono ?_
      rintro e w' ⟨rfl, r1, r2, _⟩
      rw [← hd0, ← hdn1] at r1
      obtain ⟨s1, s2⟩ := hscal w' r1 r2
      exact ⟨by simp [PD.err, hdn1], g, by unfold PD.after; rw [if_neg (by rw [hi]; simp)]; exact s1, s2⟩
  · have hdn1 : d.dn = false := by simp [PD.dn, hdn]
    have hi : d.isdo = true := by simp [PD.isdo, hdn1]
    have := hdo2 hi
    rw [hdn1] at this
    refine (count_up w p _ _ _ _ _ _ d.crash d.calls d.done k fst caps hb (by omega) ⟨_, rfl⟩ hdn hen _ this).mono ?_
    rintro e w' ⟨rfl, g', r1, r2⟩
    exact ⟨by simp [PD.err, hdn1], g', by unfold PD.after; rw [if_pos hi]; exact r1, r2⟩

/-- The file of a name is there, or not. -/
theorem find_at {g : Gh} {w : World} {p : Nat} {d : PD} (h : DiskAt g w p d) (s : ByteArray) (hs : s.size ≤ maxLen) (hid : ∀ x ∈ d.names, x.2 < d.files.length) :
    (dfind d.names s.data.toList = none ∧ Calls Try.prog 34 #[.pointer (some ⟨p, 0, none⟩), .string s] w fun e w' => e = .returned (.pointer none) ∧ w = w') ∨
    ∃ (id fb cap : Nat) (x : GF) (f : PF), dfind d.names s.data.toList = some id ∧ id < d.files.length ∧ g.fv = .slice (some ⟨fb, 0, none⟩) g.l.length cap ∧ g.l[id]? = some (x, f) ∧ d.files[id]? = some f ∧ g.o fb = .files ∧ fb < w.heap.size ∧ FileAt g.o w x f ∧
      w.cell? ⟨fb, id * 3, none⟩ = some x.vs ∧ w.cell? ⟨fb, id * 3 + 1, none⟩ = some x.vn ∧ w.cell? ⟨fb, id * 3 + 2, none⟩ = some x.vl ∧ (∀ j, w.frozen? ⟨fb, j, none⟩ = false) ∧
      Calls Try.prog 34 #[.pointer (some ⟨p, 0, none⟩), .string s] w fun e w' => e = .returned (.pointer (some ⟨fb, id * 3, none⟩)) ∧ w = w' := by
  have c6 : w.cell? ⟨p, 6, none⟩ = some g.nv := blk_cell h.blk
  have c5 : w.cell? ⟨p, 5, none⟩ = some g.fv := blk_cell h.blk
  cases hf : dfind d.names s.data.toList with
  | none => exact .inl ⟨rfl, find_none w p g.nv d.names s hs c6 h.nr hf⟩
  | some id =>
    right
    have hidl : id < d.files.length := by
      obtain ⟨x, hx, _, e⟩ := dfind_mem hf
      rw [← e]; exact hid x hx
    obtain ⟨fb, cap, x, hfv, hlt, hx, hfa, hof, hfb, e0, e1, e2, ef⟩ := h.file (List.getElem?_eq_getElem hidl)
    rw [hfv] at c5
    exact ⟨id, fb, cap, x, d.files[id], rfl, hidl, hfv, hx, List.getElem?_eq_getElem hidl, hof, hfb, hfa, e0, e1, e2, ef, find_some w p g.nv d.names s hs c6 h.nr id hf fb g.l.length cap c5 hlt⟩

def PD.make (d : PD) (n : List UInt8) : Nat × PD :=
  if d.down then (7, d) else if !nmOk n then (1, d) else if (dfind d.names n).isSome then (3, d) else (d.err, d.after (·.makes n))

theorem enters_make1 : Enters Try.prog 66 := enters_of Try.func66 (by kernel_rfl) rfl

theorem eqp_nil (w : World) (a : Addr) : (binOp .neq 75 (.pointer (some a)) (.pointer none)).run Try.prog w = .ok (.bool true) w := by kernel_rfl

theorem Small.cnt {d : PD} (h : Small d) (hc : d.calls + 1 < 10000) : Small d.cnt := ⟨h.files, h.loose, h.names, h.safe, hc, h.idn, h.ids, h.ch, h.fl, h.nml, h.sml⟩

set_option maxRecDepth 100000 in
set_option maxHeartbeats 2000000 in
theorem make_at {g : Gh} {w : World} {p : Nat} {d : PD} (h : DiskAt g w p d) (hsm : Small d) (hcl : d.calls + 1 < 10000) (s : ByteArray) (hs : s.size ≤ maxLen) :
    Calls Try.prog 44 #[.pointer (some ⟨p, 0, none⟩), .string s] w fun e w' => e = .returned (.int .i64 ((d.make s.data.toList).1 : Int)) ∧ ∃ g', DiskAt g' w' p (d.make s.data.toList).2 ∧ Step g g' w w' := by
  obtain ⟨w1, hw1⟩ : ∃ w1, w1 = (w.alloc (.cells #[.pointer (some ⟨p, 0, none⟩)] 26)).alloc (.cells #[.string s] 9) := ⟨_, rfl⟩
  have hbel : Below w.heap.size w w1 := by subst hw1; exact ((Below.refl _ _).alloc (Nat.le_refl _) _).alloc (by simp) _
  have hd1 : DiskAt g w1 p d := h.below hbel
  have hst1 : Step g g w w1 := Step.below hbel
  have hbd : w1.cell? ⟨w.heap.size, 0, none⟩ = some (.pointer (some ⟨p, 0, none⟩)) := by
    subst hw1
    rw [World.cell?_of_block (a := ⟨w.heap.size, 0, none⟩) (Below.heap_alloc _ _ _ (by simp)), blk_cell (heap_alloc_new w _)]
    rfl
  have hbn : w1.cell? ⟨w.heap.size + 1, 0, none⟩ = some (.string s) := by
    subst hw1
    rw [blk_cell (heap_new2 w _ _)]
    rfl
  have hwd : w1.heap.size = w.heap.size + 2 := by subst hw1; simp
  have c4 : w1.cell? ⟨p, 4, none⟩ = some (.bool d.down) := blk_cell hd1.blk
  have hnm := isName_any w1 s hs
  have Hw1 := Lib.hid hw1
  have hpw := blk_lt h.blk
  have hne : ¬ w.heap.size = p := by omega
  have hne' : ¬ w.heap.size + 1 = p := by omega
  cases hdn : d.down with
  | true =>
    rw [show d.make s.data.toList = (7, d) by unfold PD.make; simp [hdn]]
    dsimp only
    rw [hdn] at c4
    have HSH := Lib.hid (shut_any w1 p true c4)
    clear hnm hsm hdn c4 hbd hbn hwd h hw1
    go_enter Try.func44, Try.ntmps44
    go_wp2_with (go_at_call 47; rw [← Hw1.out]; refine HSH.out.mono ?_; rintro e w5 ⟨rfl, rfl⟩)
    go_ret
    exact ⟨rfl, g, hd1, hst1⟩
  | false =>
    rw [hdn] at c4
    have HSH := Lib.hid (shut_any w1 p false c4)
    cases hok : nmOk s.data.toList with
    | false =>
      rw [show d.make s.data.toList = (1, d) by unfold PD.make; simp [hdn, hok]]
      dsimp only
      rw [hok] at hnm
      have HNM := Lib.hid hnm
      have HOK := Lib.hid hok
      clear hnm hsm hdn c4 hwd h hw1 hok
      go_enter Try.func44, Try.ntmps44
      go_wp2_with (first | (go_at_call 47; rw [← Hw1.out]; refine HSH.out.mono ?_; rintro e w5 ⟨rfl, rfl⟩) | (go_at_call 65; refine HNM.out.mono ?_; rintro e w5 ⟨rfl, rfl⟩))
      go_ret
      exact ⟨rfl, g, hd1, hst1⟩
    | true =>
      rw [hok] at hnm
      have HNM := Lib.hid hnm
      have hlen : s.data.toList.length ≤ 40 := by
        unfold nmOk at hok
        simp only [Bool.and_eq_true, decide_eq_true_eq] at hok
        exact hok.2
      have HOK := Lib.hid hok
      clear hnm hok
      rcases find_at hd1 s hs hsm.idn with ⟨hf, hcall⟩ | ⟨id, fb, cap, x, f, hf, _, _, _, _, _, _, _, _, _, _, _, hcall⟩
      · rw [show d.make s.data.toList = (d.err, d.after (·.makes s.data.toList)) by unfold PD.make; simp [hdn, HOK.out, hf]]
        dsimp only
        have HC := Lib.hid hcall
        have HF := Lib.hid hf
        have hcn := counted (k := 66) (fst := #[]) (caps := #[.pointer (some ⟨w.heap.size, 0, none⟩), .pointer (some ⟨w.heap.size + 1, 0, none⟩)]) hd1 (by omega) enters_make1 (·.makes s.data.toList) rfl
          (fun _ w2 hd2 hk2 hs2 => make1_at hd2 (hsm.cnt hcl) s.data.toList (by omega) w.heap.size (w.heap.size + 1) ((hk2.cell (p := ⟨w.heap.size, 0, none⟩) ⟨by simp; omega, by simpa using hne⟩).trans hbd) ((hk2.cell (p := ⟨w.heap.size + 1, 0, none⟩) ⟨by simp; omega, by simpa using hne'⟩).trans hbn) (out_of h (Nat.le_refl _)) (out_of h (by omega)))
        have HCN := Lib.hid hcn
        clear hcall hf hcn hsm hdn c4 hwd h hw1
        go_enter Try.func44, Try.ntmps44
        go_wp2_with (first | (go_at_call 47; rw [← Hw1.out]; refine HSH.out.mono ?_; rintro e w5 ⟨rfl, rfl⟩) | (go_at_call 65; refine HNM.out.mono ?_; rintro e w5 ⟨rfl, rfl⟩) | (go_at_call 34; refine HC.out.mono ?_; rintro e w5 ⟨rfl, rfl⟩) | (go_at_call 49; (with_reducible refine HCN.out.mono ?_); rintro e w5 ⟨rfl, g5, hd5, hst5⟩))
        go_ret
        exact ⟨rfl, g5, hd5, hst1.trans hst5⟩
      · rw [show d.make s.data.toList = (3, d) by unfold PD.make; simp [hdn, HOK.out, hf]]
        dsimp only
        have HC := Lib.hid hcall
        have HF := Lib.hid hf
        have hq := eqp_nil
        clear hcall hf hsm hdn c4 hwd h hw1
        go_enter Try.func44, Try.ntmps44
        go_wp2_with (first | (go_at_call 47; rw [← Hw1.out]; refine HSH.out.mono ?_; rintro e w5 ⟨rfl, rfl⟩) | (go_at_call 65; refine HNM.out.mono ?_; rintro e w5 ⟨rfl, rfl⟩) | (go_at_call 34; refine HC.out.mono ?_; rintro e w5 ⟨rfl, rfl⟩))
        go_ret
        exact ⟨rfl, g, hd1, hst1⟩
end Go.Proofs.Ytmlijnekidihbaa

/-
  What a Write does, once it is counted.
-/
namespace Go.Proofs.Ytmlijnekidihbaa
open Go.RowKit

/-- A file's row, one of its cells written. -/
theorem row_stored {w : World} {fb n cap : Nat} {l : List (GF × PF)} (h : w.ownsRow 0 93 3 (.slice (some ⟨fb, 0, none⟩) n cap) n (gfCells l)) (i j : Nat) (x x' : GF) (f f' : PF) (v : Value) (hx : l[i]? = some (x, f)) (hj : j < 3) (e : [x'.vs, x'.vn, x'.vl] = [x.vs, x.vn, x.vl].set j v) (hn : 0 < n) :
    (w.setCell ⟨fb, i * 3 + j, none⟩ v).ownsRow 0 93 3 (.slice (some ⟨fb, 0, none⟩) n cap) n (gfCells (l.set i (x', f'))) := by
  obtain ⟨g, cap', cur, hv, _, _, hb, _, _⟩ := own_form h hn
  cases hv
  have hset : gfCells (l.set i (x', f')) = (gfCells l).set (i * 3 + j) v := flat_set (fun x : GF × PF => [x.1.vs, x.1.vn, x.1.vl]) 3 (fun _ => rfl) l i j (x, f) (x', f') v hj hx e
  rw [hset]
  exact own_set h hb (blk_set hb v) (by simp) _ (by simp) (fun ht => by rw [take_set, ht])

def PF.wrote (f : PF) (a : Nat) (l : List UInt8) : PF := ⟨f.safe, wr f.now a l, f.loose ++ [(a, l)]⟩

set_option maxRecDepth 100000 in
set_option maxHeartbeats 4000000 in
set_option linter.unusedSimpArgs false in
theorem write1_at {g : Gh} {w : World} {p : Nat} {d : PD} (h : DiskAt g w p d) (hsm : Small d) (id fb cap : Nat) (x : GF) (f : PF) (hfv : g.fv = .slice (some ⟨fb, 0, none⟩) g.l.length cap) (hx : g.l[id]? = some (x, f)) (at_ : Nat) (l : List UInt8) (vb : Value) (hrd : RdB w vb l)
    (hat : at_ ≤ f.now.length) (hll : l.length < 2000000) (ba bb bf : Nat) (hba : w.cell? ⟨ba, 0, none⟩ = some (.int .i64 (at_ : Int))) (hbb : w.cell? ⟨bb, 0, none⟩ = some vb) (hbf : w.cell? ⟨bf, 0, none⟩ = some (.pointer (some ⟨fb, id * 3, none⟩))) (obf : g.o bf = .out) :
    Calls Try.prog 50 #[.pointer (some ⟨ba, 0, none⟩), .pointer (some ⟨bb, 0, none⟩), .pointer (some ⟨bf, 0, none⟩)] w fun e w' => e = .returned (.tuple #[]) ∧ ∃ g', DiskAt g' w' p { d with files := d.files.set id (f.wrote at_ l) } ∧ Step g g' w w' := by
  have hmem : (x, f) ∈ g.l := List.mem_of_getElem? hx
  have hfa := h.fa _ hmem
  have hfd : f ∈ d.files := by rw [h.fl]; exact List.mem_map.2 ⟨_, hmem, rfl⟩
  obtain ⟨s1, s2, s3, s4, s5, s6⟩ := hsm.fl f hfd
  have hin : id < g.l.length := (List.getElem?_eq_some_iff.1 hx).1
  have hfrow := h.fr
  rw [hfv] at hfrow
  obtain ⟨fb', cap', cur, hv', _, _, hfb, hcur, _⟩ := own_form hfrow (by omega)
  cases hv'
  have hofb : g.o fb = .files := h.of fb (by rw [hfv]; rfl)
  have hat2 := fun j hj => flat_at (fun x : GF × PF => [x.1.vs, x.1.vn, x.1.vl]) 3 (fun _ => rfl) g.l id j hj
  rw [hx] at hat2
  have hcl : w.cell? ⟨fb, id * 3 + 2, none⟩ = some x.vl := hcur _ _ (hat2 2 (by omega))
  have hcn : w.cell? ⟨fb, id * 3 + 1, none⟩ = some x.vn := hcur _ _ (hat2 1 (by omega))
  have hcur2 : cur[id * 3 + 2]? = some x.vl := by rw [← blk_cell hfb]; exact hcl
  have hcur1 : cur[id * 3 + 1]? = some x.vn := by rw [← blk_cell hfb]; exact hcn
  have hfbbf : fb ≠ bf := fun e => by subst e; rw [hofb] at obf; cases obf
  have hlfb : x.vl.ownBlock ≠ some fb := fun e => by have := hfa.ol fb e; rw [hofb] at this; cases this
  have hnfb : x.vn.ownBlock ≠ some fb := fun e => by have := hfa.on fb e; rw [hofb] at this; cases this
  have hsfb : x.vs.ownBlock ≠ some fb := fun e => by have := hfa.os fb e; rw [hofb] at this; cases this
  have hlbf : x.vl.ownBlock ≠ some bf := fun e => by have := hfa.ol bf e; rw [obf] at this; cases this
  have hnbf : x.vn.ownBlock ≠ some bf := fun e => by have := hfa.on bf e; rw [obf] at this; cases this
  have hlB : x.vl.ownBlock ≠ some w.heap.size := fun e => by have := own_lt hfa.vl _ e; omega
  have hnB : x.vn.ownBlock ≠ some w.heap.size := fun e => by have := own_lt hfa.vn _ e; omega
  have hnl : ∀ k, x.vn.ownBlock = some k → x.vl.ownBlock ≠ some k := fun k e e' => by have := hfa.on k e; rw [hfa.ol k e'] at this; cases this
  have hsl : ∀ k, x.vs.ownBlock = some k → x.vl.ownBlock ≠ some k := fun k e e' => by have := hfa.os k e; rw [hfa.ol k e'] at this; cases this
  have hsn : ∀ k, x.vs.ownBlock = some k → x.vn.ownBlock ≠ some k := fun k e e' => by have := hfa.os k e; rw [hfa.on k e'] at this; cases this
  have hfl := blk_lt hfb
  have hconv := rdB_convert hrd 22 5 9 Try.underlying22 Try.underlying5 Try.underlying9
  have hls := strB_size l
  obtain ⟨w1, hw1⟩ : ∃ w1, w1 = (w.alloc (.cells #[.int .i64 (at_ : Int), .string (strB l)] 96)).drew := ⟨_, rfl⟩
  have hbel : Below w.heap.size w w1 := by subst hw1; exact ((Below.refl _ _).alloc (Nat.le_refl _) _).drew
  have hx1 : w1.heap[w.heap.size]? = some (.cells #[.int .i64 (at_ : Int), .string (strB l)] 96 (0, 0)) := by subst hw1; exact heap_alloc_new w _
  have hfb1 : w1.heap[fb]? = some (.cells cur 93 (0, 0)) := (hbel.block fb hfl).trans hfb
  have hcf1 : w1.cell? ⟨bf, 0, none⟩ = some (.pointer (some ⟨fb, id * 3, none⟩)) := (hbel.cell (p := ⟨bf, 0, none⟩) (World.block_lt_of_cell? _ _ hbf)).trans hbf
  have hcl1 : w1.cell? ⟨fb, id * 3 + 2, none⟩ = some x.vl := (blk_cell hfb1).trans hcur2
  obtain ⟨vla, vlc, hvl, _, _⟩ := rd_of_own hfa.vl
  have hne : ¬ w.heap.size = fb := by omega
  have hs1 : w.heap.size < w1.heap.size := blk_lt hx1
  have hbfl := World.block_lt_of_cell? _ _ hbf
  have hne2 : ¬ w.heap.size = bf := by have : bf < w.heap.size := hbfl; omega
  have HD := Lib.hid h
  have Hw1 := Lib.hid hw1
  have HX := Lib.hid hx1
  have HFB := Lib.hid hfb1
  have HCF := Lib.hid hcf1
  have HCL := Lib.hid hcl1
  have HBEL := Lib.hid hbel
  have HFA := Lib.hid hfa
  have HCUR2 := Lib.hid hcur2
  have HCUR1 := Lib.hid hcur1
  have HVL := Lib.hid hvl
  have HFV := Lib.hid hfv
  have HXX := Lib.hid hx
  have HNL := Lib.hid hnl
  have HSL := Lib.hid hsl
  have HSN := Lib.hid hsn
  have HROW := Lib.hid hfrow
  have HOFB := Lib.hid hofb
  have HFB0 := Lib.hid hfb
  have HBF := Lib.hid hbf
  clear hw1 hx1 hfb1 hcf1 hcl1 hbel hfa hcur2 hcur1 hvl hfv hx hnl hsl hsn hcl hcn hcur hat2 h hsm hfrow hofb hrd s5 s6 hfd hmem hfb hbf
  go_enter Try.func50, Try.ntmps50
  go_wp2
  refine wp_region_two (fun wz => wz.cell? ⟨bf, 0, none⟩ = some (.pointer (some ⟨fb, id * 3, none⟩)) ∧ wz.cell? ⟨fb, id * 3 + 2, none⟩ = some x.vl ∧ wz.heap[w.heap.size]? = some (.cells #[.int .i64 (at_ : Int), .string (strB l)] 96 (0, 0))) (fun wz => wz.cell? ⟨bf, 0, none⟩ = some (.pointer (some ⟨fb, id * 3, none⟩))) [(1, 0), (0, 1), (0, 2), (0, 3), (0, 4), (0, 5), (2, 6), (3, 7), (1, 8), (1, 9), (3, 10)] [7, 10] (by kernel_rfl) (by kernel_rfl) (by kernel_rfl) (by kernel_rfl) (by kernel_rfl) (by rw [← Hw1.out]; exact ⟨HCF.out, HCL.out, HX.out⟩) (by rw [← Hw1.out]; exact HCF.out) ?_
  simp only [planT, List.drop_succ_cons, List.drop_zero]
  rw [← Hw1.out]
  refine PlanT.take1 (v := ?v0) (by kernel_rfl) ?y0 ?r0
  case y0 => (intro wz hz; go_simp; try with_reducible rfl)
  (try simp only [Act.put, List.setIfInBounds_toArray, List.set_cons_zero, List.set_cons_succ])
  refine PlanT.take0 (v := ?v1) (by kernel_rfl) ?y1 ?r1
  case y1 => (intro wz hz; obtain ⟨z1, z2, z3⟩ := hz; have q0 : wz.cell? ⟨w.heap.size, 0, none⟩ = some (.int .i64 (at_ : Int)) := blk_cell z3; have q1 : wz.cell? ⟨w.heap.size, 1, none⟩ = some (.string (strB l)) := blk_cell z3; clear z3; go_simp; try with_reducible rfl)
  (try simp only [Act.put, List.setIfInBounds_toArray, List.set_cons_zero, List.set_cons_succ])
  refine PlanT.take0 (v := ?v2) (by kernel_rfl) ?y2 ?r2
  case y2 => (intro wz hz; obtain ⟨z1, z2, z3⟩ := hz; have q0 : wz.cell? ⟨w.heap.size, 0, none⟩ = some (.int .i64 (at_ : Int)) := blk_cell z3; have q1 : wz.cell? ⟨w.heap.size, 1, none⟩ = some (.string (strB l)) := blk_cell z3; clear z3; go_simp; try with_reducible rfl)
  (try simp only [Act.put, List.setIfInBounds_toArray, List.set_cons_zero, List.set_cons_succ])
  refine PlanT.take0 (v := ?v3) (by kernel_rfl) ?y3 ?r3
  case y3 => (intro wz hz; obtain ⟨z1, z2, z3⟩ := hz; have q0 : wz.cell? ⟨w.heap.size, 0, none⟩ = some (.int .i64 (at_ : Int)) := blk_cell z3; have q1 : wz.cell? ⟨w.heap.size, 1, none⟩ = some (.string (strB l)) := blk_cell z3; clear z3; go_simp; try with_reducible rfl)
  (try simp only [Act.put, List.setIfInBounds_toArray, List.set_cons_zero, List.set_cons_succ])
  refine PlanT.take0 (v := ?v4) (by kernel_rfl) ?y4 ?r4
  case y4 => (intro wz hz; obtain ⟨z1, z2, z3⟩ := hz; have q0 : wz.cell? ⟨w.heap.size, 0, none⟩ = some (.int .i64 (at_ : Int)) := blk_cell z3; have q1 : wz.cell? ⟨w.heap.size, 1, none⟩ = some (.string (strB l)) := blk_cell z3; clear z3; go_simp; try with_reducible rfl)
  (try simp only [Act.put, List.setIfInBounds_toArray, List.set_cons_zero, List.set_cons_succ])
  refine PlanT.take0 (v := ?v5) (by kernel_rfl) ?y5 ?r5
  case y5 => (intro wz hz; obtain ⟨z1, z2, z3⟩ := hz; have q0 : wz.cell? ⟨w.heap.size, 0, none⟩ = some (.int .i64 (at_ : Int)) := blk_cell z3; have q1 : wz.cell? ⟨w.heap.size, 1, none⟩ = some (.string (strB l)) := blk_cell z3; clear z3; go_simp; try with_reducible rfl)
  (try simp only [Act.put, List.setIfInBounds_toArray, List.set_cons_zero, List.set_cons_succ])
  refine PlanT.exec2 (fun K hK => ⟨by kernel_rfl, ?_⟩)
  go_simp
  have hb2 := (Below.heap_alloc w1 (.cells #[.int .i64 (at_ : Int), .string (strB l)] 96) fb (blk_lt HFB.out)).trans HFB.out
  have hx2 := (Below.heap_alloc w1 (.cells #[.int .i64 (at_ : Int), .string (strB l)] 96) w.heap.size (blk_lt HX.out)).trans HX.out
  have hc2 : (w1.alloc (.cells #[.int .i64 (at_ : Int), .string (strB l)] 96)).cell? ⟨bf, 0, none⟩ = some (.pointer (some ⟨fb, id * 3, none⟩)) := (World.cell?_alloc_lt _ _ _ (World.block_lt_of_cell? w1 _ HCF.out)).trans HCF.out
  have hl2 : (w1.alloc (.cells #[.int .i64 (at_ : Int), .string (strB l)] 96)).cell? ⟨fb, id * 3 + 2, none⟩ = some x.vl := (World.cell?_alloc_lt _ _ _ (World.block_lt_of_cell? w1 _ HCL.out)).trans HCL.out
  refine hK.out _ _ ⟨hc2, hl2, hx2⟩ hc2 ?_
  clear hK K
  (try simp only [Act.put, List.setIfInBounds_toArray, List.set_cons_zero, List.set_cons_succ])
  refine PlanT.exec3 (fun K hK => ⟨by kernel_rfl, ?_⟩)
  refine wp_append_at (.tmp 12) (.tmp 14) 91 rfl 96 2 24 (.agg #[.int .i64 0, .string ⟨#[]⟩]) Try.underlying91 info_write rfl (by decide) x.vl _ f.loose.length 1 (putCells f.loose) (putCells [(at_, l)]) rfl rfl ?own ?rd (put_one _) (by omega) (by unfold maxLen; omega) ?_
  case own => exact own_kept HFA.out.vl (R := fun k => k < w.heap.size) (Kept.of (HBEL.out.alloc (by have := HBEL.out.size; omega) _) fun _ h => h) fun k e => own_lt HFA.out.vl k e
  case rd => exact ⟨_, 1, rfl, Nat.le_refl _, by unfold maxLen; omega, rfl, .inr ⟨w1.heap.size, 0, rfl, by simp, fun j u hj => by rw [blk_cell (heap_alloc_new w1 _)]; simpa [putCells] using hj⟩⟩
  intro v2 w2 ho2 hm2
  obtain ⟨av2, cv2, hv2, _, _⟩ := rd_of_own ho2
  subst hv2
  have hb3 := (hm2.grown.block fb (by have := blk_lt HFB.out; simp; omega) (fun e => hlfb e.symm)).trans hb2
  have hx3 := (hm2.grown.block w.heap.size (by have := blk_lt HX.out; simp; omega) (fun e => hlB e.symm)).trans hx2
  have hc3 : w2.cell? ⟨bf, 0, none⟩ = some (.pointer (some ⟨fb, id * 3, none⟩)) := (World.cell?_of_block (a := ⟨bf, 0, none⟩) (hm2.grown.block bf (World.block_lt_of_cell? _ _ hc2) (fun e => hlbf e.symm))).trans hc2
  have c5 : w2.cell? ⟨fb, id * 3 + 2, none⟩ = some x.vl := (blk_cell hb3).trans HCUR2.out
  have f5 : w2.frozen? ⟨fb, id * 3 + 2, none⟩ = false := blk_free hb3
  have HM2 := Lib.hid hm2
  have HO2 := Lib.hid ho2
  have HB3 := Lib.hid hb3
  have HC3 := Lib.hid hc3
  have HX3 := Lib.hid hx3
  clear hm2 ho2 hb3 hb2 hc2 hx2 hl2 hx3 hc3
  refine hK.out _ _ HC3.out ?_
  clear hK K
  (try simp only [Act.put, List.setIfInBounds_toArray, List.set_cons_zero, List.set_cons_succ])
  refine PlanT.take1 (v := ?v8) (by kernel_rfl) ?y8 ?r8
  case y8 => (intro wz hz; go_simp; try with_reducible rfl)
  (try simp only [Act.put, List.setIfInBounds_toArray, List.set_cons_zero, List.set_cons_succ])
  refine PlanT.take1 (v := ?v9) (by kernel_rfl) ?y9 ?r9
  case y9 => (intro wz hz; go_simp; try with_reducible rfl)
  (try simp only [Act.put, List.setIfInBounds_toArray, List.set_cons_zero, List.set_cons_succ])
  refine PlanT.exec3 (fun K hK => ⟨by kernel_rfl, ?_⟩)
  go_simp
  have hc4 : (w2.setCell ⟨fb, id * 3 + 2, none⟩ (.slice av2 (f.loose.length + 1) cv2)).cell? ⟨bf, 0, none⟩ = some (.pointer (some ⟨fb, id * 3, none⟩)) := (World.cell?_setCell_far _ _ _ _ hfbbf).trans HC3.out
  refine hK.out _ _ hc4 ?_
  clear hK K
  (try simp only [Act.put, List.setIfInBounds_toArray, List.set_cons_zero, List.set_cons_succ])
  refine PlanT.done (NoPanic.normal ?_)
  obtain ⟨v2, hv2⟩ : ∃ v2, v2 = Value.slice av2 (f.loose.length + 1) cv2 := ⟨_, rfl⟩
  obtain ⟨w3, hw3⟩ : ∃ w3, w3 = w2.setCell ⟨fb, id * 3 + 2, none⟩ v2 := ⟨_, rfl⟩
  rw [← hv2, ← hw3]
  have HM2' := HM2.out
  have HO2' := HO2.out
  rw [← hv2] at HM2' HO2'
  have hm3 : Moves w w2 x.vl v2 := Moves.after (HBEL.out.alloc (by have := HBEL.out.size; omega) _) HM2'
  have hk3 : Kept (fun k => k < w.heap.size ∧ k ≠ fb ∧ x.vl.ownBlock ≠ some k) w w3 := by
    subst hw3
    exact (hm3.kept fun k hk => ⟨hk.1, hk.2.2⟩).setCell (fun h => h.2.1 rfl) _
  have hs3 : w3.heap.size = w2.heap.size := by subst hw3; simp [World.setCell]
  have hv2fb : v2.ownBlock ≠ some fb := fun e => by
    rcases hm3.at_ fb e with h | h
    · exact hlfb h
    · omega
  have ho3 : w3.ownsRow 0 96 2 v2 (f.loose ++ [(at_, l)]).length (putCells (f.loose ++ [(at_, l)])) := by
    have e1 : putCells (f.loose ++ [(at_, l)]) = putCells f.loose ++ putCells [(at_, l)] := by simp [putCells]
    rw [e1, List.length_append]
    subst hw3
    exact own_kept HO2' (R := fun k => k ≠ fb) ((Kept.refl _ w2).setCell (fun h => h rfl) _) fun k e ep => hv2fb (by rw [← ep]; exact e)
  have hrow2 : w2.ownsRow 0 93 3 (.slice (some ⟨fb, 0, none⟩) g.l.length cap) g.l.length (gfCells g.l) := own_kept HROW.out (R := fun k => k = fb) (hm3.kept fun k hk => by subst hk; exact ⟨hfl, hlfb⟩) fun k e => by cases e; rfl
  have hrow3 := row_stored hrow2 id 2 x { x with vl := v2 } f ⟨f.safe, f.now, f.loose ++ [(at_, l)]⟩ v2 HXX.out (by omega) rfl (by omega)
  rw [← hw3] at hrow3
  have hset := HD.out.set_file (w' := w3) id x { x with vl := v2 } f ⟨f.safe, f.now, f.loose ++ [(at_, l)]⟩ HXX.out rfl (hk3.mono fun k hk => ⟨hk.1, fun e => hk.2.1 (by rw [HFV.out, e]; rfl), hk.2.2.2.2⟩)
    (by rw [HFV.out]; exact hrow3) (own_kept HFA.out.vs hk3 fun k e => ⟨own_lt HFA.out.vs k e, fun ep => hsfb (by rw [← ep]; exact e), HSL.out k e⟩)
    (own_kept HFA.out.vn hk3 fun k e => ⟨own_lt HFA.out.vn k e, fun ep => hnfb (by rw [← ep]; exact e), HNL.out k e⟩) ho3 (fun k e => .inl e) (fun k e => .inl e) (fun k e => (hm3.at_ k e).imp (fun h => h) (fun h => h.1))
    HSN.out (fun k e e' => by rcases hm3.at_ k e' with h | h; exact HSL.out k e h; have := own_lt HFA.out.vs k e; omega) (fun k e e' => by rcases hm3.at_ k e' with h | h; exact HNL.out k e h; have := own_lt HFA.out.vn k e; omega)
  obtain ⟨w4, hw4⟩ : ∃ w4, w4 = w3.drew := ⟨_, rfl⟩
  have hd4 := hset.1.drew
  rw [← hw4] at hd4
  have hk34 : Below w3.heap.size w3 w4 := by subst hw4; exact (Below.refl _ _).drew
  have hs4 : w4.heap.size = w3.heap.size := by subst hw4; rfl
  have hb4 : w4.heap[fb]? = some (.cells (cur.setIfInBounds (id * 3 + 2) v2) 93 (0, 0)) := by subst hw4; subst hw3; exact blk_set HB3.out _
  have hc4' : w4.cell? ⟨bf, 0, none⟩ = some (.pointer (some ⟨fb, id * 3, none⟩)) := by subst hw4; subst hw3; rw [hv2]; exact hc4
  have hx4 : w4.heap[w.heap.size]? = some (.cells #[.int .i64 (at_ : Int), .string (strB l)] 96 (0, 0)) := by subst hw4; subst hw3; exact (Below.heap_setCell _ _ _ _ hne).trans HX3.out
  have hn4 : OwnB w4 0 5 x.vn f.now := own_kept HFA.out.vn (hk3.trans (Kept.of hk34 fun k hk => by have := hk3.size; omega)) fun k e => ⟨own_lt HFA.out.vn k e, fun ep => hnfb (by rw [← ep]; exact e), HNL.out k e⟩
  have hcur4 : (cur.setIfInBounds (id * 3 + 2) v2)[id * 3 + 1]? = some x.vn := by rw [Array.getElem?_setIfInBounds_ne (by omega)]; exact HCUR1.out
  have c1' : w4.cell? ⟨fb, id * 3 + 1, none⟩ = some x.vn := (blk_cell hb4).trans hcur4
  have q0 : w4.cell? ⟨w.heap.size, 0, none⟩ = some (.int .i64 (at_ : Int)) := blk_cell hx4
  have q1 : w4.cell? ⟨w.heap.size, 1, none⟩ = some (.string (strB l)) := blk_cell hx4
  have hst4 : Step g _ w w4 := hset.2.trans (Step.below hk34)
  have hsz4 := hk3.size
  have Hw4 := Lib.hid hw4
  have HB4 := Lib.hid hb4
  have HC4 := Lib.hid hc4'
  have HN4 := Lib.hid hn4
  have HCUR4 := Lib.hid hcur4
  have HD4 := Lib.hid hd4
  have HST4 := Lib.hid hst4
  have hc4x := hc4'
  have HS4 := Lib.hid hs4
  have HROW3 := Lib.hid hrow3
  have HK34 := Lib.hid hk34
  have hx4l := blk_lt hx4
  clear hset hd4 hst4 hw4 hb4 hc4' hn4 hcur4 hx4 hrow2 hrow3 ho3 hs3 hk3 hm3 HM2' HO2' hc4 hw3 c5 f5 hk34 hs4 hv2
  go_wp2
  refine wp_region_two (fun wz => wz = w4) (fun wz => wz.cell? ⟨bf, 0, none⟩ = some (.pointer (some ⟨fb, id * 3, none⟩))) [(1, 0), (0, 1), (0, 2), (0, 3), (0, 4), (0, 5), (3, 6), (1, 7), (1, 8), (3, 9)] [6, 9] (by kernel_rfl) (by kernel_rfl) (by kernel_rfl) (by kernel_rfl) (by kernel_rfl) Hw4.out.symm (by rw [← Hw4.out]; exact HC4.out) ?_
  simp only [planT, List.drop_succ_cons, List.drop_zero]
  rw [← Hw4.out]
  refine PlanT.take1 (v := ?vB0) (by kernel_rfl) ?yB0 ?rB0
  case yB0 => (intro wz hz; go_simp; try with_reducible rfl)
  (try simp only [Act.put, List.setIfInBounds_toArray, List.set_cons_zero, List.set_cons_succ])
  refine PlanT.take0 (v := ?vB1) (by kernel_rfl) ?yB1 ?rB1
  case yB1 => (intro wz hz; subst hz; go_simp; try with_reducible rfl)
  (try simp only [Act.put, List.setIfInBounds_toArray, List.set_cons_zero, List.set_cons_succ])
  refine PlanT.take0 (v := ?vB2) (by kernel_rfl) ?yB2 ?rB2
  case yB2 => (intro wz hz; subst hz; go_simp; try with_reducible rfl)
  (try simp only [Act.put, List.setIfInBounds_toArray, List.set_cons_zero, List.set_cons_succ])
  refine PlanT.take0 (v := ?vB3) (by kernel_rfl) ?yB3 ?rB3
  case yB3 => (intro wz hz; subst hz; go_simp; try with_reducible rfl)
  (try simp only [Act.put, List.setIfInBounds_toArray, List.set_cons_zero, List.set_cons_succ])
  refine PlanT.take0 (v := ?vB4) (by kernel_rfl) ?yB4 ?rB4
  case yB4 => (intro wz hz; subst hz; go_simp; try with_reducible rfl)
  (try simp only [Act.put, List.setIfInBounds_toArray, List.set_cons_zero, List.set_cons_succ])
  refine PlanT.take0 (v := ?vB5) (by kernel_rfl) ?yB5 ?rB5
  case yB5 => (intro wz hz; subst hz; go_simp; try with_reducible rfl)
  (try simp only [Act.put, List.setIfInBounds_toArray, List.set_cons_zero, List.set_cons_succ])
  refine PlanT.exec3 (fun K hK => ⟨by kernel_rfl, ?_⟩)
  go_simp
  refine (over_any w4 at_ l x.vn f.now HN4.out hat (by omega)).mono ?_
  rintro e w5 ⟨v5, rfl, ho5, hm5⟩
  obtain ⟨av5, cv5, hv5, _, _⟩ := ho5.read.form
  subst hv5
  have hb6 := (hm5.grown.block fb (blk_lt HB4.out) (fun e => hnfb e.symm)).trans HB4.out
  have hc6 : w5.cell? ⟨bf, 0, none⟩ = some (.pointer (some ⟨fb, id * 3, none⟩)) := (World.cell?_of_block (a := ⟨bf, 0, none⟩) (hm5.grown.block bf (World.block_lt_of_cell? _ _ HC4.out) (fun e => hnbf e.symm))).trans HC4.out
  have c6 : w5.cell? ⟨fb, id * 3 + 1, none⟩ = some x.vn := (blk_cell hb6).trans HCUR4.out
  have f6 : w5.frozen? ⟨fb, id * 3 + 1, none⟩ = false := blk_free hb6
  have HM5 := Lib.hid hm5
  have HO5 := Lib.hid ho5
  have HB6 := Lib.hid hb6
  have HC6 := Lib.hid hc6
  clear hm5 ho5 hb6 hc6
  refine hK.out _ _ HC6.out ?_
  clear hK K
  (try simp only [Act.put, List.setIfInBounds_toArray, List.set_cons_zero, List.set_cons_succ])
  refine PlanT.take1 (v := ?vB7) (by kernel_rfl) ?yB7 ?rB7
  case yB7 => (intro wz hz; go_simp; try with_reducible rfl)
  (try simp only [Act.put, List.setIfInBounds_toArray, List.set_cons_zero, List.set_cons_succ])
  refine PlanT.take1 (v := ?vB8) (by kernel_rfl) ?yB8 ?rB8
  case yB8 => (intro wz hz; go_simp; try with_reducible rfl)
  (try simp only [Act.put, List.setIfInBounds_toArray, List.set_cons_zero, List.set_cons_succ])
  refine PlanT.exec3 (fun K hK => ⟨by kernel_rfl, ?_⟩)
  go_simp
  have hc7 : (w5.setCell ⟨fb, id * 3 + 1, none⟩ (.slice av5 (wr f.now at_ l).length cv5)).cell? ⟨bf, 0, none⟩ = some (.pointer (some ⟨fb, id * 3, none⟩)) := (World.cell?_setCell_far _ _ _ _ hfbbf).trans HC6.out
  refine hK.out _ _ hc7 ?_
  clear hK K
  (try simp only [Act.put, List.setIfInBounds_toArray, List.set_cons_zero, List.set_cons_succ])
  refine PlanT.done (NoPanic.normal ?_)
  obtain ⟨v5, hv5⟩ : ∃ v5, v5 = Value.slice av5 (wr f.now at_ l).length cv5 := ⟨_, rfl⟩
  rw [← hv5]
  have HM5' := HM5.out
  have HO5' := HO5.out
  rw [← hv5] at HM5' HO5'
  have Hv5 := Lib.hid hv5
  clear hv5
  have hin2 : id < (g.l.set id ({ x with vl := v2 }, ⟨f.safe, f.now, f.loose ++ [(at_, l)]⟩)).length := by rw [List.length_set]; exact hin
  have hx6 : (g.l.set id ({ x with vl := v2 }, (⟨f.safe, f.now, f.loose ++ [(at_, l)]⟩ : PF)))[id]? = some ({ x with vl := v2 }, ⟨f.safe, f.now, f.loose ++ [(at_, l)]⟩) := by
    rw [List.getElem?_set, if_pos rfl, if_pos hin]
  have hfa6 := HD4.out.fa _ (List.mem_of_getElem? hx6)
  have hv5fb : v5.ownBlock ≠ some fb := fun e => by
    rcases HM5'.at_ fb e with h | h
    · exact hnfb h
    · have := HS4.out; omega
  have hk6 : Kept (fun k => k < w4.heap.size ∧ k ≠ fb ∧ x.vn.ownBlock ≠ some k) w4 (w5.setCell ⟨fb, id * 3 + 1, none⟩ v5) := (HM5'.kept fun k hk => ⟨hk.1, hk.2.2⟩).setCell (fun h => h.2.1 rfl) _
  have hrow4 : w5.ownsRow 0 93 3 (.slice (some ⟨fb, 0, none⟩) g.l.length cap) g.l.length (gfCells (g.l.set id ({ x with vl := v2 }, ⟨f.safe, f.now, f.loose ++ [(at_, l)]⟩))) :=
    own_kept HROW3.out (R := fun k => k = fb) ((Kept.of HK34.out fun k hk => by subst hk; omega).trans (HM5'.kept fun k hk => by subst hk; exact ⟨by have := HS4.out; omega, hnfb⟩)) fun k e => by cases e; rfl
  have hrow6 := row_stored hrow4 id 1 { x with vl := v2 } { x with vl := v2, vn := v5 } ⟨f.safe, f.now, f.loose ++ [(at_, l)]⟩ (f.wrote at_ l) v5 hx6 (by omega) rfl (by omega)
  have hset6 := HD4.out.set_file (w' := w5.setCell ⟨fb, id * 3 + 1, none⟩ v5) id { x with vl := v2 } { x with vl := v2, vn := v5 } ⟨f.safe, f.now, f.loose ++ [(at_, l)]⟩ (f.wrote at_ l) hx6 rfl (hk6.mono fun k hk => ⟨hk.1, fun e => hk.2.1 (by show g.fv.ownBlock = _; rw [HFV.out, e]; rfl), hk.2.2.2.1⟩)
    (by show World.ownsRow _ _ _ _ g.fv _ _; rw [HFV.out, List.length_set]; exact hrow6)
    (own_kept hfa6.vs hk6 fun k e => ⟨own_lt hfa6.vs k e, fun ep => hsfb (by rw [← ep]; exact e), HSN.out k e⟩)
    (own_kept HO5' (R := fun k => k ≠ fb) ((Kept.refl _ w5).setCell (fun h => h rfl) _) fun k e ep => hv5fb (by rw [← ep]; exact e))
    (own_kept hfa6.vl hk6 fun k e => ⟨own_lt hfa6.vl k e, fun ep => hv2fb (by rw [← ep]; exact e), fun e' => by have h1 := hfa6.ol k e; have h2 := hfa6.on k e'; rw [h1] at h2; cases h2⟩)
    (fun k e => .inl e) (fun k e => (HM5'.at_ k e).imp (fun h => h) (fun h => h.1)) (fun k e => .inl e)
    (fun k e e' => by rcases HM5'.at_ k e' with h | h; exact HSN.out k e h; have := own_lt hfa6.vs k e; omega) (fun k e e' => by have h1 := hfa6.os k e; have h2 := hfa6.ol k e'; rw [h1] at h2; cases h2)
    (fun k e e' => by rcases HM5'.at_ k e with h | h; exact (fun h1 h2 => by rw [h1] at h2; cases h2) (hfa6.on k h) (hfa6.ol k e'); have := own_lt hfa6.vl k e'; omega)
  go_wp2
  go_end0
  refine ⟨rfl, _, ?_, HST4.out.trans hset6.2⟩
  have := hset6.1
  rw [show (d.files.set id (⟨f.safe, f.now, f.loose ++ [(at_, l)]⟩ : PF)).set id (f.wrote at_ l) = d.files.set id (f.wrote at_ l) from by rw [List.set_set]] at this
  exact this
end Go.Proofs.Ytmlijnekidihbaa

/-
  What a Safe does, once it is counted; Safe.
-/
namespace Go.Proofs.Ytmlijnekidihbaa
open Go.RowKit

def PF.safed (f : PF) : PF := ⟨kept f.loose (manyL f.loose) f.safe, f.now, []⟩

theorem gf_set2 (l : List (GF × PF)) (i : Nat) (x : GF) (f f' : PF) (a c : Value) (hx : l[i]? = some (x, f)) : gfCells (l.set i ({ x with vs := a, vl := c }, f')) = ((gfCells l).set (i * 3 + 0) a).set (i * 3 + 2) c := by
  have h1 : gfCells (l.set i ({ x with vs := a }, f)) = (gfCells l).set (i * 3 + 0) a := flat_set (fun x : GF × PF => [x.1.vs, x.1.vn, x.1.vl]) 3 (fun _ => rfl) l i 0 (x, f) ({ x with vs := a }, f) a (by omega) hx rfl
  have hl : i < l.length := (List.getElem?_eq_some_iff.1 hx).1
  have h2 : gfCells ((l.set i ({ x with vs := a }, f)).set i ({ x with vs := a, vl := c }, f')) = (gfCells (l.set i ({ x with vs := a }, f))).set (i * 3 + 2) c :=
    flat_set (fun x : GF × PF => [x.1.vs, x.1.vn, x.1.vl]) 3 (fun _ => rfl) _ i 2 ({ x with vs := a }, f) ({ x with vs := a, vl := c }, f') c (by omega) (by rw [List.getElem?_set, if_pos rfl, if_pos hl]) rfl
  rw [List.set_set, h1] at h2
  exact h2

/-- A file of a disk is made safe, the first bytes of its loose writes. -/
theorem fsettle_at {g : Gh} {w : World} {p : Nat} {d : PD} (h : DiskAt g w p d) (hsm : Small d) (id fb cap left : Nat) (x : GF) (f : PF) (hfv : g.fv = .slice (some ⟨fb, 0, none⟩) g.l.length cap) (hx : g.l[id]? = some (x, f)) (hleft : left < 1000000000000) :
    Calls Try.prog 59 #[.pointer (some ⟨fb, id * 3, none⟩), .int .i64 (left : Int)] w fun e w' => e = .returned (.tuple #[]) ∧ ∃ g', DiskAt g' w' p { d with files := d.files.set id ⟨kept f.loose left f.safe, f.now, []⟩ } ∧ Step g g' w w' ∧ g'.fv = g.fv ∧ g'.l.length = g.l.length ∧ Kept (fun k => k < w.heap.size ∧ g.o k = .out) w w' := by
  have hmem : (x, f) ∈ g.l := List.mem_of_getElem? hx
  have hfa := h.fa _ hmem
  have hfd : f ∈ d.files := by rw [h.fl]; exact List.mem_map.2 ⟨_, hmem, rfl⟩
  obtain ⟨s1, s2, s3, s4, s5, s6⟩ := hsm.fl f hfd
  have hin : id < g.l.length := (List.getElem?_eq_some_iff.1 hx).1
  have hfrow := h.fr
  rw [hfv] at hfrow
  obtain ⟨fb', cap', cur, hv', _, _, hfb, hcur, _⟩ := own_form hfrow (by omega)
  cases hv'
  have hofb : g.o fb = .files := h.of fb (by rw [hfv]; rfl)
  have hat2 := fun j hj => flat_at (fun x : GF × PF => [x.1.vs, x.1.vn, x.1.vl]) 3 (fun _ => rfl) g.l id j hj
  rw [hx] at hat2
  have hcur0 : cur[id * 3]? = some x.vs := by rw [← blk_cell hfb]; exact hcur _ _ (hat2 0 (by omega))
  have hcur2 : cur[id * 3 + 2]? = some x.vl := by rw [← blk_cell hfb]; exact hcur _ _ (hat2 2 (by omega))
  have hsfb : x.vs.ownBlock ≠ some fb := fun e => by have := hfa.os fb e; rw [hofb] at this; cases this
  have hlfb : x.vl.ownBlock ≠ some fb := fun e => by have := hfa.ol fb e; rw [hofb] at this; cases this
  have hnfb : x.vn.ownBlock ≠ some fb := fun e => by have := hfa.on fb e; rw [hofb] at this; cases this
  have hsl : ∀ k, x.vs.ownBlock = some k → x.vl.ownBlock ≠ some k := fun k e e' => by have := hfa.os k e; rw [hfa.ol k e'] at this; cases this
  have hsn : ∀ k, x.vs.ownBlock = some k → x.vn.ownBlock ≠ some k := fun k e e' => by have := hfa.os k e; rw [hfa.on k e'] at this; cases this
  refine (fsettle_any w fb (id * 3) left cur 93 x.vs x.vl f.safe f.loose hfb hcur0 hcur2 hfa.vs hfa.vl hsfb hlfb hsl s5 (by omega) (by omega) hleft).mono ?_
  rintro e w3 ⟨rfl, vs', r1, r2, r3, r4⟩
  have hnvs' : ∀ k, vs'.ownBlock = some k → x.vn.ownBlock ≠ some k := fun k e e' => by
    rcases r4 k e with h1 | h1
    · exact hsn k h1 e'
    · have := own_lt hfa.vn k e'; omega
  have hrow := own_set hfrow hfb r2 (by simp) (gfCells (g.l.set id ({ x with vs := vs', vl := .slice none 0 0 }, ⟨kept f.loose left f.safe, f.now, []⟩))) (by rw [gf_set2 _ _ _ f _ _ _ hx]; simp)
    (fun ht => by rw [gf_set2 _ _ _ f _ _ _ hx, take_set, take_set, ht]; rfl)
  rw [← hfv] at hrow
  have hset := h.set_file (w' := w3) id x { x with vs := vs', vl := .slice none 0 0 } f ⟨kept f.loose left f.safe, f.now, []⟩ hx rfl (r3.mono fun k hk => ⟨hk.1, fun e => hk.2.1 (by rw [hfv, e]; rfl), hk.2.2.1⟩) hrow r1
    (own_kept hfa.vn r3 fun k e => ⟨own_lt hfa.vn k e, fun ep => hnfb (by rw [← ep]; exact e), fun e' => hsn k e' e⟩) (World.ownsRow_nil _ _ _ _)
    (fun k e => (r4 k e).imp (fun h => h) (fun h => h.1)) (fun k e => .inl e) (fun k e => (by cases e)) hnvs' (fun k e e' => (by cases e')) (fun k e e' => (by cases e'))
  exact ⟨rfl, _, hset.1, hset.2, rfl, by simp, r3.mono fun k hk => ⟨hk.1, fun e => (by subst e; rw [hofb] at hk; exact absurd hk.2 (by simp)), fun e => (by have := hfa.os k e; rw [hk.2] at this; cases this)⟩⟩

set_option maxRecDepth 100000 in
set_option maxHeartbeats 4000000 in
set_option linter.unusedSimpArgs false in
theorem safe1_at {g : Gh} {w : World} {p : Nat} {d : PD} (h : DiskAt g w p d) (hsm : Small d) (id fb cap : Nat) (x : GF) (f : PF) (hfv : g.fv = .slice (some ⟨fb, 0, none⟩) g.l.length cap) (hx : g.l[id]? = some (x, f)) (bf : Nat) (hbf : w.cell? ⟨bf, 0, none⟩ = some (.pointer (some ⟨fb, id * 3, none⟩))) (obf : g.o bf = .out) :
    Calls Try.prog 58 #[.pointer (some ⟨bf, 0, none⟩)] w fun e w' => e = .returned (.tuple #[]) ∧ ∃ g', DiskAt g' w' p { d with files := d.files.set id f.safed } ∧ Step g g' w w' := by
  have hmem : (x, f) ∈ g.l := List.mem_of_getElem? hx
  have hfd : f ∈ d.files := by rw [h.fl]; exact List.mem_map.2 ⟨_, hmem, rfl⟩
  obtain ⟨s1, s2, s3, s4, s5, s6⟩ := hsm.fl f hfd
  obtain ⟨w1, hw1⟩ : ∃ w1, w1 = w.drew := ⟨_, rfl⟩
  have hd1 : DiskAt g w1 p d := by subst hw1; exact h.drew
  have hb1 : Below w.heap.size w w1 := by subst hw1; exact (Below.refl _ _).drew
  have hfa1 := hd1.fa _ hmem
  have hcf : w1.cell? ⟨bf, 0, none⟩ = some (.pointer (some ⟨fb, id * 3, none⟩)) := by subst hw1; exact hbf
  obtain ⟨fb2, cap2, x2, hfv2, _, hx2, _, _, _, e0, e1, e2, _⟩ := hd1.file (i := id) (f := f) (by rw [h.fl, List.getElem?_map, hx]; rfl)
  rw [hfv] at hfv2
  cases hfv2
  rw [hx] at hx2
  cases hx2
  have hset : ∀ w2, Below w1.heap.size w1 w2 → Calls Try.prog 59 #[.pointer (some ⟨fb, id * 3, none⟩), .int .i64 (((f.loose.map fun p => p.2.length).sum : Nat) : Int)] w2 fun e w' => e = .returned (.tuple #[]) ∧ ∃ g', DiskAt g' w' p { d with files := d.files.set id f.safed } ∧ Step g g' w w' ∧ w'.cell? ⟨bf, 0, none⟩ = some (.pointer (some ⟨fb, id * 3, none⟩)) := by
    intro w2 hB
    have hd2 : DiskAt g w2 p d := hd1.below hB
    refine (fsettle_at hd2 hsm id fb cap (manyL f.loose) x f hfv hx (by omega)).mono ?_
    rintro e w3 ⟨rfl, g3, r1, r2, _, _, r5⟩
    refine ⟨rfl, g3, r1, ((Step.below hb1).trans (Step.below hB)).trans r2, ?_⟩
    have hl1 := World.block_lt_of_cell? _ _ hcf
    exact (r5.cell (p := ⟨bf, 0, none⟩) ⟨Nat.lt_of_lt_of_le hl1 hB.size, obf⟩).trans ((hB.cell (p := ⟨bf, 0, none⟩) hl1).trans hcf)
  have Hw1 := Lib.hid hw1
  have HCF := Lib.hid hcf
  have HCL := Lib.hid e2
  have HFA1 := Lib.hid hfa1.vl
  have HSET := Lib.hid hset
  clear hw1 hcf e2 e0 e1 hfa1 hset hd1 h hsm hfv hx s5 s6 hb1 hmem hfd hbf
  go_enter Try.func58, Try.ntmps58
  go_wp2
  refine wp_region_two (fun wz => wz.cell? ⟨bf, 0, none⟩ = some (.pointer (some ⟨fb, id * 3, none⟩))) (fun wz => wz.cell? ⟨bf, 0, none⟩ = some (.pointer (some ⟨fb, id * 3, none⟩))) [(0, 0), (0, 1), (2, 2), (3, 3)] [3] (by kernel_rfl) (by kernel_rfl) (by kernel_rfl) (by kernel_rfl) (by kernel_rfl) (by rw [← Hw1.out]; exact HCF.out) (by rw [← Hw1.out]; exact HCF.out) ?_
  simp only [planT, List.drop_succ_cons, List.drop_zero]
  rw [← Hw1.out]
  refine PlanT.take0 (v := ?v0) (by kernel_rfl) ?y0 ?r0
  case y0 => (intro wz hz; go_simp; try with_reducible rfl)
  (try simp only [Act.put, List.setIfInBounds_toArray, List.set_cons_zero, List.set_cons_succ])
  refine PlanT.take0 (v := ?v1) (by kernel_rfl) ?y1 ?r1
  case y1 => (intro wz hz; go_simp; try with_reducible rfl)
  (try simp only [Act.put, List.setIfInBounds_toArray, List.set_cons_zero, List.set_cons_succ])
  refine PlanT.exec2 (fun K hK => ⟨by kernel_rfl, ?_⟩)
  go_simp
  refine (pending_any w1 fb (id * 3) x.vl f.loose HCL.out HFA1.out (by show manyL f.loose < _; omega) (by omega)).mono ?_
  rintro e w2 ⟨rfl, hB2⟩
  have hc2 : w2.cell? ⟨bf, 0, none⟩ = some (.pointer (some ⟨fb, id * 3, none⟩)) := (hB2.cell (p := ⟨bf, 0, none⟩) (World.block_lt_of_cell? _ _ HCF.out)).trans HCF.out
  refine hK.out _ _ hc2 hc2 ?_
  clear hK K
  (try simp only [Act.put, List.setIfInBounds_toArray, List.set_cons_zero, List.set_cons_succ])
  refine PlanT.exec3 (fun K hK => ⟨by kernel_rfl, ?_⟩)
  go_simp
  refine (HSET.out w2 hB2).mono ?_
  rintro e w3 ⟨rfl, g3, hd3, hst3, hc3⟩
  refine hK.out _ _ hc3 ?_
  clear hK K
  (try simp only [Act.put, List.setIfInBounds_toArray, List.set_cons_zero, List.set_cons_succ])
  refine PlanT.done (NoPanic.normal ?_)
  go_end0
  exact ⟨rfl, g3, hd3, hst3⟩

def PD.file (d : PD) (id : Nat) : PF := d.files.getD id PF.new

def PD.makeSafe (d : PD) (n : List UInt8) : Nat × PD :=
  if d.down then (7, d) else match dfind d.names n with
  | none => (2, d)
  | some id => (d.err, d.after fun d => { d with files := d.files.set id (d.file id).safed })

theorem enters_safe1 : Enters Try.prog 58 := enters_of Try.func58 (by kernel_rfl) rfl
theorem eqf_nil (w : World) (a : Addr) : (binOp .eql 75 (.pointer (some a)) (.pointer none)).run Try.prog w = .ok (.bool false) w := by kernel_rfl
theorem eqf_nil2 (w : World) : (binOp .eql 75 (.pointer none) (.pointer none)).run Try.prog w = .ok (.bool true) w := by kernel_rfl

set_option maxRecDepth 100000 in
set_option maxHeartbeats 2000000 in
theorem safe_at {g : Gh} {w : World} {p : Nat} {d : PD} (h : DiskAt g w p d) (hsm : Small d) (hcl : d.calls + 1 < 10000) (s : ByteArray) (hs : s.size ≤ maxLen) :
    Calls Try.prog 29 #[.pointer (some ⟨p, 0, none⟩), .string s] w fun e w' => e = .returned (.int .i64 ((d.makeSafe s.data.toList).1 : Int)) ∧ ∃ g', DiskAt g' w' p (d.makeSafe s.data.toList).2 ∧ Step g g' w w' := by
  have c4 : w.cell? ⟨p, 4, none⟩ = some (.bool d.down) := blk_cell h.blk
  have hpw := blk_lt h.blk
  cases hdn : d.down with
  | true =>
    rw [show d.makeSafe s.data.toList = (7, d) by unfold PD.makeSafe; simp [hdn]]
    dsimp only
    rw [hdn] at c4
    have HSH := Lib.hid (shut_any w p true c4)
    clear hsm hdn c4
    have HH := Lib.hid h
    clear h
    go_enter Try.func29, Try.ntmps29
    go_wp2_with (go_at_call 47; refine HSH.out.mono ?_; rintro e w5 ⟨rfl, rfl⟩)
    go_ret
    exact ⟨rfl, g, HH.out, Step.refl _ _⟩
  | false =>
    rw [hdn] at c4
    have HSH := Lib.hid (shut_any w p false c4)
    rcases find_at h s hs hsm.idn with ⟨hf, hcall⟩ | ⟨id, fb, cap, x, f, hf, hidl, hfv, hx, hff, _, _, _, _, _, _, _, hcall⟩
    · rw [show d.makeSafe s.data.toList = (2, d) by unfold PD.makeSafe; simp [hdn, hf]]
      dsimp only
      have HC := Lib.hid hcall
      have hq := eqf_nil2
      have HH := Lib.hid h
      clear hcall hf hsm hdn c4 h
      go_enter Try.func29, Try.ntmps29
      go_wp2_with (first | (go_at_call 47; refine HSH.out.mono ?_; rintro e w5 ⟨rfl, rfl⟩) | (go_at_call 34; refine HC.out.mono ?_; rintro e w5 ⟨rfl, rfl⟩))
      go_ret
      have hb : Below w.heap.size w (w.alloc (.cells #[.pointer none] 75)) := (Below.refl _ _).alloc (Nat.le_refl _) _
      exact ⟨rfl, g, HH.out.below hb, Step.below hb⟩
    · rw [show d.makeSafe s.data.toList = (d.err, d.after fun d => { d with files := d.files.set id (d.file id).safed }) by unfold PD.makeSafe; simp [hdn, hf]]
      dsimp only
      have hfile : d.file id = f := by unfold PD.file; rw [List.getD_eq_getElem?_getD, hff]; rfl
      have HC := Lib.hid hcall
      have hq := eqf_nil
      have hb : Below w.heap.size w (w.alloc (.cells #[.pointer (some ⟨fb, id * 3, none⟩)] 75)) := (Below.refl _ _).alloc (Nat.le_refl _) _
      have hcn := counted (k := 58) (fst := #[]) (caps := #[.pointer (some ⟨w.heap.size, 0, none⟩)]) (h.below hb) (by omega) enters_safe1 (fun d => { d with files := d.files.set id (d.file id).safed }) rfl
        (fun _ w2 hd2 hk2 hs2 => by
          have hc := (hk2.cell (p := ⟨w.heap.size, 0, none⟩) ⟨by simp, by show w.heap.size ≠ p; omega⟩).trans (blk_cell (heap_alloc_new w (.cells #[.pointer (some ⟨fb, id * 3, none⟩)] 75)))
          have := safe1_at hd2 (hsm.cnt hcl) id fb cap x f hfv hx w.heap.size hc (out_of h (Nat.le_refl _))
          show Calls _ _ _ _ fun e w2 => e = .returned (.tuple #[]) ∧ ∃ g', DiskAt g' w2 p { d.cnt with files := d.files.set id (d.file id).safed } ∧ _
          rw [hfile]
          exact this)
      have HCN := Lib.hid hcn
      have HB := Lib.hid hb
      clear hcall hf hcn hsm hdn c4 h hfv hx hff hfile hb
      go_enter Try.func29, Try.ntmps29
      go_wp2_with (first | (go_at_call 47; refine HSH.out.mono ?_; rintro e w5 ⟨rfl, rfl⟩) | (go_at_call 34; refine HC.out.mono ?_; rintro e w5 ⟨rfl, rfl⟩) | (go_at_call 49; (with_reducible refine HCN.out.mono ?_); rintro e w5 ⟨rfl, g5, hd5, hst5⟩))
      go_ret
      exact ⟨rfl, g5, hd5, (Step.below HB.out).trans hst5⟩
end Go.Proofs.Ytmlijnekidihbaa

/-
  Write.
-/
namespace Go.Proofs.Ytmlijnekidihbaa
open Go.RowKit

def PD.used (d : PD) : Nat := (d.names.map fun x => (d.file x.2).now.length).sum

def PD.write (d : PD) (n : List UInt8) (a : Int) (l : List UInt8) : Nat × PD :=
  if d.down then (7, d) else match dfind d.names n with
  | none => (2, d)
  | some id =>
    if a < 0 ∨ ((d.file id).now.length : Int) < a then (1, d)
    else if (1048576 : Int) < a + (l.length : Int) then (4, d)
    else if d.room < (d.used : Int) + max 0 (a + (l.length : Int) - ((d.file id).now.length : Int)) then (6, d)
    else (d.err, d.after fun d => { d with files := d.files.set id ((d.file id).wrote a.toNat l) })

theorem sum_le {α : Type} (l : List α) (f : α → Nat) (b : Nat) (h : ∀ x ∈ l, f x ≤ b) : (l.map f).sum ≤ l.length * b := by
  induction l with
  | nil => simp
  | cons x r ih =>
    simp only [List.map_cons, List.sum_cons, List.length_cons, Nat.succ_mul]
    have := h x (by simp)
    have := ih fun y hy => h y (by simp [hy])
    omega

theorem Small.used {d : PD} (h : Small d) : d.used < 100000000000 := by
  have h1 : d.used ≤ d.names.length * 2000000 := by
    refine sum_le _ _ _ fun x hx => ?_
    have hi := h.idn x hx
    have : d.file x.2 ∈ d.files := by unfold PD.file; rw [List.getD_eq_getElem?_getD, List.getElem?_eq_getElem hi]; exact List.getElem_mem hi
    have := (h.fl _ this).2.1
    omega
  have := h.names
  omega

/-- How many bytes all files have. -/
theorem used_at {g : Gh} {w : World} {p : Nat} {d : PD} (h : DiskAt g w p d) (hsm : Small d) :
    Calls Try.prog 48 #[.pointer (some ⟨p, 0, none⟩)] w fun e w' => e = .returned (.int .i64 (d.used : Int)) ∧ Below w.heap.size w w' := by
  have c6 : w.cell? ⟨p, 6, none⟩ = some g.nv := blk_cell h.blk
  have c5 : w.cell? ⟨p, 5, none⟩ = some g.fv := blk_cell h.blk
  have hu := hsm.used
  by_cases h0 : d.files = []
  · have hnn : d.names = [] := by
      cases hn : d.names with
      | nil => rfl
      | cons x r => have := hsm.idn x (by rw [hn]; simp); rw [h0] at this; simp at this
    refine used_any w p g.nv d.names (fun id => (d.file id).now.length) 0 0 0 c6 h.nr (.inl hnn) (fun x hx => by rw [hnn] at hx; cases hx) (show d.used < 1000000000000 by omega)
  · have hpos : 0 < d.files.length := List.length_pos_iff.2 h0
    obtain ⟨fb, cap, x0, hfv, _, _, _, _, _, _, _, _, _⟩ := h.file (List.getElem?_eq_getElem hpos)
    rw [hfv] at c5
    refine used_any w p g.nv d.names (fun id => (d.file id).now.length) fb g.l.length cap c6 h.nr (.inr c5) (fun x hx => ?_) (show d.used < 1000000000000 by omega)
    have hi := hsm.idn x hx
    obtain ⟨fb', cap', x', hfv', hlt, _, hfa, _, _, _, e1, _, _⟩ := h.file (List.getElem?_eq_getElem hi)
    rw [hfv] at hfv'
    cases hfv'
    obtain ⟨a, c, hvn, _, _⟩ := RdB.form hfa.vn.read
    have hfile : d.file x.2 = d.files[x.2] := by unfold PD.file; rw [List.getD_eq_getElem?_getD, List.getElem?_eq_getElem hi]; rfl
    exact ⟨hlt, a, c, by rw [e1, hvn, hfile]⟩

/-- Bytes that can be read stay so, where their block stays. -/
theorem rdB_kept {R : Nat → Prop} {w w' : World} {v : Value} {l : List UInt8} (h : RdB w v l) (hk : Kept R w w') (hR : l ≠ [] → ∀ k, v.ownBlock = some k → k < w.heap.size → R k) : RdB w' v l := by
  obtain ⟨a, cap, rfl, h1, h2, h0, h3⟩ := h
  refine ⟨a, cap, rfl, h1, h2, h0, ?_⟩
  rcases h3 with h3 | ⟨b, off, rfl, h4, h5⟩
  · exact .inl h3
  · by_cases hl : l = []
    · subst hl
      exact .inr ⟨b, off, rfl, Nat.lt_of_lt_of_le h4 hk.size, fun j u hj => by simp at hj⟩
    · exact .inr ⟨b, off, rfl, Nat.lt_of_lt_of_le h4 hk.size, fun j u hj => (hk.cell (p := ⟨b, off + j, none⟩) (hR hl b rfl h4)).trans (h5 j u hj)⟩

theorem max_two {P : Program} (ts : Array TypeId) (t : TypeId) (x y : Int) (w : World) : (Builtin.max_ ts t #[.int .i64 x, .int .i64 y]).run P w = .ok (.int .i64 (max x y)) w := by
  rw [run_max_int2]
  congr 2
  split <;> omega

theorem enters_write1 : Enters Try.prog 50 := enters_of Try.func50 (by kernel_rfl) rfl

/-- What a Write leaves behind it, whatever it tells. -/
def Wrote (g : Gh) (w : World) (p : Nat) (r : Nat × PD) (e : Ending) (w' : World) : Prop := e = .returned (.int .i64 (r.1 : Int)) ∧ ∃ g', DiskAt g' w' p r.2 ∧ Step g g' w w'

set_option maxRecDepth 100000 in
set_option maxHeartbeats 4000000 in
set_option linter.unusedSimpArgs false in
theorem write_at {g : Gh} {w : World} {p : Nat} {d : PD} (h : DiskAt g w p d) (hsm : Small d) (hcl : d.calls + 1 < 10000) (s : ByteArray) (hs : s.size ≤ maxLen) (a : Int) (vb : Value) (l : List UInt8) (hrd : RdB w vb l) (hll : l.length < 1000000000000) (hvb : l ≠ [] → ∀ k, vb.ownBlock = some k → g.o k = .out) :
    Calls Try.prog 26 #[.pointer (some ⟨p, 0, none⟩), .string s, .int .i64 a, vb] w (Wrote g w p (d.write s.data.toList a l)) := by
  obtain ⟨w1, hw1⟩ : ∃ w1, w1 = (w.alloc (.cells #[.int .i64 a] 3)).alloc (.cells #[vb] 22) := ⟨_, rfl⟩
  have hs1 : w1.heap.size = w.heap.size + 2 := by subst hw1; simp
  have hbel : Below w.heap.size w w1 := by subst hw1; exact ((Below.refl _ _).alloc (Nat.le_refl _) _).alloc (by simp) _
  have hd1 : DiskAt g w1 p d := h.below hbel
  have hst1 : Step g g w w1 := Step.below hbel
  have hba : w1.cell? ⟨w.heap.size, 0, none⟩ = some (.int .i64 a) := by
    subst hw1
    rw [World.cell?_of_block (a := ⟨w.heap.size, 0, none⟩) (Below.heap_alloc _ _ _ (by simp)), blk_cell (heap_alloc_new w _)]
    rfl
  have hbb : w1.cell? ⟨w.heap.size + 1, 0, none⟩ = some vb := by
    subst hw1
    rw [blk_cell (heap_new2 w _ _)]
    rfl
  obtain ⟨av, cv, rfl, _, _⟩ := hrd.form
  have c4 : w1.cell? ⟨p, 4, none⟩ = some (.bool d.down) := blk_cell hd1.blk
  have hpw := blk_lt h.blk
  have Hw1 := Lib.hid hw1
  have HH := Lib.hid h
  have HSM := Lib.hid hsm
  have HRD := Lib.hid hrd
  have HBEL := Lib.hid hbel
  have HD1 := Lib.hid hd1
  have HST1 := Lib.hid hst1
  have HS1 := Lib.hid hs1
  clear h hrd hbel hw1 hst1 hs1
  cases hdn : d.down with
  | true =>
    rw [show d.write s.data.toList a l = (7, d) by unfold PD.write; simp [hdn]]
    rw [hdn] at c4
    have HSH := Lib.hid (shut_any w1 p true c4)
    clear hdn c4 hsm hd1
    go_enter Try.func26, Try.ntmps26
    go_wp2_with (go_at_call 47; rw [← Hw1.out]; refine HSH.out.mono ?_; rintro e w5 ⟨rfl, rfl⟩)
    go_ret
    exact ⟨rfl, g, HD1.out, HST1.out⟩
  | false =>
    rw [hdn] at c4
    have HSH := Lib.hid (shut_any w1 p false c4)
    rcases find_at hd1 s hs hsm.idn with ⟨hf, hcall⟩ | ⟨id, fb, cap, x, f, hf, hidl, hfv, hx, hff, hofb, hfbl, hfa, e0, e1, e2, ef, hcall⟩
    · rw [show d.write s.data.toList a l = (2, d) by unfold PD.write; simp [hdn, hf]]
      have HC := Lib.hid hcall
      have hq := eqf_nil2
      clear hcall hf hdn c4 hsm hd1
      go_enter Try.func26, Try.ntmps26
      go_wp2_with (first | (go_at_call 47; rw [← Hw1.out]; refine HSH.out.mono ?_; rintro e w5 ⟨rfl, rfl⟩) | (go_at_call 34; refine HC.out.mono ?_; rintro e w5 ⟨rfl, rfl⟩))
      go_ret
      have hb : Below w1.heap.size w1 (w1.alloc (.cells #[.pointer none] 75)) := (Below.refl _ _).alloc (Nat.le_refl _) _
      exact ⟨rfl, g, HD1.out.below hb, HST1.out.trans (Step.below hb)⟩
    · have hfile : d.file id = f := by unfold PD.file; rw [List.getD_eq_getElem?_getD, hff]; rfl
      have hfsm := hsm.fl f (List.mem_of_getElem? hff)
      obtain ⟨_, hnow, _⟩ := hfsm
      have HC := Lib.hid hcall
      have hq := eqf_nil
      obtain ⟨w2, hw2⟩ : ∃ w2, w2 = (w1.alloc (.cells #[.pointer (some ⟨fb, id * 3, none⟩)] 75)).drew := ⟨_, rfl⟩
      have hb2 : Below w1.heap.size w1 w2 := by subst hw2; exact ((Below.refl _ _).alloc (Nat.le_refl _) _).drew
      have hdf : DiskAt g w2 p d := hd1.below hb2
      have hcf : w2.cell? ⟨w1.heap.size, 0, none⟩ = some (.pointer (some ⟨fb, id * 3, none⟩)) := by
        subst hw2
        exact blk_cell (i := 0) (heap_alloc_new w1 (.cells #[.pointer (some ⟨fb, id * 3, none⟩)] 75))
      obtain ⟨an, cn, hvn, _, _⟩ := RdB.form hfa.vn.read
      have hcn : w2.cell? ⟨fb, id * 3 + 1, none⟩ = some (.slice an f.now.length cn) := by rw [← hvn]; exact (hb2.cell (p := ⟨fb, id * 3 + 1, none⟩) hfbl).trans e1
      have hca : w2.cell? ⟨w.heap.size, 0, none⟩ = some (.int .i64 a) := (hb2.cell (p := ⟨w.heap.size, 0, none⟩) (World.block_lt_of_cell? _ _ hba)).trans hba
      have hcb : w2.cell? ⟨w.heap.size + 1, 0, none⟩ = some (.slice av l.length cv) := (hb2.cell (p := ⟨w.heap.size + 1, 0, none⟩) (World.block_lt_of_cell? _ _ hbb)).trans hbb
      have hcr : w2.cell? ⟨p, 0, none⟩ = some (.int .i64 d.room) := blk_cell hdf.blk
      have hres : d.write s.data.toList a l = (if a < 0 ∨ (f.now.length : Int) < a then (1, d)
    else if (1048576 : Int) < a + (l.length : Int) then (4, d)
    else if d.room < (d.used : Int) + max 0 (a + (l.length : Int) - (f.now.length : Int)) then (6, d)
    else (d.err, d.after fun d => { d with files := d.files.set id ((d.file id).wrote a.toNat l) })) := by unfold PD.write; simp only [hdn, hf, hfile]; simp
      have HRES := Lib.hid hres
      have Hw2 := Lib.hid hw2
      have HB2 := Lib.hid hb2
      have HDF := Lib.hid hdf
      have HFV := Lib.hid hfv
      have HX := Lib.hid hx
      have HFILE := Lib.hid hfile
      have HFA := Lib.hid hfa
      have HEF := Lib.hid ef
      clear hcall hf hdn c4 hsm hd1 hres hw2 hb2 hdf hfv hx hff hfile hfa e0 e1 e2 ef hvn hba hbb
      by_cases hneg : a < 0
      · rw [HRES.out, if_pos (.inl hneg)]
        go_enter Try.func26, Try.ntmps26
        go_wp2_with (first | (go_at_call 47; rw [← Hw1.out]; refine HSH.out.mono ?_; rintro e w5 ⟨rfl, rfl⟩) | (go_at_call 34; refine HC.out.mono ?_; rintro e w5 ⟨rfl, rfl⟩))
        refine wp_region_two (fun wz => wz = w2) (fun wz => wz = w2) [(0, 0), (0, 1), (0, 2), (0, 3), (0, 4), (0, 5), (0, 6), (0, 7), (0, 8), (0, 9), (0, 10)] [] (by kernel_rfl) (by kernel_rfl) (by kernel_rfl) (by kernel_rfl) (by kernel_rfl) Hw2.out.symm Hw2.out.symm ?_
        simp only [planT, List.drop_succ_cons, List.drop_zero]
        rw [← Hw2.out]
        refine PlanT.take0 (v := ?v0) (by kernel_rfl) ?y0 ?r0
        case y0 => (intro wz hz; subst hz; go_simp; try with_reducible rfl)
        (try simp only [Act.put, List.setIfInBounds_toArray, List.set_cons_zero, List.set_cons_succ])
        refine PlanT.take0 (v := ?v1) (by kernel_rfl) ?y1 ?r1
        case y1 => (intro wz hz; subst hz; go_simp; try with_reducible rfl)
        (try simp only [Act.put, List.setIfInBounds_toArray, List.set_cons_zero, List.set_cons_succ])
        refine PlanT.take0 (v := ?v2) (by kernel_rfl) ?y2 ?r2
        case y2 => (intro wz hz; subst hz; go_simp; try with_reducible rfl)
        (try simp only [Act.put, List.setIfInBounds_toArray, List.set_cons_zero, List.set_cons_succ])
        refine PlanT.skip (by kernel_rfl) ?_
        (try simp only [Act.put, List.setIfInBounds_toArray, List.set_cons_zero, List.set_cons_succ])
        refine PlanT.skip (by kernel_rfl) ?_
        (try simp only [Act.put, List.setIfInBounds_toArray, List.set_cons_zero, List.set_cons_succ])
        refine PlanT.skip (by kernel_rfl) ?_
        (try simp only [Act.put, List.setIfInBounds_toArray, List.set_cons_zero, List.set_cons_succ])
        refine PlanT.skip (by kernel_rfl) ?_
        (try simp only [Act.put, List.setIfInBounds_toArray, List.set_cons_zero, List.set_cons_succ])
        refine PlanT.skip (by kernel_rfl) ?_
        (try simp only [Act.put, List.setIfInBounds_toArray, List.set_cons_zero, List.set_cons_succ])
        refine PlanT.skip (by kernel_rfl) ?_
        (try simp only [Act.put, List.setIfInBounds_toArray, List.set_cons_zero, List.set_cons_succ])
        refine PlanT.skip (by kernel_rfl) ?_
        (try simp only [Act.put, List.setIfInBounds_toArray, List.set_cons_zero, List.set_cons_succ])
        refine PlanT.take0 (v := ?v10) (by kernel_rfl) ?y10 ?r10
        case y10 => (intro wz hz; subst hz; go_simp; try with_reducible rfl)
        (try simp only [Act.put, List.setIfInBounds_toArray, List.set_cons_zero, List.set_cons_succ])
        refine PlanT.done (NoPanic.normal ?_)
        go_wp2
        go_ret
        exact ⟨rfl, g, HDF.out, HST1.out.trans (Step.below HB2.out)⟩
      · obtain ⟨at_, rfl⟩ := Int.eq_ofNat_of_zero_le (show 0 ≤ a by omega)
        have hnn : decide ((at_ : Int) < 0) = false := by simp
        by_cases hgt : f.now.length < at_
        · rw [HRES.out, if_pos (.inr (by omega))]
          go_enter Try.func26, Try.ntmps26
          go_wp2_with (first | (go_at_call 47; rw [← Hw1.out]; refine HSH.out.mono ?_; rintro e w5 ⟨rfl, rfl⟩) | (go_at_call 34; refine HC.out.mono ?_; rintro e w5 ⟨rfl, rfl⟩))
          refine wp_region_two (fun wz => wz = w2) (fun wz => wz = w2) [(0, 0), (0, 1), (0, 2), (0, 3), (0, 4), (0, 5), (0, 6), (0, 7), (0, 8), (0, 9), (0, 10)] [] (by kernel_rfl) (by kernel_rfl) (by kernel_rfl) (by kernel_rfl) (by kernel_rfl) Hw2.out.symm Hw2.out.symm ?_
          simp only [planT, List.drop_succ_cons, List.drop_zero]
          rw [← Hw2.out]
          refine PlanT.take0 (v := ?vP0) (by kernel_rfl) ?yP0 ?rP0
          case yP0 => (intro wz hz; subst hz; go_simp; try with_reducible rfl)
          (try simp only [Act.put, List.setIfInBounds_toArray, List.set_cons_zero, List.set_cons_succ])
          refine PlanT.take0 (v := ?vP1) (by kernel_rfl) ?yP1 ?rP1
          case yP1 => (intro wz hz; subst hz; go_simp; try with_reducible rfl)
          (try simp only [Act.put, List.setIfInBounds_toArray, List.set_cons_zero, List.set_cons_succ])
          refine PlanT.take0 (v := ?vP2) (by kernel_rfl) ?yP2 ?rP2
          case yP2 => (intro wz hz; subst hz; go_simp; try with_reducible rfl)
          (try simp only [Act.put, List.setIfInBounds_toArray, List.set_cons_zero, List.set_cons_succ])
          refine PlanT.take0 (v := ?vP3) (by kernel_rfl) ?yP3 ?rP3
          case yP3 => (intro wz hz; subst hz; go_simp; try with_reducible rfl)
          (try simp only [Act.put, List.setIfInBounds_toArray, List.set_cons_zero, List.set_cons_succ])
          refine PlanT.take0 (v := ?vP4) (by kernel_rfl) ?yP4 ?rP4
          case yP4 => (intro wz hz; subst hz; go_simp; try with_reducible rfl)
          (try simp only [Act.put, List.setIfInBounds_toArray, List.set_cons_zero, List.set_cons_succ])
          refine PlanT.take0 (v := ?vP5) (by kernel_rfl) ?yP5 ?rP5
          case yP5 => (intro wz hz; subst hz; go_simp; try with_reducible rfl)
          (try simp only [Act.put, List.setIfInBounds_toArray, List.set_cons_zero, List.set_cons_succ])
          refine PlanT.take0 (v := ?vP6) (by kernel_rfl) ?yP6 ?rP6
          case yP6 => (intro wz hz; subst hz; go_simp; try with_reducible rfl)
          (try simp only [Act.put, List.setIfInBounds_toArray, List.set_cons_zero, List.set_cons_succ])
          refine PlanT.take0 (v := ?vP7) (by kernel_rfl) ?yP7 ?rP7
          case yP7 => (intro wz hz; subst hz; go_simp; try with_reducible rfl)
          (try simp only [Act.put, List.setIfInBounds_toArray, List.set_cons_zero, List.set_cons_succ])
          refine PlanT.take0 (v := ?vP8) (by kernel_rfl) ?yP8 ?rP8
          case yP8 => (intro wz hz; subst hz; go_simp; try with_reducible rfl)
          (try simp only [Act.put, List.setIfInBounds_toArray, List.set_cons_zero, List.set_cons_succ])
          refine PlanT.take0 (v := ?vP9) (by kernel_rfl) ?yP9 ?rP9
          case yP9 => (intro wz hz; subst hz; go_simp; try with_reducible rfl)
          (try simp only [Act.put, List.setIfInBounds_toArray, List.set_cons_zero, List.set_cons_succ])
          refine PlanT.take0 (v := ?vP10) (by kernel_rfl) ?yP10 ?rP10
          case yP10 => (intro wz hz; subst hz; go_simp; try with_reducible rfl)
          (try simp only [Act.put, List.setIfInBounds_toArray, List.set_cons_zero, List.set_cons_succ])
          refine PlanT.done (NoPanic.normal ?_)
          go_wp2
          go_ret
          exact ⟨rfl, g, HDF.out, HST1.out.trans (Step.below HB2.out)⟩
        · have hle : at_ ≤ f.now.length := by omega
          by_cases hlg : (1048576 : Int) < (at_ : Int) + (l.length : Int)
          · rw [HRES.out, if_neg (by omega), if_pos hlg]
            go_enter Try.func26, Try.ntmps26
            go_wp2_with (first | (go_at_call 47; rw [← Hw1.out]; refine HSH.out.mono ?_; rintro e w5 ⟨rfl, rfl⟩) | (go_at_call 34; refine HC.out.mono ?_; rintro e w5 ⟨rfl, rfl⟩))
            refine wp_region_two (fun wz => wz = w2) (fun wz => wz = w2) [(0, 0), (0, 1), (0, 2), (0, 3), (0, 4), (0, 5), (0, 6), (0, 7), (0, 8), (0, 9), (0, 10)] [] (by kernel_rfl) (by kernel_rfl) (by kernel_rfl) (by kernel_rfl) (by kernel_rfl) Hw2.out.symm Hw2.out.symm ?_
            simp only [planT, List.drop_succ_cons, List.drop_zero]
            rw [← Hw2.out]
            refine PlanT.take0 (v := ?vR0) (by kernel_rfl) ?yR0 ?rR0
            case yR0 => (intro wz hz; subst hz; go_simp; try with_reducible rfl)
            (try simp only [Act.put, List.setIfInBounds_toArray, List.set_cons_zero, List.set_cons_succ])
            refine PlanT.take0 (v := ?vR1) (by kernel_rfl) ?yR1 ?rR1
            case yR1 => (intro wz hz; subst hz; go_simp; try with_reducible rfl)
            (try simp only [Act.put, List.setIfInBounds_toArray, List.set_cons_zero, List.set_cons_succ])
            refine PlanT.take0 (v := ?vR2) (by kernel_rfl) ?yR2 ?rR2
            case yR2 => (intro wz hz; subst hz; go_simp; try with_reducible rfl)
            (try simp only [Act.put, List.setIfInBounds_toArray, List.set_cons_zero, List.set_cons_succ])
            refine PlanT.take0 (v := ?vR3) (by kernel_rfl) ?yR3 ?rR3
            case yR3 => (intro wz hz; subst hz; go_simp; try with_reducible rfl)
            (try simp only [Act.put, List.setIfInBounds_toArray, List.set_cons_zero, List.set_cons_succ])
            refine PlanT.take0 (v := ?vR4) (by kernel_rfl) ?yR4 ?rR4
            case yR4 => (intro wz hz; subst hz; go_simp; try with_reducible rfl)
            (try simp only [Act.put, List.setIfInBounds_toArray, List.set_cons_zero, List.set_cons_succ])
            refine PlanT.take0 (v := ?vR5) (by kernel_rfl) ?yR5 ?rR5
            case yR5 => (intro wz hz; subst hz; go_simp; try with_reducible rfl)
            (try simp only [Act.put, List.setIfInBounds_toArray, List.set_cons_zero, List.set_cons_succ])
            refine PlanT.take0 (v := ?vR6) (by kernel_rfl) ?yR6 ?rR6
            case yR6 => (intro wz hz; subst hz; go_simp; try with_reducible rfl)
            (try simp only [Act.put, List.setIfInBounds_toArray, List.set_cons_zero, List.set_cons_succ])
            refine PlanT.take0 (v := ?vR7) (by kernel_rfl) ?yR7 ?rR7
            case yR7 => (intro wz hz; subst hz; go_simp; try with_reducible rfl)
            (try simp only [Act.put, List.setIfInBounds_toArray, List.set_cons_zero, List.set_cons_succ])
            refine PlanT.take0 (v := ?vR8) (by kernel_rfl) ?yR8 ?rR8
            case yR8 => (intro wz hz; subst hz; go_simp; try with_reducible rfl)
            (try simp only [Act.put, List.setIfInBounds_toArray, List.set_cons_zero, List.set_cons_succ])
            refine PlanT.take0 (v := ?vR9) (by kernel_rfl) ?yR9 ?rR9
            case yR9 => (intro wz hz; subst hz; go_simp; try with_reducible rfl)
            (try simp only [Act.put, List.setIfInBounds_toArray, List.set_cons_zero, List.set_cons_succ])
            refine PlanT.take0 (v := ?vR10) (by kernel_rfl) ?yR10 ?rR10
            case yR10 => (intro wz hz; subst hz; go_simp; try with_reducible rfl)
            (try simp only [Act.put, List.setIfInBounds_toArray, List.set_cons_zero, List.set_cons_succ])
            refine PlanT.done (NoPanic.normal ?_)
            go_wp2
            go_ret
            exact ⟨rfl, g, HDF.out, HST1.out.trans (Step.below HB2.out)⟩
          · obtain ⟨w3, hw3⟩ : ∃ w3, w3 = w2.drew := ⟨_, rfl⟩
            have hb3 : Below w2.heap.size w2 w3 := by subst hw3; exact (Below.refl _ _).drew
            have hd3 := HDF.out.below hb3
            have HUS := Lib.hid (used_at hd3 HSM.out)
            have hus := HSM.out.used
            have HKF := Lib.hid (by subst hw3; exact hcf : w3.cell? ⟨w1.heap.size, 0, none⟩ = some (.pointer (some ⟨fb, id * 3, none⟩)))
            have HKN := Lib.hid (by subst hw3; exact hcn : w3.cell? ⟨fb, id * 3 + 1, none⟩ = some (.slice an f.now.length cn))
            have HKR := Lib.hid (by subst hw3; exact hcr : w3.cell? ⟨p, 0, none⟩ = some (.int .i64 d.room))
            have Hw3 := Lib.hid hw3
            have HD3 := Lib.hid hd3
            have HB3 := Lib.hid hb3
            clear hw3 hd3 hb3
            have hdl : decide ((1048576 : Int) < (at_ : Int) + (l.length : Int)) = false := by simpa using hlg
            obtain ⟨mx, hmx⟩ : ∃ m : Nat, (m : Int) = max 0 ((at_ : Int) + (l.length : Int) - (f.now.length : Int)) := ⟨(max 0 ((at_ : Int) + (l.length : Int) - (f.now.length : Int))).toNat, by omega⟩
            have hmxl : mx ≤ l.length := by omega
            have hmax := fun w => max_two (P := Try.prog) #[3, 3] 3 0 ((at_ : Int) + (l.length : Int) - (f.now.length : Int)) w
            rw [← hmx] at hmax
            rw [← hmx] at HRES
            have HMX := Lib.hid hmx
            have hsub : IntKind.i64.wrap ((at_ : Int) + (l.length : Int) - (f.now.length : Int)) = (at_ : Int) + (l.length : Int) - (f.now.length : Int) := IntWalk.i64_in _ (by omega)
            have hadd : IntKind.i64.wrap ((d.used : Int) + (mx : Int)) = (d.used : Int) + (mx : Int) := IntWalk.i64_in _ (by omega)
            clear hmx
            by_cases hroom : d.room < (d.used : Int) + (mx : Int)
            · rw [HRES.out, if_neg (by omega), if_neg hlg, if_pos hroom]
              have hrd : decide (d.room < (d.used : Int) + (mx : Int)) = true := by simpa using hroom
              go_enter Try.func26, Try.ntmps26
              go_wp2_with (first | (go_at_call 47; rw [← Hw1.out]; refine HSH.out.mono ?_; rintro e w5 ⟨rfl, rfl⟩) | (go_at_call 34; refine HC.out.mono ?_; rintro e w5 ⟨rfl, rfl⟩))
              refine wp_region_two (fun wz => wz = w2) (fun wz => wz = w2) [(0, 0), (0, 1), (0, 2), (0, 3), (0, 4), (0, 5), (0, 6), (0, 7), (0, 8), (0, 9), (0, 10)] [] (by kernel_rfl) (by kernel_rfl) (by kernel_rfl) (by kernel_rfl) (by kernel_rfl) Hw2.out.symm Hw2.out.symm ?_
              simp only [planT, List.drop_succ_cons, List.drop_zero]
              rw [← Hw2.out]
              refine PlanT.take0 (v := ?vS0) (by kernel_rfl) ?yS0 ?rS0
              case yS0 => (intro wz hz; subst hz; go_simp; try with_reducible rfl)
              (try simp only [Act.put, List.setIfInBounds_toArray, List.set_cons_zero, List.set_cons_succ])
              refine PlanT.take0 (v := ?vS1) (by kernel_rfl) ?yS1 ?rS1
              case yS1 => (intro wz hz; subst hz; go_simp; try with_reducible rfl)
              (try simp only [Act.put, List.setIfInBounds_toArray, List.set_cons_zero, List.set_cons_succ])
              refine PlanT.take0 (v := ?vS2) (by kernel_rfl) ?yS2 ?rS2
              case yS2 => (intro wz hz; subst hz; go_simp; try with_reducible rfl)
              (try simp only [Act.put, List.setIfInBounds_toArray, List.set_cons_zero, List.set_cons_succ])
              refine PlanT.take0 (v := ?vS3) (by kernel_rfl) ?yS3 ?rS3
              case yS3 => (intro wz hz; subst hz; go_simp; try with_reducible rfl)
              (try simp only [Act.put, List.setIfInBounds_toArray, List.set_cons_zero, List.set_cons_succ])
              refine PlanT.take0 (v := ?vS4) (by kernel_rfl) ?yS4 ?rS4
              case yS4 => (intro wz hz; subst hz; go_simp; try with_reducible rfl)
              (try simp only [Act.put, List.setIfInBounds_toArray, List.set_cons_zero, List.set_cons_succ])
              refine PlanT.take0 (v := ?vS5) (by kernel_rfl) ?yS5 ?rS5
              case yS5 => (intro wz hz; subst hz; go_simp; try with_reducible rfl)
              (try simp only [Act.put, List.setIfInBounds_toArray, List.set_cons_zero, List.set_cons_succ])
              refine PlanT.take0 (v := ?vS6) (by kernel_rfl) ?yS6 ?rS6
              case yS6 => (intro wz hz; subst hz; go_simp; try with_reducible rfl)
              (try simp only [Act.put, List.setIfInBounds_toArray, List.set_cons_zero, List.set_cons_succ])
              refine PlanT.take0 (v := ?vS7) (by kernel_rfl) ?yS7 ?rS7
              case yS7 => (intro wz hz; subst hz; go_simp; try with_reducible rfl)
              (try simp only [Act.put, List.setIfInBounds_toArray, List.set_cons_zero, List.set_cons_succ])
              refine PlanT.take0 (v := ?vS8) (by kernel_rfl) ?yS8 ?rS8
              case yS8 => (intro wz hz; subst hz; go_simp; try with_reducible rfl)
              (try simp only [Act.put, List.setIfInBounds_toArray, List.set_cons_zero, List.set_cons_succ])
              refine PlanT.take0 (v := ?vS9) (by kernel_rfl) ?yS9 ?rS9
              case yS9 => (intro wz hz; subst hz; go_simp; try with_reducible rfl)
              (try simp only [Act.put, List.setIfInBounds_toArray, List.set_cons_zero, List.set_cons_succ])
              refine PlanT.take0 (v := ?vS10) (by kernel_rfl) ?yS10 ?rS10
              case yS10 => (intro wz hz; subst hz; go_simp; try with_reducible rfl)
              (try simp only [Act.put, List.setIfInBounds_toArray, List.set_cons_zero, List.set_cons_succ])
              refine PlanT.done (NoPanic.normal ?_)
              go_wp2
              refine wp_region_two (fun wz => Below w3.heap.size w3 wz) (fun wz => Below w3.heap.size w3 wz) [(0, 0), (0, 2), (0, 3), (0, 4), (0, 5), (0, 6), (0, 7), (0, 8), (0, 9), (0, 11), (0, 12), (0, 13), (0, 14), (2, 1), (0, 10), (0, 15)] [] (by kernel_rfl) (by kernel_rfl) (by kernel_rfl) (by kernel_rfl) (by kernel_rfl) (by rw [← Hw3.out]; exact Below.refl _ _) (by rw [← Hw3.out]; exact Below.refl _ _) ?_
              simp only [planT, List.drop_succ_cons, List.drop_zero]
              rw [← Hw3.out]
              refine PlanT.take0 (v := ?vQ0) (by kernel_rfl) ?yQ0 ?rQ0
              case yQ0 => (intro wz hz; have k1 := (hz.cell (p := ⟨w1.heap.size, 0, none⟩) (World.block_lt_of_cell? _ _ HKF.out)).trans HKF.out; have k2 := (hz.cell (p := ⟨fb, id * 3 + 1, none⟩) (World.block_lt_of_cell? _ _ HKN.out)).trans HKN.out; have k3 := (hz.cell (p := ⟨p, 0, none⟩) (World.block_lt_of_cell? _ _ HKR.out)).trans HKR.out; clear hz; go_simp; try with_reducible rfl)
              (try simp only [Act.put, List.setIfInBounds_toArray, List.set_cons_zero, List.set_cons_succ])
              refine PlanT.take0 (v := ?vQ2) (by kernel_rfl) ?yQ2 ?rQ2
              case yQ2 => (intro wz hz; have k1 := (hz.cell (p := ⟨w1.heap.size, 0, none⟩) (World.block_lt_of_cell? _ _ HKF.out)).trans HKF.out; have k2 := (hz.cell (p := ⟨fb, id * 3 + 1, none⟩) (World.block_lt_of_cell? _ _ HKN.out)).trans HKN.out; have k3 := (hz.cell (p := ⟨p, 0, none⟩) (World.block_lt_of_cell? _ _ HKR.out)).trans HKR.out; clear hz; go_simp; try with_reducible rfl)
              (try simp only [Act.put, List.setIfInBounds_toArray, List.set_cons_zero, List.set_cons_succ])
              refine PlanT.take0 (v := ?vQ3) (by kernel_rfl) ?yQ3 ?rQ3
              case yQ3 => (intro wz hz; have k1 := (hz.cell (p := ⟨w1.heap.size, 0, none⟩) (World.block_lt_of_cell? _ _ HKF.out)).trans HKF.out; have k2 := (hz.cell (p := ⟨fb, id * 3 + 1, none⟩) (World.block_lt_of_cell? _ _ HKN.out)).trans HKN.out; have k3 := (hz.cell (p := ⟨p, 0, none⟩) (World.block_lt_of_cell? _ _ HKR.out)).trans HKR.out; clear hz; go_simp; try with_reducible rfl)
              (try simp only [Act.put, List.setIfInBounds_toArray, List.set_cons_zero, List.set_cons_succ])
              refine PlanT.take0 (v := ?vQ4) (by kernel_rfl) ?yQ4 ?rQ4
              case yQ4 => (intro wz hz; have k1 := (hz.cell (p := ⟨w1.heap.size, 0, none⟩) (World.block_lt_of_cell? _ _ HKF.out)).trans HKF.out; have k2 := (hz.cell (p := ⟨fb, id * 3 + 1, none⟩) (World.block_lt_of_cell? _ _ HKN.out)).trans HKN.out; have k3 := (hz.cell (p := ⟨p, 0, none⟩) (World.block_lt_of_cell? _ _ HKR.out)).trans HKR.out; clear hz; go_simp; try with_reducible rfl)
              (try simp only [Act.put, List.setIfInBounds_toArray, List.set_cons_zero, List.set_cons_succ])
              refine PlanT.take0 (v := ?vQ5) (by kernel_rfl) ?yQ5 ?rQ5
              case yQ5 => (intro wz hz; have k1 := (hz.cell (p := ⟨w1.heap.size, 0, none⟩) (World.block_lt_of_cell? _ _ HKF.out)).trans HKF.out; have k2 := (hz.cell (p := ⟨fb, id * 3 + 1, none⟩) (World.block_lt_of_cell? _ _ HKN.out)).trans HKN.out; have k3 := (hz.cell (p := ⟨p, 0, none⟩) (World.block_lt_of_cell? _ _ HKR.out)).trans HKR.out; clear hz; go_simp; try with_reducible rfl)
              (try simp only [Act.put, List.setIfInBounds_toArray, List.set_cons_zero, List.set_cons_succ])
              refine PlanT.take0 (v := ?vQ6) (by kernel_rfl) ?yQ6 ?rQ6
              case yQ6 => (intro wz hz; have k1 := (hz.cell (p := ⟨w1.heap.size, 0, none⟩) (World.block_lt_of_cell? _ _ HKF.out)).trans HKF.out; have k2 := (hz.cell (p := ⟨fb, id * 3 + 1, none⟩) (World.block_lt_of_cell? _ _ HKN.out)).trans HKN.out; have k3 := (hz.cell (p := ⟨p, 0, none⟩) (World.block_lt_of_cell? _ _ HKR.out)).trans HKR.out; clear hz; go_simp; try with_reducible rfl)
              (try simp only [Act.put, List.setIfInBounds_toArray, List.set_cons_zero, List.set_cons_succ])
              refine PlanT.take0 (v := ?vQ7) (by kernel_rfl) ?yQ7 ?rQ7
              case yQ7 => (intro wz hz; have k1 := (hz.cell (p := ⟨w1.heap.size, 0, none⟩) (World.block_lt_of_cell? _ _ HKF.out)).trans HKF.out; have k2 := (hz.cell (p := ⟨fb, id * 3 + 1, none⟩) (World.block_lt_of_cell? _ _ HKN.out)).trans HKN.out; have k3 := (hz.cell (p := ⟨p, 0, none⟩) (World.block_lt_of_cell? _ _ HKR.out)).trans HKR.out; clear hz; go_simp; try with_reducible rfl)
              (try simp only [Act.put, List.setIfInBounds_toArray, List.set_cons_zero, List.set_cons_succ])
              refine PlanT.take0 (v := ?vQ8) (by kernel_rfl) ?yQ8 ?rQ8
              case yQ8 => (intro wz hz; have k1 := (hz.cell (p := ⟨w1.heap.size, 0, none⟩) (World.block_lt_of_cell? _ _ HKF.out)).trans HKF.out; have k2 := (hz.cell (p := ⟨fb, id * 3 + 1, none⟩) (World.block_lt_of_cell? _ _ HKN.out)).trans HKN.out; have k3 := (hz.cell (p := ⟨p, 0, none⟩) (World.block_lt_of_cell? _ _ HKR.out)).trans HKR.out; clear hz; go_simp; try with_reducible rfl)
              (try simp only [Act.put, List.setIfInBounds_toArray, List.set_cons_zero, List.set_cons_succ])
              refine PlanT.take0 (v := .int .i64 (mx : Int)) (by kernel_rfl) ?yQ9 ?rQ9
              case yQ9 => (intro wz hz; have k1 := (hz.cell (p := ⟨w1.heap.size, 0, none⟩) (World.block_lt_of_cell? _ _ HKF.out)).trans HKF.out; have k2 := (hz.cell (p := ⟨fb, id * 3 + 1, none⟩) (World.block_lt_of_cell? _ _ HKN.out)).trans HKN.out; have k3 := (hz.cell (p := ⟨p, 0, none⟩) (World.block_lt_of_cell? _ _ HKR.out)).trans HKR.out; clear hz; go_simp)
              (try simp only [Act.put, List.setIfInBounds_toArray, List.set_cons_zero, List.set_cons_succ])
              refine PlanT.take0 (v := ?vQ11) (by kernel_rfl) ?yQ11 ?rQ11
              case yQ11 => (intro wz hz; have k1 := (hz.cell (p := ⟨w1.heap.size, 0, none⟩) (World.block_lt_of_cell? _ _ HKF.out)).trans HKF.out; have k2 := (hz.cell (p := ⟨fb, id * 3 + 1, none⟩) (World.block_lt_of_cell? _ _ HKN.out)).trans HKN.out; have k3 := (hz.cell (p := ⟨p, 0, none⟩) (World.block_lt_of_cell? _ _ HKR.out)).trans HKR.out; clear hz; go_simp; try with_reducible rfl)
              (try simp only [Act.put, List.setIfInBounds_toArray, List.set_cons_zero, List.set_cons_succ])
              refine PlanT.take0 (v := ?vQ12) (by kernel_rfl) ?yQ12 ?rQ12
              case yQ12 => (intro wz hz; have k1 := (hz.cell (p := ⟨w1.heap.size, 0, none⟩) (World.block_lt_of_cell? _ _ HKF.out)).trans HKF.out; have k2 := (hz.cell (p := ⟨fb, id * 3 + 1, none⟩) (World.block_lt_of_cell? _ _ HKN.out)).trans HKN.out; have k3 := (hz.cell (p := ⟨p, 0, none⟩) (World.block_lt_of_cell? _ _ HKR.out)).trans HKR.out; clear hz; go_simp; try with_reducible rfl)
              (try simp only [Act.put, List.setIfInBounds_toArray, List.set_cons_zero, List.set_cons_succ])
              refine PlanT.take0 (v := ?vQ13) (by kernel_rfl) ?yQ13 ?rQ13
              case yQ13 => (intro wz hz; have k1 := (hz.cell (p := ⟨w1.heap.size, 0, none⟩) (World.block_lt_of_cell? _ _ HKF.out)).trans HKF.out; have k2 := (hz.cell (p := ⟨fb, id * 3 + 1, none⟩) (World.block_lt_of_cell? _ _ HKN.out)).trans HKN.out; have k3 := (hz.cell (p := ⟨p, 0, none⟩) (World.block_lt_of_cell? _ _ HKR.out)).trans HKR.out; clear hz; go_simp; try with_reducible rfl)
              (try simp only [Act.put, List.setIfInBounds_toArray, List.set_cons_zero, List.set_cons_succ])
              refine PlanT.take0 (v := ?vQ14) (by kernel_rfl) ?yQ14 ?rQ14
              case yQ14 => (intro wz hz; have k1 := (hz.cell (p := ⟨w1.heap.size, 0, none⟩) (World.block_lt_of_cell? _ _ HKF.out)).trans HKF.out; have k2 := (hz.cell (p := ⟨fb, id * 3 + 1, none⟩) (World.block_lt_of_cell? _ _ HKN.out)).trans HKN.out; have k3 := (hz.cell (p := ⟨p, 0, none⟩) (World.block_lt_of_cell? _ _ HKR.out)).trans HKR.out; clear hz; go_simp; try with_reducible rfl)
              (try simp only [Act.put, List.setIfInBounds_toArray, List.set_cons_zero, List.set_cons_succ])
              refine PlanT.exec2 (fun K hK => ⟨by kernel_rfl, ?_⟩)
              go_simp
              refine HUS.out.mono ?_
              rintro e w4 ⟨rfl, hB4⟩
              refine hK.out _ _ hB4 hB4 ?_
              clear hK K
              (try simp only [Act.put, List.setIfInBounds_toArray, List.set_cons_zero, List.set_cons_succ])
              refine PlanT.take0 (v := ?vQ10) (by kernel_rfl) ?yQ10 ?rQ10
              case yQ10 => (intro wz hz; have k1 := (hz.cell (p := ⟨w1.heap.size, 0, none⟩) (World.block_lt_of_cell? _ _ HKF.out)).trans HKF.out; have k2 := (hz.cell (p := ⟨fb, id * 3 + 1, none⟩) (World.block_lt_of_cell? _ _ HKN.out)).trans HKN.out; have k3 := (hz.cell (p := ⟨p, 0, none⟩) (World.block_lt_of_cell? _ _ HKR.out)).trans HKR.out; clear hz; go_simp; try with_reducible rfl)
              (try simp only [Act.put, List.setIfInBounds_toArray, List.set_cons_zero, List.set_cons_succ])
              refine PlanT.take0 (v := ?vQ15) (by kernel_rfl) ?yQ15 ?rQ15
              case yQ15 => (intro wz hz; have k1 := (hz.cell (p := ⟨w1.heap.size, 0, none⟩) (World.block_lt_of_cell? _ _ HKF.out)).trans HKF.out; have k2 := (hz.cell (p := ⟨fb, id * 3 + 1, none⟩) (World.block_lt_of_cell? _ _ HKN.out)).trans HKN.out; have k3 := (hz.cell (p := ⟨p, 0, none⟩) (World.block_lt_of_cell? _ _ HKR.out)).trans HKR.out; clear hz; go_simp; try with_reducible rfl)
              (try simp only [Act.put, List.setIfInBounds_toArray, List.set_cons_zero, List.set_cons_succ])
              refine PlanT.done (NoPanic.normal ?_)
              go_wp2
              go_ret
              exact ⟨rfl, g, HD3.out.below hB4, ((HST1.out.trans (Step.below HB2.out)).trans (Step.below HB3.out)).trans (Step.below hB4)⟩
            · rw [HRES.out, if_neg (by omega), if_neg hlg, if_neg hroom]
              have hrd : decide (d.room < (d.used : Int) + (mx : Int)) = false := by simpa using hroom
              have hcount : ∀ w4, Below w3.heap.size w3 w4 → Calls Try.prog 49 #[.pointer (some ⟨p, 0, none⟩), .func (.func 50) #[] #[.pointer (some ⟨w.heap.size, 0, none⟩), .pointer (some ⟨w.heap.size + 1, 0, none⟩), .pointer (some ⟨w1.heap.size, 0, none⟩)]] w4
                  fun e w' => e = .returned (.int .i64 (d.err : Int)) ∧ ∃ g', DiskAt g' w' p (d.after fun d => { d with files := d.files.set id ((d.file id).wrote at_ l) }) ∧ Step g g' w4 w' := by
                intro w4 hB4
                have hd4 := HD3.out.below hB4
                have hB24 := ((HB2.out.trans (HB3.out.mono HB2.out.size)).trans (hB4.mono (Nat.le_trans HB2.out.size HB3.out.size)))
                have hl1 : ∀ {q o : Nat} {v : Value}, w2.cell? ⟨q, o, none⟩ = some v → w4.cell? ⟨q, o, none⟩ = some v := fun {q o v} hc => by
                  have hql := World.block_lt_of_cell? _ _ hc
                  have h3 := (HB3.out.cell (p := ⟨q, o, none⟩) hql).trans hc
                  exact (hB4.cell (p := ⟨q, o, none⟩) (World.block_lt_of_cell? _ _ h3)).trans h3
                refine counted (k := 50) (fst := #[]) (caps := #[.pointer (some ⟨w.heap.size, 0, none⟩), .pointer (some ⟨w.heap.size + 1, 0, none⟩), .pointer (some ⟨w1.heap.size, 0, none⟩)]) hd4 (by omega) enters_write1 (fun d => { d with files := d.files.set id ((d.file id).wrote at_ l) }) rfl (fun _ w5 hd5 hk5 hs5 => ?_)
                have kk : ∀ {q o : Nat} {v : Value}, q ≠ p → w2.cell? ⟨q, o, none⟩ = some v → w5.cell? ⟨q, o, none⟩ = some v := fun {q o v} hq hc => by
                  have h4 := hl1 hc
                  exact (hk5.cell (p := ⟨q, o, none⟩) ⟨World.block_lt_of_cell? _ _ h4, hq⟩).trans h4
                have hsz1 := HS1.out
                have hrd5 : RdB w5 (.slice av l.length cv) l := by
                  refine rdB_kept HRD.out ((Kept.of HBEL.out fun k hk => hk.1).trans ((Kept.of hB24 fun k hk => by omega).trans (hk5.mono fun k hk => ⟨by have := hB24.size; omega, hk.2⟩)) : Kept (fun k => k < w.heap.size ∧ k ≠ p) w w5) fun hl k hk hkl => ⟨hkl, fun e => ?_⟩
                  have := hvb hl k hk
                  rw [e, HH.out.rol] at this
                  cases this
                have := write1_at hd5 (HSM.out.cnt hcl) id fb cap x f HFV.out HX.out at_ l (.slice av l.length cv) hrd5 hle (by omega) w.heap.size (w.heap.size + 1) w1.heap.size (kk (by omega) hca) (kk (by omega) hcb) (kk (by omega) hcf) (out_of HD1.out (Nat.le_refl _))
                show Calls _ _ _ _ fun e w2 => e = .returned (.tuple #[]) ∧ ∃ g', DiskAt g' w2 p { d.cnt with files := d.files.set id ((d.file id).wrote at_ l) } ∧ _
                rw [HFILE.out]
                exact this
              have HCNT := Lib.hid hcount
              clear hcount
              go_enter Try.func26, Try.ntmps26
              go_wp2_with (first | (go_at_call 47; rw [← Hw1.out]; refine HSH.out.mono ?_; rintro e w5 ⟨rfl, rfl⟩) | (go_at_call 34; refine HC.out.mono ?_; rintro e w5 ⟨rfl, rfl⟩))
              refine wp_region_two (fun wz => wz = w2) (fun wz => wz = w2) [(0, 0), (0, 1), (0, 2), (0, 3), (0, 4), (0, 5), (0, 6), (0, 7), (0, 8), (0, 9), (0, 10)] [] (by kernel_rfl) (by kernel_rfl) (by kernel_rfl) (by kernel_rfl) (by kernel_rfl) Hw2.out.symm Hw2.out.symm ?_
              simp only [planT, List.drop_succ_cons, List.drop_zero]
              rw [← Hw2.out]
              refine PlanT.take0 (v := ?vT0) (by kernel_rfl) ?yT0 ?rT0
              case yT0 => (intro wz hz; subst hz; go_simp; try with_reducible rfl)
              (try simp only [Act.put, List.setIfInBounds_toArray, List.set_cons_zero, List.set_cons_succ])
              refine PlanT.take0 (v := ?vT1) (by kernel_rfl) ?yT1 ?rT1
              case yT1 => (intro wz hz; subst hz; go_simp; try with_reducible rfl)
              (try simp only [Act.put, List.setIfInBounds_toArray, List.set_cons_zero, List.set_cons_succ])
              refine PlanT.take0 (v := ?vT2) (by kernel_rfl) ?yT2 ?rT2
              case yT2 => (intro wz hz; subst hz; go_simp; try with_reducible rfl)
              (try simp only [Act.put, List.setIfInBounds_toArray, List.set_cons_zero, List.set_cons_succ])
              refine PlanT.take0 (v := ?vT3) (by kernel_rfl) ?yT3 ?rT3
              case yT3 => (intro wz hz; subst hz; go_simp; try with_reducible rfl)
              (try simp only [Act.put, List.setIfInBounds_toArray, List.set_cons_zero, List.set_cons_succ])
              refine PlanT.take0 (v := ?vT4) (by kernel_rfl) ?yT4 ?rT4
              case yT4 => (intro wz hz; subst hz; go_simp; try with_reducible rfl)
              (try simp only [Act.put, List.setIfInBounds_toArray, List.set_cons_zero, List.set_cons_succ])
              refine PlanT.take0 (v := ?vT5) (by kernel_rfl) ?yT5 ?rT5
              case yT5 => (intro wz hz; subst hz; go_simp; try with_reducible rfl)
              (try simp only [Act.put, List.setIfInBounds_toArray, List.set_cons_zero, List.set_cons_succ])
              refine PlanT.take0 (v := ?vT6) (by kernel_rfl) ?yT6 ?rT6
              case yT6 => (intro wz hz; subst hz; go_simp; try with_reducible rfl)
              (try simp only [Act.put, List.setIfInBounds_toArray, List.set_cons_zero, List.set_cons_succ])
              refine PlanT.take0 (v := ?vT7) (by kernel_rfl) ?yT7 ?rT7
              case yT7 => (intro wz hz; subst hz; go_simp; try with_reducible rfl)
              (try simp only [Act.put, List.setIfInBounds_toArray, List.set_cons_zero, List.set_cons_succ])
              refine PlanT.take0 (v := ?vT8) (by kernel_rfl) ?yT8 ?rT8
              case yT8 => (intro wz hz; subst hz; go_simp; try with_reducible rfl)
              (try simp only [Act.put, List.setIfInBounds_toArray, List.set_cons_zero, List.set_cons_succ])
              refine PlanT.take0 (v := ?vT9) (by kernel_rfl) ?yT9 ?rT9
              case yT9 => (intro wz hz; subst hz; go_simp; try with_reducible rfl)
              (try simp only [Act.put, List.setIfInBounds_toArray, List.set_cons_zero, List.set_cons_succ])
              refine PlanT.take0 (v := ?vT10) (by kernel_rfl) ?yT10 ?rT10
              case yT10 => (intro wz hz; subst hz; go_simp; try with_reducible rfl)
              (try simp only [Act.put, List.setIfInBounds_toArray, List.set_cons_zero, List.set_cons_succ])
              refine PlanT.done (NoPanic.normal ?_)
              go_wp2
              refine wp_region_two (fun wz => Below w3.heap.size w3 wz) (fun wz => Below w3.heap.size w3 wz) [(0, 0), (0, 2), (0, 3), (0, 4), (0, 5), (0, 6), (0, 7), (0, 8), (0, 9), (0, 11), (0, 12), (0, 13), (0, 14), (2, 1), (0, 10), (0, 15)] [] (by kernel_rfl) (by kernel_rfl) (by kernel_rfl) (by kernel_rfl) (by kernel_rfl) (by rw [← Hw3.out]; exact Below.refl _ _) (by rw [← Hw3.out]; exact Below.refl _ _) ?_
              simp only [planT, List.drop_succ_cons, List.drop_zero]
              rw [← Hw3.out]
              refine PlanT.take0 (v := ?vU0) (by kernel_rfl) ?yU0 ?rU0
              case yU0 => (intro wz hz; have k1 := (hz.cell (p := ⟨w1.heap.size, 0, none⟩) (World.block_lt_of_cell? _ _ HKF.out)).trans HKF.out; have k2 := (hz.cell (p := ⟨fb, id * 3 + 1, none⟩) (World.block_lt_of_cell? _ _ HKN.out)).trans HKN.out; have k3 := (hz.cell (p := ⟨p, 0, none⟩) (World.block_lt_of_cell? _ _ HKR.out)).trans HKR.out; clear hz; go_simp; try with_reducible rfl)
              (try simp only [Act.put, List.setIfInBounds_toArray, List.set_cons_zero, List.set_cons_succ])
              refine PlanT.take0 (v := ?vU2) (by kernel_rfl) ?yU2 ?rU2
              case yU2 => (intro wz hz; have k1 := (hz.cell (p := ⟨w1.heap.size, 0, none⟩) (World.block_lt_of_cell? _ _ HKF.out)).trans HKF.out; have k2 := (hz.cell (p := ⟨fb, id * 3 + 1, none⟩) (World.block_lt_of_cell? _ _ HKN.out)).trans HKN.out; have k3 := (hz.cell (p := ⟨p, 0, none⟩) (World.block_lt_of_cell? _ _ HKR.out)).trans HKR.out; clear hz; go_simp; try with_reducible rfl)
              (try simp only [Act.put, List.setIfInBounds_toArray, List.set_cons_zero, List.set_cons_succ])
              refine PlanT.take0 (v := ?vU3) (by kernel_rfl) ?yU3 ?rU3
              case yU3 => (intro wz hz; have k1 := (hz.cell (p := ⟨w1.heap.size, 0, none⟩) (World.block_lt_of_cell? _ _ HKF.out)).trans HKF.out; have k2 := (hz.cell (p := ⟨fb, id * 3 + 1, none⟩) (World.block_lt_of_cell? _ _ HKN.out)).trans HKN.out; have k3 := (hz.cell (p := ⟨p, 0, none⟩) (World.block_lt_of_cell? _ _ HKR.out)).trans HKR.out; clear hz; go_simp; try with_reducible rfl)
              (try simp only [Act.put, List.setIfInBounds_toArray, List.set_cons_zero, List.set_cons_succ])
              refine PlanT.take0 (v := ?vU4) (by kernel_rfl) ?yU4 ?rU4
              case yU4 => (intro wz hz; have k1 := (hz.cell (p := ⟨w1.heap.size, 0, none⟩) (World.block_lt_of_cell? _ _ HKF.out)).trans HKF.out; have k2 := (hz.cell (p := ⟨fb, id * 3 + 1, none⟩) (World.block_lt_of_cell? _ _ HKN.out)).trans HKN.out; have k3 := (hz.cell (p := ⟨p, 0, none⟩) (World.block_lt_of_cell? _ _ HKR.out)).trans HKR.out; clear hz; go_simp; try with_reducible rfl)
              (try simp only [Act.put, List.setIfInBounds_toArray, List.set_cons_zero, List.set_cons_succ])
              refine PlanT.take0 (v := ?vU5) (by kernel_rfl) ?yU5 ?rU5
              case yU5 => (intro wz hz; have k1 := (hz.cell (p := ⟨w1.heap.size, 0, none⟩) (World.block_lt_of_cell? _ _ HKF.out)).trans HKF.out; have k2 := (hz.cell (p := ⟨fb, id * 3 + 1, none⟩) (World.block_lt_of_cell? _ _ HKN.out)).trans HKN.out; have k3 := (hz.cell (p := ⟨p, 0, none⟩) (World.block_lt_of_cell? _ _ HKR.out)).trans HKR.out; clear hz; go_simp; try with_reducible rfl)
              (try simp only [Act.put, List.setIfInBounds_toArray, List.set_cons_zero, List.set_cons_succ])
              refine PlanT.take0 (v := ?vU6) (by kernel_rfl) ?yU6 ?rU6
              case yU6 => (intro wz hz; have k1 := (hz.cell (p := ⟨w1.heap.size, 0, none⟩) (World.block_lt_of_cell? _ _ HKF.out)).trans HKF.out; have k2 := (hz.cell (p := ⟨fb, id * 3 + 1, none⟩) (World.block_lt_of_cell? _ _ HKN.out)).trans HKN.out; have k3 := (hz.cell (p := ⟨p, 0, none⟩) (World.block_lt_of_cell? _ _ HKR.out)).trans HKR.out; clear hz; go_simp; try with_reducible rfl)
              (try simp only [Act.put, List.setIfInBounds_toArray, List.set_cons_zero, List.set_cons_succ])
              refine PlanT.take0 (v := ?vU7) (by kernel_rfl) ?yU7 ?rU7
              case yU7 => (intro wz hz; have k1 := (hz.cell (p := ⟨w1.heap.size, 0, none⟩) (World.block_lt_of_cell? _ _ HKF.out)).trans HKF.out; have k2 := (hz.cell (p := ⟨fb, id * 3 + 1, none⟩) (World.block_lt_of_cell? _ _ HKN.out)).trans HKN.out; have k3 := (hz.cell (p := ⟨p, 0, none⟩) (World.block_lt_of_cell? _ _ HKR.out)).trans HKR.out; clear hz; go_simp; try with_reducible rfl)
              (try simp only [Act.put, List.setIfInBounds_toArray, List.set_cons_zero, List.set_cons_succ])
              refine PlanT.take0 (v := ?vU8) (by kernel_rfl) ?yU8 ?rU8
              case yU8 => (intro wz hz; have k1 := (hz.cell (p := ⟨w1.heap.size, 0, none⟩) (World.block_lt_of_cell? _ _ HKF.out)).trans HKF.out; have k2 := (hz.cell (p := ⟨fb, id * 3 + 1, none⟩) (World.block_lt_of_cell? _ _ HKN.out)).trans HKN.out; have k3 := (hz.cell (p := ⟨p, 0, none⟩) (World.block_lt_of_cell? _ _ HKR.out)).trans HKR.out; clear hz; go_simp; try with_reducible rfl)
              (try simp only [Act.put, List.setIfInBounds_toArray, List.set_cons_zero, List.set_cons_succ])
              refine PlanT.take0 (v := .int .i64 (mx : Int)) (by kernel_rfl) ?yU9 ?rU9
              case yU9 => (intro wz hz; have k1 := (hz.cell (p := ⟨w1.heap.size, 0, none⟩) (World.block_lt_of_cell? _ _ HKF.out)).trans HKF.out; have k2 := (hz.cell (p := ⟨fb, id * 3 + 1, none⟩) (World.block_lt_of_cell? _ _ HKN.out)).trans HKN.out; have k3 := (hz.cell (p := ⟨p, 0, none⟩) (World.block_lt_of_cell? _ _ HKR.out)).trans HKR.out; clear hz; go_simp)
              (try simp only [Act.put, List.setIfInBounds_toArray, List.set_cons_zero, List.set_cons_succ])
              refine PlanT.take0 (v := ?vU11) (by kernel_rfl) ?yU11 ?rU11
              case yU11 => (intro wz hz; have k1 := (hz.cell (p := ⟨w1.heap.size, 0, none⟩) (World.block_lt_of_cell? _ _ HKF.out)).trans HKF.out; have k2 := (hz.cell (p := ⟨fb, id * 3 + 1, none⟩) (World.block_lt_of_cell? _ _ HKN.out)).trans HKN.out; have k3 := (hz.cell (p := ⟨p, 0, none⟩) (World.block_lt_of_cell? _ _ HKR.out)).trans HKR.out; clear hz; go_simp; try with_reducible rfl)
              (try simp only [Act.put, List.setIfInBounds_toArray, List.set_cons_zero, List.set_cons_succ])
              refine PlanT.take0 (v := ?vU12) (by kernel_rfl) ?yU12 ?rU12
              case yU12 => (intro wz hz; have k1 := (hz.cell (p := ⟨w1.heap.size, 0, none⟩) (World.block_lt_of_cell? _ _ HKF.out)).trans HKF.out; have k2 := (hz.cell (p := ⟨fb, id * 3 + 1, none⟩) (World.block_lt_of_cell? _ _ HKN.out)).trans HKN.out; have k3 := (hz.cell (p := ⟨p, 0, none⟩) (World.block_lt_of_cell? _ _ HKR.out)).trans HKR.out; clear hz; go_simp; try with_reducible rfl)
              (try simp only [Act.put, List.setIfInBounds_toArray, List.set_cons_zero, List.set_cons_succ])
              refine PlanT.take0 (v := ?vU13) (by kernel_rfl) ?yU13 ?rU13
              case yU13 => (intro wz hz; have k1 := (hz.cell (p := ⟨w1.heap.size, 0, none⟩) (World.block_lt_of_cell? _ _ HKF.out)).trans HKF.out; have k2 := (hz.cell (p := ⟨fb, id * 3 + 1, none⟩) (World.block_lt_of_cell? _ _ HKN.out)).trans HKN.out; have k3 := (hz.cell (p := ⟨p, 0, none⟩) (World.block_lt_of_cell? _ _ HKR.out)).trans HKR.out; clear hz; go_simp; try with_reducible rfl)
              (try simp only [Act.put, List.setIfInBounds_toArray, List.set_cons_zero, List.set_cons_succ])
              refine PlanT.take0 (v := ?vU14) (by kernel_rfl) ?yU14 ?rU14
              case yU14 => (intro wz hz; have k1 := (hz.cell (p := ⟨w1.heap.size, 0, none⟩) (World.block_lt_of_cell? _ _ HKF.out)).trans HKF.out; have k2 := (hz.cell (p := ⟨fb, id * 3 + 1, none⟩) (World.block_lt_of_cell? _ _ HKN.out)).trans HKN.out; have k3 := (hz.cell (p := ⟨p, 0, none⟩) (World.block_lt_of_cell? _ _ HKR.out)).trans HKR.out; clear hz; go_simp; try with_reducible rfl)
              (try simp only [Act.put, List.setIfInBounds_toArray, List.set_cons_zero, List.set_cons_succ])
              refine PlanT.exec2 (fun K hK => ⟨by kernel_rfl, ?_⟩)
              go_simp
              refine HUS.out.mono ?_
              rintro e w4 ⟨rfl, hB4⟩
              refine hK.out _ _ hB4 hB4 ?_
              clear hK K
              (try simp only [Act.put, List.setIfInBounds_toArray, List.set_cons_zero, List.set_cons_succ])
              refine PlanT.take0 (v := ?vU10) (by kernel_rfl) ?yU10 ?rU10
              case yU10 => (intro wz hz; have k1 := (hz.cell (p := ⟨w1.heap.size, 0, none⟩) (World.block_lt_of_cell? _ _ HKF.out)).trans HKF.out; have k2 := (hz.cell (p := ⟨fb, id * 3 + 1, none⟩) (World.block_lt_of_cell? _ _ HKN.out)).trans HKN.out; have k3 := (hz.cell (p := ⟨p, 0, none⟩) (World.block_lt_of_cell? _ _ HKR.out)).trans HKR.out; clear hz; go_simp; try with_reducible rfl)
              (try simp only [Act.put, List.setIfInBounds_toArray, List.set_cons_zero, List.set_cons_succ])
              refine PlanT.take0 (v := ?vU15) (by kernel_rfl) ?yU15 ?rU15
              case yU15 => (intro wz hz; have k1 := (hz.cell (p := ⟨w1.heap.size, 0, none⟩) (World.block_lt_of_cell? _ _ HKF.out)).trans HKF.out; have k2 := (hz.cell (p := ⟨fb, id * 3 + 1, none⟩) (World.block_lt_of_cell? _ _ HKN.out)).trans HKN.out; have k3 := (hz.cell (p := ⟨p, 0, none⟩) (World.block_lt_of_cell? _ _ HKR.out)).trans HKR.out; clear hz; go_simp; try with_reducible rfl)
              (try simp only [Act.put, List.setIfInBounds_toArray, List.set_cons_zero, List.set_cons_succ])
              refine PlanT.done (NoPanic.normal ?_)
              go_wp2_with (go_at_call 49; (with_reducible refine (HCNT.out _ hB4).mono ?_); rintro e w6 ⟨rfl, g6, hd6, hst6⟩)
              go_ret
              exact ⟨rfl, g6, hd6, (((HST1.out.trans (Step.below HB2.out)).trans (Step.below HB3.out)).trans (Step.below hB4)).trans hst6⟩
end Go.Proofs.Ytmlijnekidihbaa
