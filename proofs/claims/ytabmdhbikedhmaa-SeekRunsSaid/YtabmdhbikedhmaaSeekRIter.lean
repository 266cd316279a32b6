/-
  Chapter 14: the document's iterator: where it lies and what its moves do.
-/
import Derived.Test.YtabmdhbikedhmaaSeekRSorted
import Derived.Test.YtabmdhbikedhmaaKept
import Derived.Test.YtabmdhbikedhmaaTwo
namespace Go.Proofs.Ytabmdhbikedhmaa
open Go.RowKit

/-- The document's iterator 'q', with the blocks 'G', goes over 'L' and stands at 'a'. -/
def RIt (G : Nat → Prop) (w : World) (q : Nat) (L : List Ent) (a : Int) : Prop :=
  ∃ v, w.heap[q]? = some (.cells #[v, .int .i64 a] 55 (0, 0)) ∧ OwnE w 0 v L ∧ v.ownBlock ≠ some q ∧ (∀ k, G k ↔ k = q ∨ v.ownBlock = some k) ∧ (∀ e ∈ L, e.fits) ∧ (-1 ≤ a ∧ a ≤ L.length) ∧ L.length ≤ 100000
theorem RIt.lt {G : Nat → Prop} {w : World} {q : Nat} {L : List Ent} {a : Int} (h : RIt G w q L a) : ∀ k, G k → k < w.heap.size := by
  obtain ⟨v, h1, h2, _, h4, _⟩ := h
  intro k hk
  rcases (h4 k).1 hk with rfl | hk
  · exact blk_lt h1
  · exact (World.ownsRow.lt h2 k hk).2
theorem RIt.kept {G R : Nat → Prop} {w w' : World} {q : Nat} {L : List Ent} {a : Int} (h : RIt G w q L a) (hk : Kept R w w') (hR : ∀ k, G k → R k) : RIt G w' q L a := by
  obtain ⟨v, h1, h2, h3, h4, h5⟩ := h
  exact ⟨v, (hk.block q (hR q ((h4 q).2 (.inl rfl)))).trans h1, own_kept h2 hk fun k e => hR k ((h4 k).2 (.inr e)), h3, h4, h5⟩
theorem RIt.below {G : Nat → Prop} {w w' : World} {q : Nat} {L : List Ent} {a : Int} (h : RIt G w q L a) (hb : Below w.heap.size w w') : RIt G w' q L a := h.kept (R := G) (Kept.of hb fun k hk => h.lt k hk) fun _ h => h
theorem RIt.touch {G F : Nat → Prop} {w w' : World} {q : Nat} {L : List Ent} {a : Int} (h : RIt G w q L a) (hk : Touch F w w') (hF : ∀ k, G k → ¬ F k) : RIt G w' q L a := h.kept (R := G) (Kept.mono hk fun k hk' => ⟨h.lt k hk', hF k hk'⟩) fun _ h => h
theorem RIt.cells {G : Nat → Prop} {w : World} {q : Nat} {L : List Ent} {a : Int} (h : RIt G w q L a) : ∃ va vc, w.heap[q]? = some (.cells #[.slice va L.length vc, .int .i64 a] 55 (0, 0)) ∧ (-1 ≤ a ∧ a ≤ L.length) ∧ L.length ≤ 100000 := by
  obtain ⟨v, h1, h2, _, _, _, h6, h7⟩ := h
  obtain ⟨va, vc, rfl, _, _⟩ := h2.form
  exact ⟨va, vc, h1, h6, h7⟩
/-- It has been moved. -/
theorem RIt.to {G : Nat → Prop} {w wd : World} {q : Nat} {L : List Ent} {a m : Int} (h : RIt G w q L a) (hb : Below w.heap.size w wd) (hm : -1 ≤ m ∧ m ≤ L.length) : RIt G (wd.setCell ⟨q, 1, none⟩ (.int .i64 m)) q L m ∧ Touch G w (wd.setCell ⟨q, 1, none⟩ (.int .i64 m)) := by
  have h0 := h.below hb
  obtain ⟨v, h1, h2, h3, h4, h5, h6, h7⟩ := h0
  refine ⟨⟨v, by rw [blk_set h1]; rfl, ?_, h3, h4, h5, hm, h7⟩, ?_⟩
  · exact own_kept h2 (R := fun j => j ≠ q) ((Kept.refl _ wd).setCell (fun h => h rfl) _) fun j hj e => h3 (e ▸ hj)
  · exact Kept.setCell (Kept.of hb fun k hk => hk.1) (fun hk => hk.2 ((h4 q).2 (.inl rfl))) _

/-- What a move tells and leaves. -/
def RMove (G : Nat → Prop) (q : Nat) (L : List Ent) (a : Int) (w : World) (r : Ending) (w' : World) : Prop := r = .returned (.bool (stands L a)) ∧ RIt G w' q L a ∧ Touch G w w'

set_option maxRecDepth 100000 in
set_option maxHeartbeats 400000 in
theorem ris_any {G : Nat → Prop} {w : World} {q : Nat} {L : List Ent} {a : Int} (h : RIt G w q L a) : Calls Try.prog 35 #[.pointer (some ⟨q, 0, none⟩)] w fun e w' => e = .returned (.bool (stands L a)) ∧ Below w.heap.size w w' := by
  obtain ⟨va, vc, hq, hlb, hl5⟩ := h.cells
  have p0 := blk_cell (i := 0) hq
  have p1 := blk_cell (i := 1) hq
  replace p0 : w.cell? ⟨q, 0, none⟩ = some (.slice va L.length vc) := p0
  replace p1 : w.cell? ⟨q, 1, none⟩ = some (.int .i64 a) := p1
  clear h hq
  by_cases h0 : 0 ≤ a
  · by_cases h1 : a < L.length
    · have HR := Lib.hid (show stands L a = true by unfold stands; simp [h0, h1])
      go_enter Try.func35, Try.ntmps35
      go_upto_region 1 with (fail)
      refine wp_region_plan [(true, 0), (true, 1), (true, 2), (true, 3), (true, 4), (true, 5), (true, 6), (true, 7), (true, 8), (true, 9), (true, 10), (true, 11), (true, 12), (true, 13), (true, 14), (true, 15), (true, 16), (true, 17)] (by kernel_rfl) (by kernel_rfl) (by kernel_rfl) (by kernel_rfl) (by kernel_rfl) ?_
      simp only [planO, List.drop_succ_cons, List.drop_zero]
      refine PlanO.take (v := ?va0) (by kernel_rfl) ?ya0 ?ra0
      case ya0 => (intro wz hz; go_simp; try with_reducible rfl)
      (try simp only [Act.put, List.setIfInBounds_toArray, List.set_cons_zero, List.set_cons_succ])
      refine PlanO.take (v := ?va1) (by kernel_rfl) ?ya1 ?ra1
      case ya1 => (intro wz hz; go_simp; try with_reducible rfl)
      (try simp only [Act.put, List.setIfInBounds_toArray, List.set_cons_zero, List.set_cons_succ])
      refine PlanO.take (v := ?va2) (by kernel_rfl) ?ya2 ?ra2
      case ya2 => (intro wz hz; go_simp; try with_reducible rfl)
      (try simp only [Act.put, List.setIfInBounds_toArray, List.set_cons_zero, List.set_cons_succ])
      refine PlanO.take (v := ?va3) (by kernel_rfl) ?ya3 ?ra3
      case ya3 => (intro wz hz; have c0 := Ext.at_ hz p0; have c1 := Ext.at_ hz p1; go_simp; try with_reducible rfl)
      (try simp only [Act.put, List.setIfInBounds_toArray, List.set_cons_zero, List.set_cons_succ])
      refine PlanO.take (v := .bool true) (by kernel_rfl) ?ya4 ?ra4
      case ya4 => (intro wz hz; go_simp; (try simp); (try omega))
      (try simp only [Act.put, List.setIfInBounds_toArray, List.set_cons_zero, List.set_cons_succ])
      refine PlanO.take (v := .bool true) (by kernel_rfl) ?ya5 ?ra5
      case ya5 => (intro wz hz; go_simp; (try simp); (try omega))
      (try simp only [Act.put, List.setIfInBounds_toArray, List.set_cons_zero, List.set_cons_succ])
      refine PlanO.take (v := ?va6) (by kernel_rfl) ?ya6 ?ra6
      case ya6 => (intro wz hz; go_simp; try with_reducible rfl)
      (try simp only [Act.put, List.setIfInBounds_toArray, List.set_cons_zero, List.set_cons_succ])
      refine PlanO.take (v := ?va7) (by kernel_rfl) ?ya7 ?ra7
      case ya7 => (intro wz hz; go_simp; try with_reducible rfl)
      (try simp only [Act.put, List.setIfInBounds_toArray, List.set_cons_zero, List.set_cons_succ])
      refine PlanO.take (v := ?va8) (by kernel_rfl) ?ya8 ?ra8
      case ya8 => (intro wz hz; go_simp; try with_reducible rfl)
      (try simp only [Act.put, List.setIfInBounds_toArray, List.set_cons_zero, List.set_cons_succ])
      refine PlanO.take (v := ?va9) (by kernel_rfl) ?ya9 ?ra9
      case ya9 => (intro wz hz; have c0 := Ext.at_ hz p0; have c1 := Ext.at_ hz p1; go_simp; try with_reducible rfl)
      (try simp only [Act.put, List.setIfInBounds_toArray, List.set_cons_zero, List.set_cons_succ])
      refine PlanO.take (v := ?va10) (by kernel_rfl) ?ya10 ?ra10
      case ya10 => (intro wz hz; go_simp; try with_reducible rfl)
      (try simp only [Act.put, List.setIfInBounds_toArray, List.set_cons_zero, List.set_cons_succ])
      refine PlanO.take (v := ?va11) (by kernel_rfl) ?ya11 ?ra11
      case ya11 => (intro wz hz; go_simp; try with_reducible rfl)
      (try simp only [Act.put, List.setIfInBounds_toArray, List.set_cons_zero, List.set_cons_succ])
      refine PlanO.take (v := ?va12) (by kernel_rfl) ?ya12 ?ra12
      case ya12 => (intro wz hz; go_simp; try with_reducible rfl)
      (try simp only [Act.put, List.setIfInBounds_toArray, List.set_cons_zero, List.set_cons_succ])
      refine PlanO.take (v := ?va13) (by kernel_rfl) ?ya13 ?ra13
      case ya13 => (intro wz hz; have c0 := Ext.at_ hz p0; have c1 := Ext.at_ hz p1; go_simp; try with_reducible rfl)
      (try simp only [Act.put, List.setIfInBounds_toArray, List.set_cons_zero, List.set_cons_succ])
      refine PlanO.take (v := ?va14) (by kernel_rfl) ?ya14 ?ra14
      case ya14 => (intro wz hz; go_simp; try with_reducible rfl)
      (try simp only [Act.put, List.setIfInBounds_toArray, List.set_cons_zero, List.set_cons_succ])
      refine PlanO.take (v := .bool true) (by kernel_rfl) ?ya15 ?ra15
      case ya15 => (intro wz hz; go_simp; (try simp); (try omega))
      (try simp only [Act.put, List.setIfInBounds_toArray, List.set_cons_zero, List.set_cons_succ])
      refine PlanO.take (v := .bool true) (by kernel_rfl) ?ya16 ?ra16
      case ya16 => (intro wz hz; go_simp; (try simp); (try omega))
      (try simp only [Act.put, List.setIfInBounds_toArray, List.set_cons_zero, List.set_cons_succ])
      refine PlanO.take (v := .bool true) (by kernel_rfl) ?ya17 ?ra17
      case ya17 => (intro wz hz; go_simp; (try simp); (try omega))
      (try simp only [Act.put, List.setIfInBounds_toArray, List.set_cons_zero, List.set_cons_succ])
      refine PlanO.done (NoPanic.normal ?_)
      go_wp2
      go_ret
      exact ⟨by rw [HR.out]; rfl, (Below.refl _ _).drew⟩
    · have HR := Lib.hid (show stands L a = false by unfold stands; simp [h0]; omega)
      go_enter Try.func35, Try.ntmps35
      go_upto_region 1 with (fail)
      refine wp_region_plan [(true, 0), (true, 1), (true, 2), (true, 3), (true, 4), (true, 5), (true, 6), (true, 7), (true, 8), (true, 9), (true, 10), (true, 11), (true, 12), (true, 13), (true, 14), (true, 15), (true, 16), (true, 17)] (by kernel_rfl) (by kernel_rfl) (by kernel_rfl) (by kernel_rfl) (by kernel_rfl) ?_
      simp only [planO, List.drop_succ_cons, List.drop_zero]
      refine PlanO.take (v := ?vb0) (by kernel_rfl) ?yb0 ?rb0
      case yb0 => (intro wz hz; go_simp; try with_reducible rfl)
      (try simp only [Act.put, List.setIfInBounds_toArray, List.set_cons_zero, List.set_cons_succ])
      refine PlanO.take (v := ?vb1) (by kernel_rfl) ?yb1 ?rb1
      case yb1 => (intro wz hz; go_simp; try with_reducible rfl)
      (try simp only [Act.put, List.setIfInBounds_toArray, List.set_cons_zero, List.set_cons_succ])
      refine PlanO.take (v := ?vb2) (by kernel_rfl) ?yb2 ?rb2
      case yb2 => (intro wz hz; go_simp; try with_reducible rfl)
      (try simp only [Act.put, List.setIfInBounds_toArray, List.set_cons_zero, List.set_cons_succ])
      refine PlanO.take (v := ?vb3) (by kernel_rfl) ?yb3 ?rb3
      case yb3 => (intro wz hz; have c0 := Ext.at_ hz p0; have c1 := Ext.at_ hz p1; go_simp; try with_reducible rfl)
      (try simp only [Act.put, List.setIfInBounds_toArray, List.set_cons_zero, List.set_cons_succ])
      refine PlanO.take (v := .bool true) (by kernel_rfl) ?yb4 ?rb4
      case yb4 => (intro wz hz; go_simp; (try simp); (try omega))
      (try simp only [Act.put, List.setIfInBounds_toArray, List.set_cons_zero, List.set_cons_succ])
      refine PlanO.take (v := .bool true) (by kernel_rfl) ?yb5 ?rb5
      case yb5 => (intro wz hz; go_simp; (try simp); (try omega))
      (try simp only [Act.put, List.setIfInBounds_toArray, List.set_cons_zero, List.set_cons_succ])
      refine PlanO.take (v := ?vb6) (by kernel_rfl) ?yb6 ?rb6
      case yb6 => (intro wz hz; go_simp; try with_reducible rfl)
      (try simp only [Act.put, List.setIfInBounds_toArray, List.set_cons_zero, List.set_cons_succ])
      refine PlanO.take (v := ?vb7) (by kernel_rfl) ?yb7 ?rb7
      case yb7 => (intro wz hz; go_simp; try with_reducible rfl)
      (try simp only [Act.put, List.setIfInBounds_toArray, List.set_cons_zero, List.set_cons_succ])
      refine PlanO.take (v := ?vb8) (by kernel_rfl) ?yb8 ?rb8
      case yb8 => (intro wz hz; go_simp; try with_reducible rfl)
      (try simp only [Act.put, List.setIfInBounds_toArray, List.set_cons_zero, List.set_cons_succ])
      refine PlanO.take (v := ?vb9) (by kernel_rfl) ?yb9 ?rb9
      case yb9 => (intro wz hz; have c0 := Ext.at_ hz p0; have c1 := Ext.at_ hz p1; go_simp; try with_reducible rfl)
      (try simp only [Act.put, List.setIfInBounds_toArray, List.set_cons_zero, List.set_cons_succ])
      refine PlanO.take (v := ?vb10) (by kernel_rfl) ?yb10 ?rb10
      case yb10 => (intro wz hz; go_simp; try with_reducible rfl)
      (try simp only [Act.put, List.setIfInBounds_toArray, List.set_cons_zero, List.set_cons_succ])
      refine PlanO.take (v := ?vb11) (by kernel_rfl) ?yb11 ?rb11
      case yb11 => (intro wz hz; go_simp; try with_reducible rfl)
      (try simp only [Act.put, List.setIfInBounds_toArray, List.set_cons_zero, List.set_cons_succ])
      refine PlanO.take (v := ?vb12) (by kernel_rfl) ?yb12 ?rb12
      case yb12 => (intro wz hz; go_simp; try with_reducible rfl)
      (try simp only [Act.put, List.setIfInBounds_toArray, List.set_cons_zero, List.set_cons_succ])
      refine PlanO.take (v := ?vb13) (by kernel_rfl) ?yb13 ?rb13
      case yb13 => (intro wz hz; have c0 := Ext.at_ hz p0; have c1 := Ext.at_ hz p1; go_simp; try with_reducible rfl)
      (try simp only [Act.put, List.setIfInBounds_toArray, List.set_cons_zero, List.set_cons_succ])
      refine PlanO.take (v := ?vb14) (by kernel_rfl) ?yb14 ?rb14
      case yb14 => (intro wz hz; go_simp; try with_reducible rfl)
      (try simp only [Act.put, List.setIfInBounds_toArray, List.set_cons_zero, List.set_cons_succ])
      refine PlanO.take (v := .bool false) (by kernel_rfl) ?yb15 ?rb15
      case yb15 => (intro wz hz; go_simp; (try simp); (try omega))
      (try simp only [Act.put, List.setIfInBounds_toArray, List.set_cons_zero, List.set_cons_succ])
      refine PlanO.take (v := .bool false) (by kernel_rfl) ?yb16 ?rb16
      case yb16 => (intro wz hz; go_simp; (try simp); (try omega))
      (try simp only [Act.put, List.setIfInBounds_toArray, List.set_cons_zero, List.set_cons_succ])
      refine PlanO.take (v := .bool false) (by kernel_rfl) ?yb17 ?rb17
      case yb17 => (intro wz hz; go_simp; (try simp); (try omega))
      (try simp only [Act.put, List.setIfInBounds_toArray, List.set_cons_zero, List.set_cons_succ])
      refine PlanO.done (NoPanic.normal ?_)
      go_wp2
      go_ret
      exact ⟨by rw [HR.out]; rfl, (Below.refl _ _).drew⟩
  · have HR := Lib.hid (show stands L a = false by unfold stands; simp; omega)
    go_enter Try.func35, Try.ntmps35
    go_upto_region 1 with (fail)
    refine wp_region_plan [(true, 0), (true, 1), (true, 2), (true, 3), (true, 4), (true, 5), (true, 6), (true, 7), (true, 8), (true, 9), (true, 10), (true, 11), (true, 12), (true, 13), (true, 14), (true, 15), (true, 16), (true, 17)] (by kernel_rfl) (by kernel_rfl) (by kernel_rfl) (by kernel_rfl) (by kernel_rfl) ?_
    simp only [planO, List.drop_succ_cons, List.drop_zero]
    refine PlanO.take (v := ?vc0) (by kernel_rfl) ?yc0 ?rc0
    case yc0 => (intro wz hz; go_simp; try with_reducible rfl)
    (try simp only [Act.put, List.setIfInBounds_toArray, List.set_cons_zero, List.set_cons_succ])
    refine PlanO.take (v := ?vc1) (by kernel_rfl) ?yc1 ?rc1
    case yc1 => (intro wz hz; go_simp; try with_reducible rfl)
    (try simp only [Act.put, List.setIfInBounds_toArray, List.set_cons_zero, List.set_cons_succ])
    refine PlanO.take (v := ?vc2) (by kernel_rfl) ?yc2 ?rc2
    case yc2 => (intro wz hz; go_simp; try with_reducible rfl)
    (try simp only [Act.put, List.setIfInBounds_toArray, List.set_cons_zero, List.set_cons_succ])
    refine PlanO.take (v := ?vc3) (by kernel_rfl) ?yc3 ?rc3
    case yc3 => (intro wz hz; have c0 := Ext.at_ hz p0; have c1 := Ext.at_ hz p1; go_simp; try with_reducible rfl)
    (try simp only [Act.put, List.setIfInBounds_toArray, List.set_cons_zero, List.set_cons_succ])
    refine PlanO.take (v := .bool false) (by kernel_rfl) ?yc4 ?rc4
    case yc4 => (intro wz hz; go_simp; (try simp); (try omega))
    (try simp only [Act.put, List.setIfInBounds_toArray, List.set_cons_zero, List.set_cons_succ])
    refine PlanO.take (v := .bool false) (by kernel_rfl) ?yc5 ?rc5
    case yc5 => (intro wz hz; go_simp; (try simp); (try omega))
    (try simp only [Act.put, List.setIfInBounds_toArray, List.set_cons_zero, List.set_cons_succ])
    refine PlanO.skip (by kernel_rfl) ?_
    (try simp only [Act.put, List.setIfInBounds_toArray, List.set_cons_zero, List.set_cons_succ])
    refine PlanO.skip (by kernel_rfl) ?_
    (try simp only [Act.put, List.setIfInBounds_toArray, List.set_cons_zero, List.set_cons_succ])
    refine PlanO.skip (by kernel_rfl) ?_
    (try simp only [Act.put, List.setIfInBounds_toArray, List.set_cons_zero, List.set_cons_succ])
    refine PlanO.skip (by kernel_rfl) ?_
    (try simp only [Act.put, List.setIfInBounds_toArray, List.set_cons_zero, List.set_cons_succ])
    refine PlanO.skip (by kernel_rfl) ?_
    (try simp only [Act.put, List.setIfInBounds_toArray, List.set_cons_zero, List.set_cons_succ])
    refine PlanO.skip (by kernel_rfl) ?_
    (try simp only [Act.put, List.setIfInBounds_toArray, List.set_cons_zero, List.set_cons_succ])
    refine PlanO.skip (by kernel_rfl) ?_
    (try simp only [Act.put, List.setIfInBounds_toArray, List.set_cons_zero, List.set_cons_succ])
    refine PlanO.skip (by kernel_rfl) ?_
    (try simp only [Act.put, List.setIfInBounds_toArray, List.set_cons_zero, List.set_cons_succ])
    refine PlanO.skip (by kernel_rfl) ?_
    (try simp only [Act.put, List.setIfInBounds_toArray, List.set_cons_zero, List.set_cons_succ])
    refine PlanO.skip (by kernel_rfl) ?_
    (try simp only [Act.put, List.setIfInBounds_toArray, List.set_cons_zero, List.set_cons_succ])
    refine PlanO.take (v := .bool false) (by kernel_rfl) ?yc16 ?rc16
    case yc16 => (intro wz hz; go_simp; (try simp); (try omega))
    (try simp only [Act.put, List.setIfInBounds_toArray, List.set_cons_zero, List.set_cons_succ])
    refine PlanO.take (v := .bool false) (by kernel_rfl) ?yc17 ?rc17
    case yc17 => (intro wz hz; go_simp; (try simp); (try omega))
    (try simp only [Act.put, List.setIfInBounds_toArray, List.set_cons_zero, List.set_cons_succ])
    refine PlanO.done (NoPanic.normal ?_)
    go_wp2
    go_ret
    exact ⟨by rw [HR.out]; rfl, (Below.refl _ _).drew⟩

set_option maxRecDepth 100000 in
set_option maxHeartbeats 400000 in
theorem rfirst_any {G : Nat → Prop} {w : World} {q : Nat} {L : List Ent} {a : Int} (h : RIt G w q L a) : Calls Try.prog 12 #[.pointer (some ⟨q, 0, none⟩)] w (RMove G q L 0 w) := by
  obtain ⟨va, vc, hq, hlb, hl5⟩ := h.cells
  have HH := Lib.hid h
  have p0 := blk_cell (i := 0) hq
  have p1 := blk_cell (i := 1) hq
  have f1 := blk_free (i := 1) hq
  replace p0 : w.cell? ⟨q, 0, none⟩ = some (.slice va L.length vc) := p0
  replace p1 : w.cell? ⟨q, 1, none⟩ = some (.int .i64 a) := p1
  have HTD := Lib.hid (Below.refl w.heap.size w)
  have HR : Hid ((-1 : Int) ≤ 0 ∧ (0 : Int) ≤ L.length) := Lib.hid (by omega)
  clear h hq
  go_enter Try.func12, Try.ntmps12
  go_upto_region 2 with (fail)
  obtain ⟨w1, hw1⟩ : ∃ w1, w1 = w.setCell ⟨q, 1, none⟩ (.int .i64 0) := ⟨_, rfl⟩
  rw [← hw1]
  have HW := Lib.hid (show RIt G w1 q L 0 ∧ Touch G w w1 by rw [hw1]; exact HH.out.to HTD.out HR.out)
  clear hw1 p0 p1 f1
  go_wp2_with (go_at_call 35; (refine (ris_any HW.out.1).mono ?_); rintro e w2 ⟨rfl, hb2⟩; have HB2 := Lib.hid hb2; clear hb2)
  go_ret
  exact ⟨rfl, HW.out.1.below HB2.out, HW.out.2.trans (Touch.of_below (F := G) HB2.out) (Grows.refl _ _ _)⟩

set_option maxRecDepth 100000 in
set_option maxHeartbeats 400000 in
theorem rlast_any {G : Nat → Prop} {w : World} {q : Nat} {L : List Ent} {a : Int} (h : RIt G w q L a) : Calls Try.prog 14 #[.pointer (some ⟨q, 0, none⟩)] w (RMove G q L ((L.length : Int) - 1) w) := by
  obtain ⟨va, vc, hq, hlb, hl5⟩ := h.cells
  have HH := Lib.hid h
  have p0 := blk_cell (i := 0) hq
  have p1 := blk_cell (i := 1) hq
  have f1 := blk_free (i := 1) hq
  replace p0 : w.cell? ⟨q, 0, none⟩ = some (.slice va L.length vc) := p0
  replace p1 : w.cell? ⟨q, 1, none⟩ = some (.int .i64 a) := p1
  obtain ⟨m, hm⟩ : ∃ m : Int, (L.length : Int) - 1 = m := ⟨_, rfl⟩
  have HM := Lib.hid hm
  have HTD := Lib.hid (Below.refl w.heap.size w)
  have HR : Hid (-1 ≤ (L.length : Int) - 1 ∧ (L.length : Int) - 1 ≤ L.length) := Lib.hid (by omega)
  have k1 : IntKind.i64.wrap ((L.length : Int) - 1) = m := by rw [IntWalk.i64_in _ (by omega)]; exact hm
  clear hm
  clear h hq
  go_enter Try.func14, Try.ntmps14
  go_upto_region 2 with (fail)
  obtain ⟨w1, hw1⟩ : ∃ w1, w1 = w.setCell ⟨q, 1, none⟩ (.int .i64 m) := ⟨_, rfl⟩
  rw [← hw1]
  have HW := Lib.hid (show RIt G w1 q L m ∧ Touch G w w1 by rw [hw1, ← HM.out]; exact HH.out.to HTD.out HR.out)
  clear hw1 p0 p1 f1
  go_wp2_with (go_at_call 35; (refine (ris_any HW.out.1).mono ?_); rintro e w2 ⟨rfl, hb2⟩; have HB2 := Lib.hid hb2; clear hb2)
  go_ret
  exact ⟨by rw [HM.out]; rfl, by rw [HM.out]; exact HW.out.1.below HB2.out, HW.out.2.trans (Touch.of_below (F := G) HB2.out) (Grows.refl _ _ _)⟩

set_option maxRecDepth 100000 in
set_option maxHeartbeats 400000 in
theorem rprev_any {G : Nat → Prop} {w : World} {q : Nat} {L : List Ent} {a : Int} (h : RIt G w q L a) : Calls Try.prog 20 #[.pointer (some ⟨q, 0, none⟩)] w (RMove G q L (prevA a) w) := by
  obtain ⟨va, vc, hq, hlb, hl5⟩ := h.cells
  have HH := Lib.hid h
  have p0 := blk_cell (i := 0) hq
  have p1 := blk_cell (i := 1) hq
  have f1 := blk_free (i := 1) hq
  replace p0 : w.cell? ⟨q, 0, none⟩ = some (.slice va L.length vc) := p0
  replace p1 : w.cell? ⟨q, 1, none⟩ = some (.int .i64 a) := p1
  obtain ⟨m, hm⟩ : ∃ m : Int, prevA a = m := ⟨_, rfl⟩
  have HM := Lib.hid hm
  have HTD := Lib.hid (Below.refl w.heap.size w)
  have HR : Hid (-1 ≤ prevA a ∧ prevA a ≤ L.length) := Lib.hid (by unfold prevA; omega)
  have k1 : IntKind.i64.wrap (a - 1) = a - 1 := IntWalk.i64_in _ (by omega)
  have hmn : (if a - 1 < -1 then (-1 : Int) else a - 1) = m := by rw [← hm]; unfold prevA; split <;> omega
  clear hm
  clear h hq
  go_enter Try.func20, Try.ntmps20
  go_upto_region 2 with (fail)
  obtain ⟨w1, hw1⟩ : ∃ w1, w1 = w.setCell ⟨q, 1, none⟩ (.int .i64 m) := ⟨_, rfl⟩
  rw [← hw1]
  have HW := Lib.hid (show RIt G w1 q L m ∧ Touch G w w1 by rw [hw1, ← HM.out]; exact HH.out.to HTD.out HR.out)
  clear hw1 p0 p1 f1
  go_wp2_with (go_at_call 35; (refine (ris_any HW.out.1).mono ?_); rintro e w2 ⟨rfl, hb2⟩; have HB2 := Lib.hid hb2; clear hb2)
  go_ret
  exact ⟨by rw [HM.out]; rfl, by rw [HM.out]; exact HW.out.1.below HB2.out, HW.out.2.trans (Touch.of_below (F := G) HB2.out) (Grows.refl _ _ _)⟩

set_option maxRecDepth 100000 in
set_option maxHeartbeats 400000 in
theorem rnext_any {G : Nat → Prop} {w : World} {q : Nat} {L : List Ent} {a : Int} (h : RIt G w q L a) : Calls Try.prog 18 #[.pointer (some ⟨q, 0, none⟩)] w (RMove G q L (nextA L a) w) := by
  obtain ⟨va, vc, hq, hlb, hl5⟩ := h.cells
  have HH := Lib.hid h
  have p0 := blk_cell (i := 0) hq
  have p1 := blk_cell (i := 1) hq
  have f1 := blk_free (i := 1) hq
  replace p0 : w.cell? ⟨q, 0, none⟩ = some (.slice va L.length vc) := p0
  replace p1 : w.cell? ⟨q, 1, none⟩ = some (.int .i64 a) := p1
  obtain ⟨m, hm⟩ : ∃ m : Int, nextA L a = m := ⟨_, rfl⟩
  have HM := Lib.hid hm
  have HR : Hid (-1 ≤ nextA L a ∧ nextA L a ≤ L.length) := Lib.hid (by unfold nextA; omega)
  have hmn : (if (L.length : Int) < a + 1 then (L.length : Int) else a + 1) = m := by rw [← hm]; unfold nextA; split <;> omega
  clear hm
  clear h hq
  go_enter Try.func18, Try.ntmps18
  go_upto_region 1 with (fail)
  obtain ⟨wd, hwd⟩ : ∃ wd, wd = w.drew := ⟨_, rfl⟩
  have Hwd := Lib.hid hwd
  have HTD : Hid (Below w.heap.size w wd) := Lib.hid (by rw [hwd]; exact (Below.refl _ _).drew)
  replace p0 : wd.cell? ⟨q, 0, none⟩ = some (.slice va L.length vc) := by rw [hwd]; exact p0
  replace p1 : wd.cell? ⟨q, 1, none⟩ = some (.int .i64 a) := by rw [hwd]; exact p1
  replace f1 : wd.frozen? ⟨q, 1, none⟩ = false := by rw [hwd]; exact f1
  clear hwd
  refine wp_region_two (fun wz => wz = wd) (fun _ => True) [(0, 0), (0, 1), (0, 2), (0, 3), (0, 4), (0, 5), (0, 6), (0, 7), (0, 8), (0, 9), (0, 10), (0, 11), (0, 12), (0, 13), (3, 14)] [14] (by kernel_rfl) (by kernel_rfl) (by kernel_rfl) (by kernel_rfl) (by kernel_rfl) Hwd.out.symm trivial ?_
  simp only [planT, List.drop_succ_cons, List.drop_zero]
  rw [← Hwd.out]
  refine PlanT.take0 (v := ?v0) (by kernel_rfl) ?y0 ?r0
  case y0 => (intro wz hz; subst hz; go_simp; try with_reducible rfl)
  (try simp only [Act.put, List.setIfInBounds_toArray, List.set_cons_zero, List.set_cons_succ])
  refine PlanT.take0 (v := ?v1) (by kernel_rfl) ?y1 ?r1
  case y1 => (intro wz hz; subst hz; go_simp; try with_reducible rfl)
  (try simp only [Act.put, List.setIfInBounds_toArray, List.set_cons_zero, List.set_cons_succ])
  refine PlanT.take0 (v := ?v2) (by kernel_rfl) ?y2 ?r2
  case y2 => (intro wz hz; subst hz; go_simp; try with_reducible rfl)
  (try simp only [Act.put, List.setIfInBounds_toArray, List.set_cons_zero, List.set_cons_succ])
  refine PlanT.take0 (v := ?v3) (by kernel_rfl) ?y3 ?r3
  case y3 => (intro wz hz; subst hz; go_simp; try with_reducible rfl)
  (try simp only [Act.put, List.setIfInBounds_toArray, List.set_cons_zero, List.set_cons_succ])
  refine PlanT.take0 (v := ?v4) (by kernel_rfl) ?y4 ?r4
  case y4 => (intro wz hz; subst hz; go_simp; try with_reducible rfl)
  (try simp only [Act.put, List.setIfInBounds_toArray, List.set_cons_zero, List.set_cons_succ])
  refine PlanT.take0 (v := .int .i64 (a + 1)) (by kernel_rfl) ?y5 ?r5
  case y5 => (intro wz hz; subst hz; go_simp; try rw [IntWalk.i64_in _ (by omega)])
  (try simp only [Act.put, List.setIfInBounds_toArray, List.set_cons_zero, List.set_cons_succ])
  refine PlanT.take0 (v := ?v6) (by kernel_rfl) ?y6 ?r6
  case y6 => (intro wz hz; subst hz; go_simp; try with_reducible rfl)
  (try simp only [Act.put, List.setIfInBounds_toArray, List.set_cons_zero, List.set_cons_succ])
  refine PlanT.take0 (v := ?v7) (by kernel_rfl) ?y7 ?r7
  case y7 => (intro wz hz; subst hz; go_simp; try with_reducible rfl)
  (try simp only [Act.put, List.setIfInBounds_toArray, List.set_cons_zero, List.set_cons_succ])
  refine PlanT.take0 (v := ?v8) (by kernel_rfl) ?y8 ?r8
  case y8 => (intro wz hz; subst hz; go_simp; try with_reducible rfl)
  (try simp only [Act.put, List.setIfInBounds_toArray, List.set_cons_zero, List.set_cons_succ])
  refine PlanT.take0 (v := ?v9) (by kernel_rfl) ?y9 ?r9
  case y9 => (intro wz hz; subst hz; go_simp; try with_reducible rfl)
  (try simp only [Act.put, List.setIfInBounds_toArray, List.set_cons_zero, List.set_cons_succ])
  refine PlanT.take0 (v := ?v10) (by kernel_rfl) ?y10 ?r10
  case y10 => (intro wz hz; subst hz; go_simp; try with_reducible rfl)
  (try simp only [Act.put, List.setIfInBounds_toArray, List.set_cons_zero, List.set_cons_succ])
  refine PlanT.take0 (v := .int .i64 m) (by kernel_rfl) ?y11 ?r11
  case y11 => (intro wz hz; subst hz; go_simp; (try exact hmn); (try simp [hmn]))
  (try simp only [Act.put, List.setIfInBounds_toArray, List.set_cons_zero, List.set_cons_succ])
  refine PlanT.take0 (v := ?v12) (by kernel_rfl) ?y12 ?r12
  case y12 => (intro wz hz; subst hz; go_simp; try with_reducible rfl)
  (try simp only [Act.put, List.setIfInBounds_toArray, List.set_cons_zero, List.set_cons_succ])
  refine PlanT.take0 (v := ?v13) (by kernel_rfl) ?y13 ?r13
  case y13 => (intro wz hz; subst hz; go_simp; try with_reducible rfl)
  (try simp only [Act.put, List.setIfInBounds_toArray, List.set_cons_zero, List.set_cons_succ])
  refine PlanT.exec3 (fun K hK => ⟨by kernel_rfl, ?_⟩)
  go_simp
  refine hK.out _ _ trivial ?_
  clear hK K
  (try simp only [Act.put, List.setIfInBounds_toArray, List.set_cons_zero, List.set_cons_succ])
  refine PlanT.done (NoPanic.normal ?_)
  obtain ⟨w1, hw1⟩ : ∃ w1, w1 = wd.setCell ⟨q, 1, none⟩ (.int .i64 m) := ⟨_, rfl⟩
  rw [← hw1]
  have HW := Lib.hid (show RIt G w1 q L m ∧ Touch G w w1 by rw [hw1, ← HM.out]; exact HH.out.to HTD.out HR.out)
  clear hw1 p0 p1 f1
  go_wp2_with (go_at_call 35; (refine (ris_any HW.out.1).mono ?_); rintro e w2 ⟨rfl, hb2⟩; have HB2 := Lib.hid hb2; clear hb2)
  go_ret
  exact ⟨by rw [HM.out]; rfl, by rw [HM.out]; exact HW.out.1.below HB2.out, HW.out.2.trans (Touch.of_below (F := G) HB2.out) (Grows.refl _ _ _)⟩

end Go.Proofs.Ytabmdhbikedhmaa
