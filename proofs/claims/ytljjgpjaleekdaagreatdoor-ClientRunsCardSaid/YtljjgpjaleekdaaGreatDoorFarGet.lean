/-
  Bytes of an object (Get).
-/
import Derived.Test.YtljjgpjaleekdaaGreatDoorFarObjs
namespace Go.Proofs.YtljjgpjaleekdaaGreatDoor
open Go.RowKit

theorem enters_farGet1 : Enters Tryz.prog 54 := enters_of Tryz.func54 (by kernel_rfl) rfl

set_option maxRecDepth 100000 in
set_option maxHeartbeats 4000000 in
set_option linter.unusedSimpArgs false in
theorem farGet1_at {G : Nat → Prop} {w : World} {p : Nat} {f : FR} (h : FarAt G w p f) (n : List UInt8) (hnl : n.length ≤ maxLen) (at_ cnt : Int) (bd bn ba bc : Nat)
    (hbn : w.cell? ⟨bn, 0, none⟩ = some (.string (strB n))) (hbd : w.cell? ⟨bd, 0, none⟩ = some (.pointer (some ⟨p, 0, none⟩))) (hba : w.cell? ⟨ba, 0, none⟩ = some (.int .i64 at_)) (hbc : w.cell? ⟨bc, 0, none⟩ = some (.int .i64 cnt)) :
    Calls Tryz.prog 54 #[.pointer (some ⟨bd, 0, none⟩), .pointer (some ⟨bn, 0, none⟩), .pointer (some ⟨ba, 0, none⟩), .pointer (some ⟨bc, 0, none⟩)] w fun e w' => e = .returned (.int .i64 (f.getE n at_ cnt : Int)) ∧ Below w.heap.size w w' := by
  obtain ⟨⟨mv, lv, h1, h2, h3, h4, h5⟩, gp, glt⟩ := h
  have HBN0 := Lib.hid hbn
  have HBD0 := Lib.hid hbd
  have HP := Lib.hid h1
  have HOM0 := Lib.hid h2
  have HMV := Lib.hid h4
  have HNL := Lib.hid (show (strB n).size ≤ maxLen by rw [strB_size]; exact hnl)
  clear h1 h2 h3 h4 h5
  have HBA := Lib.hid (fun w2 (hb : Below w.heap.size w w2) => (hb.cell (p := ⟨ba, 0, none⟩) (World.block_lt_of_cell? _ _ hba)).trans hba)
  have HBC := Lib.hid (fun w2 (hb : Below w.heap.size w w2) => (hb.cell (p := ⟨bc, 0, none⟩) (World.block_lt_of_cell? _ _ hbc)).trans hbc)
  clear hba hbc
  cases hf : nfind f.objs n with
  | none =>
    have e1 : f.getE n at_ cnt = 2 := by unfold FR.getE; rw [hf]
    rw [e1]
    have HF := Lib.hid (show nfind f.objs (strB n).data.toList = none from hf)
    clear e1 hf
    go_enter Tryz.func54, Tryz.ntmps54
    go_wp2
    obtain ⟨w2, hw2⟩ : ∃ w2, w2 = w.drew := ⟨_, rfl⟩
    have HBZ := Lib.hid (show Below w.heap.size w w2 by rw [hw2]; exact (Below.refl _ _).drew)
    have Hw2 := Lib.hid hw2
    clear hw2
    have HBD := Lib.hid ((HBZ.out.cell (p := ⟨bd, 0, none⟩) (World.block_lt_of_cell? _ _ HBD0.out)).trans HBD0.out)
    have HBN := Lib.hid ((HBZ.out.cell (p := ⟨bn, 0, none⟩) (World.block_lt_of_cell? _ _ HBN0.out)).trans HBN0.out)
    have HC0 := Lib.hid (show w2.cell? ⟨p, 0, none⟩ = some mv from blk_cell ((HBZ.out.block p (blk_lt HP.out)).trans HP.out))
    have HOM := Lib.hid (HOM0.out.kept (Kept.of HBZ.out (R := fun k => k < w.heap.size) fun _ h => h) HOM0.out.lt)
    have HLT := Lib.hid (show bd < w2.heap.size ∧ bn < w2.heap.size ∧ p < w2.heap.size from ⟨World.block_lt_of_cell? _ _ HBD.out, World.block_lt_of_cell? _ _ HBN.out, World.block_lt_of_cell? _ _ HC0.out⟩)
    refine wp_region_two (fun wz => Below w2.heap.size w2 wz) (fun wz => Below w2.heap.size w2 wz) [(0, 0), (0, 1), (0, 2), (0, 3), (0, 4), (0, 5), (0, 6), (0, 7), (0, 8), (2, 9), (2, 10), (0, 11)] [] (by kernel_rfl) (by kernel_rfl) (by kernel_rfl) (by kernel_rfl) (by kernel_rfl) (by rw [← Hw2.out]; exact Below.refl _ _) (by rw [← Hw2.out]; exact Below.refl _ _) ?_
    simp only [planT, List.drop_succ_cons, List.drop_zero]
    rw [← Hw2.out]
    refine PlanT.take0 (v := ?vN0) (by kernel_rfl) ?yN0 ?rN0
    case yN0 => (intro wz hz; have k1 := (hz.cell (p := ⟨bd, 0, none⟩) HLT.out.1).trans HBD.out; have k2 := (hz.cell (p := ⟨bn, 0, none⟩) HLT.out.2.1).trans HBN.out; have k3 := (hz.cell (p := ⟨p, 0, none⟩) HLT.out.2.2).trans HC0.out; have hl := om_look_none (HOM.out.kept (Kept.of hz (R := fun k => k < w2.heap.size) fun _ h => h) HOM.out.lt) (strB n) HNL.out HF.out; clear hz; go_simp; try with_reducible rfl)
    (try simp only [Act.put, List.setIfInBounds_toArray, List.set_cons_zero, List.set_cons_succ])
    refine PlanT.take0 (v := ?vN1) (by kernel_rfl) ?yN1 ?rN1
    case yN1 => (intro wz hz; have k1 := (hz.cell (p := ⟨bd, 0, none⟩) HLT.out.1).trans HBD.out; have k2 := (hz.cell (p := ⟨bn, 0, none⟩) HLT.out.2.1).trans HBN.out; have k3 := (hz.cell (p := ⟨p, 0, none⟩) HLT.out.2.2).trans HC0.out; have hl := om_look_none (HOM.out.kept (Kept.of hz (R := fun k => k < w2.heap.size) fun _ h => h) HOM.out.lt) (strB n) HNL.out HF.out; clear hz; go_simp; try with_reducible rfl)
    (try simp only [Act.put, List.setIfInBounds_toArray, List.set_cons_zero, List.set_cons_succ])
    refine PlanT.take0 (v := ?vN2) (by kernel_rfl) ?yN2 ?rN2
    case yN2 => (intro wz hz; have k1 := (hz.cell (p := ⟨bd, 0, none⟩) HLT.out.1).trans HBD.out; have k2 := (hz.cell (p := ⟨bn, 0, none⟩) HLT.out.2.1).trans HBN.out; have k3 := (hz.cell (p := ⟨p, 0, none⟩) HLT.out.2.2).trans HC0.out; have hl := om_look_none (HOM.out.kept (Kept.of hz (R := fun k => k < w2.heap.size) fun _ h => h) HOM.out.lt) (strB n) HNL.out HF.out; clear hz; go_simp; try with_reducible rfl)
    (try simp only [Act.put, List.setIfInBounds_toArray, List.set_cons_zero, List.set_cons_succ])
    refine PlanT.take0 (v := ?vN3) (by kernel_rfl) ?yN3 ?rN3
    case yN3 => (intro wz hz; have k1 := (hz.cell (p := ⟨bd, 0, none⟩) HLT.out.1).trans HBD.out; have k2 := (hz.cell (p := ⟨bn, 0, none⟩) HLT.out.2.1).trans HBN.out; have k3 := (hz.cell (p := ⟨p, 0, none⟩) HLT.out.2.2).trans HC0.out; have hl := om_look_none (HOM.out.kept (Kept.of hz (R := fun k => k < w2.heap.size) fun _ h => h) HOM.out.lt) (strB n) HNL.out HF.out; clear hz; go_simp; try with_reducible rfl)
    (try simp only [Act.put, List.setIfInBounds_toArray, List.set_cons_zero, List.set_cons_succ])
    refine PlanT.take0 (v := ?vN4) (by kernel_rfl) ?yN4 ?rN4
    case yN4 => (intro wz hz; have k1 := (hz.cell (p := ⟨bd, 0, none⟩) HLT.out.1).trans HBD.out; have k2 := (hz.cell (p := ⟨bn, 0, none⟩) HLT.out.2.1).trans HBN.out; have k3 := (hz.cell (p := ⟨p, 0, none⟩) HLT.out.2.2).trans HC0.out; have hl := om_look_none (HOM.out.kept (Kept.of hz (R := fun k => k < w2.heap.size) fun _ h => h) HOM.out.lt) (strB n) HNL.out HF.out; clear hz; go_simp; try with_reducible rfl)
    (try simp only [Act.put, List.setIfInBounds_toArray, List.set_cons_zero, List.set_cons_succ])
    refine PlanT.take0 (v := ?vN5) (by kernel_rfl) ?yN5 ?rN5
    case yN5 => (intro wz hz; have k1 := (hz.cell (p := ⟨bd, 0, none⟩) HLT.out.1).trans HBD.out; have k2 := (hz.cell (p := ⟨bn, 0, none⟩) HLT.out.2.1).trans HBN.out; have k3 := (hz.cell (p := ⟨p, 0, none⟩) HLT.out.2.2).trans HC0.out; have hl := om_look_none (HOM.out.kept (Kept.of hz (R := fun k => k < w2.heap.size) fun _ h => h) HOM.out.lt) (strB n) HNL.out HF.out; clear hz; go_simp; try with_reducible rfl)
    (try simp only [Act.put, List.setIfInBounds_toArray, List.set_cons_zero, List.set_cons_succ])
    refine PlanT.take0 (v := ?vN6) (by kernel_rfl) ?yN6 ?rN6
    case yN6 => (intro wz hz; have k1 := (hz.cell (p := ⟨bd, 0, none⟩) HLT.out.1).trans HBD.out; have k2 := (hz.cell (p := ⟨bn, 0, none⟩) HLT.out.2.1).trans HBN.out; have k3 := (hz.cell (p := ⟨p, 0, none⟩) HLT.out.2.2).trans HC0.out; have hl := om_look_none (HOM.out.kept (Kept.of hz (R := fun k => k < w2.heap.size) fun _ h => h) HOM.out.lt) (strB n) HNL.out HF.out; clear hz; go_simp; try with_reducible rfl)
    (try simp only [Act.put, List.setIfInBounds_toArray, List.set_cons_zero, List.set_cons_succ])
    refine PlanT.take0 (v := ?vN7) (by kernel_rfl) ?yN7 ?rN7
    case yN7 => (intro wz hz; have k1 := (hz.cell (p := ⟨bd, 0, none⟩) HLT.out.1).trans HBD.out; have k2 := (hz.cell (p := ⟨bn, 0, none⟩) HLT.out.2.1).trans HBN.out; have k3 := (hz.cell (p := ⟨p, 0, none⟩) HLT.out.2.2).trans HC0.out; have hl := om_look_none (HOM.out.kept (Kept.of hz (R := fun k => k < w2.heap.size) fun _ h => h) HOM.out.lt) (strB n) HNL.out HF.out; clear hz; go_simp; try with_reducible rfl)
    (try simp only [Act.put, List.setIfInBounds_toArray, List.set_cons_zero, List.set_cons_succ])
    refine PlanT.take0 (v := ?vN8) (by kernel_rfl) ?yN8 ?rN8
    case yN8 => (intro wz hz; have k1 := (hz.cell (p := ⟨bd, 0, none⟩) HLT.out.1).trans HBD.out; have k2 := (hz.cell (p := ⟨bn, 0, none⟩) HLT.out.2.1).trans HBN.out; have k3 := (hz.cell (p := ⟨p, 0, none⟩) HLT.out.2.2).trans HC0.out; have hl := om_look_none (HOM.out.kept (Kept.of hz (R := fun k => k < w2.heap.size) fun _ h => h) HOM.out.lt) (strB n) HNL.out HF.out; clear hz; go_simp; try with_reducible rfl)
    (try simp only [Act.put, List.setIfInBounds_toArray, List.set_cons_zero, List.set_cons_succ])
    refine PlanT.exec2 (fun K hK => ⟨by kernel_rfl, ?_⟩)
    go_simp
    have hb3 : Below w2.heap.size w2 (w2.alloc (.cells #[.string ⟨#[]⟩] 67)) := (Below.refl _ _).alloc (Nat.le_refl _) _
    refine hK.out _ _ hb3 hb3 ?_
    clear hK K
    (try simp only [Act.put, List.setIfInBounds_toArray, List.set_cons_zero, List.set_cons_succ])
    refine PlanT.exec2 (fun K hK => ⟨by kernel_rfl, ?_⟩)
    go_simp
    have hb4 : Below w2.heap.size w2 (w2.alloc (.cells #[.string ⟨#[]⟩] 67)) := (Below.refl _ _).alloc (Nat.le_refl _) _
    refine hK.out _ _ hb4 hb4 ?_
    clear hK K
    (try simp only [Act.put, List.setIfInBounds_toArray, List.set_cons_zero, List.set_cons_succ])
    refine PlanT.take0 (v := ?vN11) (by kernel_rfl) ?yN11 ?rN11
    case yN11 => (intro wz hz; have k1 := (hz.cell (p := ⟨bd, 0, none⟩) HLT.out.1).trans HBD.out; have k2 := (hz.cell (p := ⟨bn, 0, none⟩) HLT.out.2.1).trans HBN.out; have k3 := (hz.cell (p := ⟨p, 0, none⟩) HLT.out.2.2).trans HC0.out; have hl := om_look_none (HOM.out.kept (Kept.of hz (R := fun k => k < w2.heap.size) fun _ h => h) HOM.out.lt) (strB n) HNL.out HF.out; clear hz; go_simp; try with_reducible rfl)
    (try simp only [Act.put, List.setIfInBounds_toArray, List.set_cons_zero, List.set_cons_succ])
    refine PlanT.done (NoPanic.normal ?_)
    go_wp2
    go_ret
    exact ⟨rfl, HBZ.out.trans (hb4.mono HBZ.out.size)⟩
  | some ob =>
    have e1 : f.getE n at_ cnt = if at_ < 0 ∨ (ob.length : Int) < at_ ∨ cnt < 0 then 1 else 0 := by unfold FR.getE; rw [hf]
    have HE := Lib.hid e1
    have HF := Lib.hid (show nfind f.objs (strB n).data.toList = some ob from hf)
    clear e1 hf
    go_enter Tryz.func54, Tryz.ntmps54
    go_wp2
    obtain ⟨w2, hw2⟩ : ∃ w2, w2 = w.drew := ⟨_, rfl⟩
    have HBZ := Lib.hid (show Below w.heap.size w w2 by rw [hw2]; exact (Below.refl _ _).drew)
    have Hw2 := Lib.hid hw2
    clear hw2
    have HBD := Lib.hid ((HBZ.out.cell (p := ⟨bd, 0, none⟩) (World.block_lt_of_cell? _ _ HBD0.out)).trans HBD0.out)
    have HBN := Lib.hid ((HBZ.out.cell (p := ⟨bn, 0, none⟩) (World.block_lt_of_cell? _ _ HBN0.out)).trans HBN0.out)
    have HC0 := Lib.hid (show w2.cell? ⟨p, 0, none⟩ = some mv from blk_cell ((HBZ.out.block p (blk_lt HP.out)).trans HP.out))
    have HOM := Lib.hid (HOM0.out.kept (Kept.of HBZ.out (R := fun k => k < w.heap.size) fun _ h => h) HOM0.out.lt)
    have HLT := Lib.hid (show bd < w2.heap.size ∧ bn < w2.heap.size ∧ p < w2.heap.size from ⟨World.block_lt_of_cell? _ _ HBD.out, World.block_lt_of_cell? _ _ HBN.out, World.block_lt_of_cell? _ _ HC0.out⟩)
    refine wp_region_two (fun wz => Below w2.heap.size w2 wz) (fun wz => Below w2.heap.size w2 wz) [(0, 0), (0, 1), (0, 2), (0, 3), (0, 4), (0, 5), (0, 6), (0, 7), (0, 8), (2, 9), (2, 10), (0, 11)] [] (by kernel_rfl) (by kernel_rfl) (by kernel_rfl) (by kernel_rfl) (by kernel_rfl) (by rw [← Hw2.out]; exact Below.refl _ _) (by rw [← Hw2.out]; exact Below.refl _ _) ?_
    simp only [planT, List.drop_succ_cons, List.drop_zero]
    rw [← Hw2.out]
    refine PlanT.take0 (v := ?vS0) (by kernel_rfl) ?yS0 ?rS0
    case yS0 => (intro wz hz; have k1 := (hz.cell (p := ⟨bd, 0, none⟩) HLT.out.1).trans HBD.out; have k2 := (hz.cell (p := ⟨bn, 0, none⟩) HLT.out.2.1).trans HBN.out; have k3 := (hz.cell (p := ⟨p, 0, none⟩) HLT.out.2.2).trans HC0.out; have hl := om_look_some (HOM.out.kept (Kept.of hz (R := fun k => k < w2.heap.size) fun _ h => h) HOM.out.lt) (strB n) HNL.out HF.out; clear hz; go_simp; try with_reducible rfl)
    (try simp only [Act.put, List.setIfInBounds_toArray, List.set_cons_zero, List.set_cons_succ])
    refine PlanT.take0 (v := ?vS1) (by kernel_rfl) ?yS1 ?rS1
    case yS1 => (intro wz hz; have k1 := (hz.cell (p := ⟨bd, 0, none⟩) HLT.out.1).trans HBD.out; have k2 := (hz.cell (p := ⟨bn, 0, none⟩) HLT.out.2.1).trans HBN.out; have k3 := (hz.cell (p := ⟨p, 0, none⟩) HLT.out.2.2).trans HC0.out; have hl := om_look_some (HOM.out.kept (Kept.of hz (R := fun k => k < w2.heap.size) fun _ h => h) HOM.out.lt) (strB n) HNL.out HF.out; clear hz; go_simp; try with_reducible rfl)
    (try simp only [Act.put, List.setIfInBounds_toArray, List.set_cons_zero, List.set_cons_succ])
    refine PlanT.take0 (v := ?vS2) (by kernel_rfl) ?yS2 ?rS2
    case yS2 => (intro wz hz; have k1 := (hz.cell (p := ⟨bd, 0, none⟩) HLT.out.1).trans HBD.out; have k2 := (hz.cell (p := ⟨bn, 0, none⟩) HLT.out.2.1).trans HBN.out; have k3 := (hz.cell (p := ⟨p, 0, none⟩) HLT.out.2.2).trans HC0.out; have hl := om_look_some (HOM.out.kept (Kept.of hz (R := fun k => k < w2.heap.size) fun _ h => h) HOM.out.lt) (strB n) HNL.out HF.out; clear hz; go_simp; try with_reducible rfl)
    (try simp only [Act.put, List.setIfInBounds_toArray, List.set_cons_zero, List.set_cons_succ])
    refine PlanT.take0 (v := ?vS3) (by kernel_rfl) ?yS3 ?rS3
    case yS3 => (intro wz hz; have k1 := (hz.cell (p := ⟨bd, 0, none⟩) HLT.out.1).trans HBD.out; have k2 := (hz.cell (p := ⟨bn, 0, none⟩) HLT.out.2.1).trans HBN.out; have k3 := (hz.cell (p := ⟨p, 0, none⟩) HLT.out.2.2).trans HC0.out; have hl := om_look_some (HOM.out.kept (Kept.of hz (R := fun k => k < w2.heap.size) fun _ h => h) HOM.out.lt) (strB n) HNL.out HF.out; clear hz; go_simp; try with_reducible rfl)
    (try simp only [Act.put, List.setIfInBounds_toArray, List.set_cons_zero, List.set_cons_succ])
    refine PlanT.take0 (v := ?vS4) (by kernel_rfl) ?yS4 ?rS4
    case yS4 => (intro wz hz; have k1 := (hz.cell (p := ⟨bd, 0, none⟩) HLT.out.1).trans HBD.out; have k2 := (hz.cell (p := ⟨bn, 0, none⟩) HLT.out.2.1).trans HBN.out; have k3 := (hz.cell (p := ⟨p, 0, none⟩) HLT.out.2.2).trans HC0.out; have hl := om_look_some (HOM.out.kept (Kept.of hz (R := fun k => k < w2.heap.size) fun _ h => h) HOM.out.lt) (strB n) HNL.out HF.out; clear hz; go_simp; try with_reducible rfl)
    (try simp only [Act.put, List.setIfInBounds_toArray, List.set_cons_zero, List.set_cons_succ])
    refine PlanT.take0 (v := ?vS5) (by kernel_rfl) ?yS5 ?rS5
    case yS5 => (intro wz hz; have k1 := (hz.cell (p := ⟨bd, 0, none⟩) HLT.out.1).trans HBD.out; have k2 := (hz.cell (p := ⟨bn, 0, none⟩) HLT.out.2.1).trans HBN.out; have k3 := (hz.cell (p := ⟨p, 0, none⟩) HLT.out.2.2).trans HC0.out; have hl := om_look_some (HOM.out.kept (Kept.of hz (R := fun k => k < w2.heap.size) fun _ h => h) HOM.out.lt) (strB n) HNL.out HF.out; clear hz; go_simp; try with_reducible rfl)
    (try simp only [Act.put, List.setIfInBounds_toArray, List.set_cons_zero, List.set_cons_succ])
    refine PlanT.take0 (v := ?vS6) (by kernel_rfl) ?yS6 ?rS6
    case yS6 => (intro wz hz; have k1 := (hz.cell (p := ⟨bd, 0, none⟩) HLT.out.1).trans HBD.out; have k2 := (hz.cell (p := ⟨bn, 0, none⟩) HLT.out.2.1).trans HBN.out; have k3 := (hz.cell (p := ⟨p, 0, none⟩) HLT.out.2.2).trans HC0.out; have hl := om_look_some (HOM.out.kept (Kept.of hz (R := fun k => k < w2.heap.size) fun _ h => h) HOM.out.lt) (strB n) HNL.out HF.out; clear hz; go_simp; try with_reducible rfl)
    (try simp only [Act.put, List.setIfInBounds_toArray, List.set_cons_zero, List.set_cons_succ])
    refine PlanT.take0 (v := ?vS7) (by kernel_rfl) ?yS7 ?rS7
    case yS7 => (intro wz hz; have k1 := (hz.cell (p := ⟨bd, 0, none⟩) HLT.out.1).trans HBD.out; have k2 := (hz.cell (p := ⟨bn, 0, none⟩) HLT.out.2.1).trans HBN.out; have k3 := (hz.cell (p := ⟨p, 0, none⟩) HLT.out.2.2).trans HC0.out; have hl := om_look_some (HOM.out.kept (Kept.of hz (R := fun k => k < w2.heap.size) fun _ h => h) HOM.out.lt) (strB n) HNL.out HF.out; clear hz; go_simp; try with_reducible rfl)
    (try simp only [Act.put, List.setIfInBounds_toArray, List.set_cons_zero, List.set_cons_succ])
    refine PlanT.take0 (v := ?vS8) (by kernel_rfl) ?yS8 ?rS8
    case yS8 => (intro wz hz; have k1 := (hz.cell (p := ⟨bd, 0, none⟩) HLT.out.1).trans HBD.out; have k2 := (hz.cell (p := ⟨bn, 0, none⟩) HLT.out.2.1).trans HBN.out; have k3 := (hz.cell (p := ⟨p, 0, none⟩) HLT.out.2.2).trans HC0.out; have hl := om_look_some (HOM.out.kept (Kept.of hz (R := fun k => k < w2.heap.size) fun _ h => h) HOM.out.lt) (strB n) HNL.out HF.out; clear hz; go_simp; try with_reducible rfl)
    (try simp only [Act.put, List.setIfInBounds_toArray, List.set_cons_zero, List.set_cons_succ])
    refine PlanT.exec2 (fun K hK => ⟨by kernel_rfl, ?_⟩)
    go_simp
    have hb3 : Below w2.heap.size w2 (w2.alloc (.cells #[.string ⟨#[]⟩] 67)) := (Below.refl _ _).alloc (Nat.le_refl _) _
    refine hK.out _ _ hb3 hb3 ?_
    clear hK K
    (try simp only [Act.put, List.setIfInBounds_toArray, List.set_cons_zero, List.set_cons_succ])
    refine PlanT.exec2 (fun K hK => ⟨by kernel_rfl, ?_⟩)
    go_simp
    have hb4 : Below w2.heap.size w2 (w2.alloc (.cells #[.string (strB ob)] 67)) := (Below.refl _ _).alloc (Nat.le_refl _) _
    refine hK.out _ _ hb4 hb4 ?_
    clear hK K
    (try simp only [Act.put, List.setIfInBounds_toArray, List.set_cons_zero, List.set_cons_succ])
    refine PlanT.take0 (v := ?vS11) (by kernel_rfl) ?yS11 ?rS11
    case yS11 => (intro wz hz; have k1 := (hz.cell (p := ⟨bd, 0, none⟩) HLT.out.1).trans HBD.out; have k2 := (hz.cell (p := ⟨bn, 0, none⟩) HLT.out.2.1).trans HBN.out; have k3 := (hz.cell (p := ⟨p, 0, none⟩) HLT.out.2.2).trans HC0.out; have hl := om_look_some (HOM.out.kept (Kept.of hz (R := fun k => k < w2.heap.size) fun _ h => h) HOM.out.lt) (strB n) HNL.out HF.out; clear hz; go_simp; try with_reducible rfl)
    (try simp only [Act.put, List.setIfInBounds_toArray, List.set_cons_zero, List.set_cons_succ])
    refine PlanT.done (NoPanic.normal ?_)
    have HB3 := Lib.hid (HBZ.out.trans (hb4.mono HBZ.out.size))
    have hca := HBA.out _ HB3.out
    have hcc := HBC.out _ HB3.out
    have hob : (strB ob).size = ob.length := strB_size ob
    obtain ⟨w4, hw4⟩ : ∃ w4, w4 = w2.alloc (.cells #[.string (strB ob)] 67) := ⟨_, rfl⟩
    obtain ⟨q4, hq4⟩ : ∃ q4, q4 = w2.heap.size := ⟨_, rfl⟩
    have hco : w4.cell? ⟨q4, 0, none⟩ = some (.string (strB ob)) := by rw [hw4, hq4]; exact blk_cell (heap_alloc_new w2 _)
    rw [← hw4] at hca hcc HB3 ⊢
    rw [← hq4]
    obtain ⟨O, hO⟩ : ∃ O, O = strB ob := ⟨_, rfl⟩
    rw [← hO] at hob hco ⊢
    clear hO hw4 hq4 hb3 hb4
    by_cases q1 : at_ < 0
    · have HQ := Lib.hid (show f.getE n at_ cnt = 1 by rw [HE.out, if_pos (.inl q1)])
      go_wp2
      go_ret
      rw [HQ.out]
      exact ⟨rfl, HB3.out⟩
    · by_cases q2 : (ob.length : Int) < at_
      · have HQ := Lib.hid (show f.getE n at_ cnt = 1 by rw [HE.out, if_pos (.inr (.inl q2))])
        go_wp2
        go_ret
        rw [HQ.out]
        exact ⟨rfl, HB3.out⟩
      · by_cases q3 : cnt < 0
        · have HQ := Lib.hid (show f.getE n at_ cnt = 1 by rw [HE.out, if_pos (.inr (.inr q3))])
          go_wp2
          go_ret
          rw [HQ.out]
          exact ⟨rfl, HB3.out⟩
        · have HQ := Lib.hid (show f.getE n at_ cnt = 0 by rw [HE.out, if_neg (by omega)])
          go_wp2
          go_ret
          rw [HQ.out]
          exact ⟨rfl, HB3.out⟩

theorem om_len {w : World} {v : Value} {l : List (List UInt8 × List UInt8)} (h : Om w v l) {n b : List UInt8} (hn : n.length ≤ maxLen) (hf : nfind l n = some b) : b.length ≤ maxLen := by
  rcases h with ⟨rfl, rfl⟩ | ⟨mb, rfl, hm⟩
  · cases hf
  · obtain ⟨u, ps, _, hv⟩ := hm.lookup (t := 43) (Maps.string_keyed Tryz.underlying9) Tryz.underlying43 (zero_obj w) (objElem_mk (s := ⟨#[]⟩) (by unfold maxLen; decide)) (name_key (strB n) (by rw [strB_size]; exact hn))
    rw [mapN_at, show (strB n).data.toList = n from rfl, hf] at hv
    exact (objElem_inv (b := b) hv).2

/-- '[]byte(s)'. -/
theorem str_bytes (w : World) (l : List UInt8) (hl : l.length ≤ maxLen) : ∃ v w', (convert 9 31 (.string (strB l))).run Tryz.prog w = .ok v w' ∧ RdB w' v l ∧ Below w.heap.size w w' ∧ (∀ k, v.ownBlock = some k → w.heap.size ≤ k) := by
  have hrun := run_bytes_of_string (P := Tryz.prog) w 9 31 5 (strB l) Tryz.underlying9 Tryz.underlying31 Tryz.underlying5
  rw [strB_size] at hrun
  refine ⟨_, _, hrun, ?_, (Below.refl _ _).drew.alloc (Nat.le_refl _) _, fun k e => by cases e; exact Nat.le_refl _⟩
  refine ⟨_, _, rfl, grownCap_ge _ _ _ _, grownCap_le_maxLen _ _ _ _ hl, by simp, .inr ⟨w.heap.size, 0, rfl, by simp, fun j u hj => ?_⟩⟩
  have hjl : j < l.length := by
    rcases Nat.lt_or_ge j l.length with h | h
    · exact h
    · simp [List.getElem?_eq_none h] at hj
  rw [Nat.zero_add]
  refine (World.cell?_alloc_mark w.drew _ _ _ j).trans ?_
  unfold bytesRow
  rw [Array.getElem?_append_left (by simpa using hjl)]
  simpa using hj

theorem heap_new4 (w : World) (o1 o2 o3 o4 : Obj) : ((((w.alloc o1).alloc o2).alloc o3).alloc o4).heap[w.heap.size + 3]? = some o4 := by simpa using heap_alloc_new (((w.alloc o1).alloc o2).alloc o3) o4

set_option maxRecDepth 100000 in
set_option maxHeartbeats 2000000 in
theorem farGet_at {G : Nat → Prop} {w : World} {p : Nat} {f : FR} (h : FarAt G w p f) (hcl : f.calls < 1000000000000) (s : ByteArray) (hs : s.size ≤ maxLen) (at_ cnt : Int) :
    Calls Tryz.prog 36 #[.pointer (some ⟨p, 0, none⟩), .string s, .int .i64 at_, .int .i64 cnt] w fun e w' => ∃ v, e = .returned (.tuple #[v, .int .i64 ((f.get s.data.toList at_ cnt).2 : Int)]) ∧ FarAt G w' p f.took ∧ Touch G w w' ∧ RdB w' v (f.get s.data.toList at_ cnt).1 ∧ (∀ k, v.ownBlock = some k → w.heap.size ≤ k) := by
  obtain ⟨w1, hw1⟩ : ∃ w1, w1 = (((w.alloc (.cells #[.pointer (some ⟨p, 0, none⟩)] 24)).alloc (.cells #[.string s] 9)).alloc (.cells #[.int .i64 at_] 3)).alloc (.cells #[.int .i64 cnt] 3) := ⟨_, rfl⟩
  have hbel : Below w.heap.size w w1 := by subst hw1; exact ((((Below.refl _ _).alloc (Nat.le_refl _) _).alloc (by simp) _).alloc (by simp <;> omega) _).alloc (by simp <;> omega) _
  have h1 : FarAt G w1 p f := h.below hbel
  have hwd : w1.heap.size = w.heap.size + 4 := by subst hw1; simp
  have hbd : w1.cell? ⟨w.heap.size, 0, none⟩ = some (.pointer (some ⟨p, 0, none⟩)) := by
    subst hw1
    rw [World.cell?_of_block (a := ⟨w.heap.size, 0, none⟩) (((Below.heap_alloc _ _ _ (by simp <;> omega)).trans (Below.heap_alloc _ _ _ (by simp <;> omega))).trans (Below.heap_alloc _ _ _ (by simp))), blk_cell (heap_alloc_new w _)]
    rfl
  have hbn : w1.cell? ⟨w.heap.size + 1, 0, none⟩ = some (.string s) := by
    subst hw1
    rw [World.cell?_of_block (a := ⟨w.heap.size + 1, 0, none⟩) ((Below.heap_alloc _ _ _ (by simp <;> omega)).trans (Below.heap_alloc _ _ _ (by simp))), blk_cell (heap_new2 w _ _)]
    rfl
  have hba : w1.cell? ⟨w.heap.size + 2, 0, none⟩ = some (.int .i64 at_) := by
    subst hw1
    rw [World.cell?_of_block (a := ⟨w.heap.size + 2, 0, none⟩) (Below.heap_alloc _ _ _ (by simp)), blk_cell (heap_new3 w _ _ _)]
    rfl
  have hbc : w1.cell? ⟨w.heap.size + 3, 0, none⟩ = some (.int .i64 cnt) := by
    subst hw1
    rw [blk_cell (heap_new4 w _ _ _ _)]
    rfl
  have hplt := h.lt p h.gp
  have hc := call_at h1 hcl 54 #[] #[.pointer (some ⟨w.heap.size, 0, none⟩), .pointer (some ⟨w.heap.size + 1, 0, none⟩), .pointer (some ⟨w.heap.size + 2, 0, none⟩), .pointer (some ⟨w.heap.size + 3, 0, none⟩)] enters_farGet1 (f.getE s.data.toList at_ cnt)
    (fun w3 => FarAt G w3 p f.took ∧ Kept (fun j => j < w1.heap.size ∧ j ≠ p) w1 w3)
    (fun _ w2 hd2 hk2 hs2 => (farGet1_at hd2 s.data.toList (by rw [size_list]; exact hs) at_ cnt w.heap.size (w.heap.size + 1) (w.heap.size + 2) (w.heap.size + 3)
      ((hk2.cell (p := ⟨w.heap.size + 1, 0, none⟩) ⟨by simp <;> omega, by simp <;> omega⟩).trans hbn) ((hk2.cell (p := ⟨w.heap.size, 0, none⟩) ⟨by simp <;> omega, by simp <;> omega⟩).trans hbd) ((hk2.cell (p := ⟨w.heap.size + 2, 0, none⟩) ⟨by simp <;> omega, by simp <;> omega⟩).trans hba) ((hk2.cell (p := ⟨w.heap.size + 3, 0, none⟩) ⟨by simp <;> omega, by simp <;> omega⟩).trans hbc)).mono
        fun e w3 ⟨he, hb⟩ => ⟨he, hd2.below hb, hk2.trans (Kept.of hb fun k hk => by have := hk.1; omega)⟩)
    (fun _ w2 hd2 hk2 hs2 => ⟨hd2, hk2⟩)
  have HC := Lib.hid hc
  have Hw1 := Lib.hid hw1
  have HT := Lib.hid (Touch.of_below (F := G) hbel)
  have HS1 := Lib.hid hwd
  have HBD := Lib.hid hbd
  have HBN := Lib.hid hbn
  have HBA := Lib.hid hba
  have HBC := Lib.hid hbc
  have H1 := Lib.hid h1
  clear hc hbel h1 hwd hbn hba hbc hw1 hbd
  obtain ⟨te, hte⟩ : ∃ te, te = tells f.out (f.getE s.data.toList at_ cnt) := ⟨_, rfl⟩
  have hl1 : (f.get s.data.toList at_ cnt).2 = te := by rw [hte]; rfl
  rw [hl1]
  rw [← hte] at HC
  by_cases h0 : te = 0
  · have hge := (tells_zero.1 (hte.symm.trans h0)).2.2
    have hl2 : (f.get s.data.toList at_ cnt).1 = f.getB s.data.toList at_ cnt := by unfold FR.get; rw [← hte, if_pos h0]
    rw [hl2]
    obtain ⟨ob, hf, hat0, hat1, hcnt⟩ : ∃ ob, nfind f.objs s.data.toList = some ob ∧ 0 ≤ at_ ∧ at_ ≤ (ob.length : Int) ∧ 0 ≤ cnt := by
      unfold FR.getE at hge
      cases hf : nfind f.objs s.data.toList with
      | none => rw [hf] at hge; cases hge
      | some ob =>
        rw [hf] at hge
        by_cases hq : at_ < 0 ∨ (ob.length : Int) < at_ ∨ cnt < 0
        · simp only [if_pos hq] at hge; cases hge
        · exact ⟨ob, rfl, by omega, by omega, by omega⟩
    have hgb : f.getB s.data.toList at_ cnt = (ob.drop at_.toNat).take cnt.toNat := by unfold FR.getB; rw [hf]
    rw [hgb]
    obtain ⟨a, rfl⟩ := Int.eq_ofNat_of_zero_le hat0
    obtain ⟨c, rfl⟩ := Int.eq_ofNat_of_zero_le hcnt
    subst h0
    have HF := Lib.hid hf
    clear hl1 hl2 hge hgb hte hf
    go_enter Tryz.func36, Tryz.ntmps36
    go_wp2_with (go_at_call 44; rw [← Hw1.out]; (with_reducible refine HC.out.mono ?_); rintro e w2 ⟨rfl, h2, hk2⟩; have H2 := Lib.hid h2; have HK2 := Lib.hid hk2; clear h2 hk2)
    obtain ⟨w3, hw3⟩ : ∃ w3, w3 = w2.drew := ⟨_, rfl⟩
    have HB3 := Lib.hid (show Below w2.heap.size w2 w3 by rw [hw3]; exact (Below.refl _ _).drew)
    have Hw3 := Lib.hid hw3
    clear hw3
    have H3 := Lib.hid (H2.out.below HB3.out)
    obtain ⟨mv, lv, k1, k2, k3, k4, k5⟩ := H3.out.ex
    have hS1 := HS1.out
    have hK3 := HK2.out.trans (Kept.of HB3.out fun k (hk : k < w1.heap.size ∧ k ≠ p) => Nat.lt_of_lt_of_le hk.1 HK2.out.size)
    have c1 := (hK3.cell (p := ⟨w.heap.size, 0, none⟩) ⟨by simp <;> omega, by simp <;> omega⟩).trans HBD.out
    have c2 := (hK3.cell (p := ⟨w.heap.size + 1, 0, none⟩) ⟨by simp <;> omega, by simp <;> omega⟩).trans HBN.out
    have c3 := (hK3.cell (p := ⟨w.heap.size + 2, 0, none⟩) ⟨by simp <;> omega, by simp <;> omega⟩).trans HBA.out
    have c4 := (hK3.cell (p := ⟨w.heap.size + 3, 0, none⟩) ⟨by simp <;> omega, by simp <;> omega⟩).trans HBC.out
    have c5 : w3.cell? ⟨p, 0, none⟩ = some mv := blk_cell k1
    have hl := om_look1 k2 s hs (b := ob) HF.out
    have hfl := fld_obj
    have hob : (strB ob).size = ob.length := strB_size ob
    have HK3 := Lib.hid hK3
    have HOB := Lib.hid k2
    clear hK3 k1 k2 k3 k4 k5
    refine wp_region_two (fun wz => wz = w3) (fun wz => wz = w3) [(0, 0), (0, 1), (0, 2), (0, 3), (0, 4), (0, 5), (0, 6), (0, 7), (0, 8), (0, 9)] [] (by kernel_rfl) (by kernel_rfl) (by kernel_rfl) (by kernel_rfl) (by kernel_rfl) Hw3.out.symm Hw3.out.symm ?_
    simp only [planT, List.drop_succ_cons, List.drop_zero]
    rw [← Hw3.out]
    refine PlanT.take0 (v := ?vG0) (by kernel_rfl) ?yG0 ?rG0
    case yG0 => (intro wz hz; subst hz; go_simp; try with_reducible rfl)
    (try simp only [Act.put, List.setIfInBounds_toArray, List.set_cons_zero, List.set_cons_succ])
    refine PlanT.take0 (v := ?vG1) (by kernel_rfl) ?yG1 ?rG1
    case yG1 => (intro wz hz; subst hz; go_simp; try with_reducible rfl)
    (try simp only [Act.put, List.setIfInBounds_toArray, List.set_cons_zero, List.set_cons_succ])
    refine PlanT.take0 (v := ?vG2) (by kernel_rfl) ?yG2 ?rG2
    case yG2 => (intro wz hz; subst hz; go_simp; try with_reducible rfl)
    (try simp only [Act.put, List.setIfInBounds_toArray, List.set_cons_zero, List.set_cons_succ])
    refine PlanT.take0 (v := ?vG3) (by kernel_rfl) ?yG3 ?rG3
    case yG3 => (intro wz hz; subst hz; go_simp; try with_reducible rfl)
    (try simp only [Act.put, List.setIfInBounds_toArray, List.set_cons_zero, List.set_cons_succ])
    refine PlanT.take0 (v := ?vG4) (by kernel_rfl) ?yG4 ?rG4
    case yG4 => (intro wz hz; subst hz; go_simp; try with_reducible rfl)
    (try simp only [Act.put, List.setIfInBounds_toArray, List.set_cons_zero, List.set_cons_succ])
    refine PlanT.take0 (v := ?vG5) (by kernel_rfl) ?yG5 ?rG5
    case yG5 => (intro wz hz; subst hz; go_simp; try with_reducible rfl)
    (try simp only [Act.put, List.setIfInBounds_toArray, List.set_cons_zero, List.set_cons_succ])
    refine PlanT.take0 (v := ?vG6) (by kernel_rfl) ?yG6 ?rG6
    case yG6 => (intro wz hz; subst hz; go_simp; try with_reducible rfl)
    (try simp only [Act.put, List.setIfInBounds_toArray, List.set_cons_zero, List.set_cons_succ])
    refine PlanT.take0 (v := ?vG7) (by kernel_rfl) ?yG7 ?rG7
    case yG7 => (intro wz hz; subst hz; go_simp; try with_reducible rfl)
    (try simp only [Act.put, List.setIfInBounds_toArray, List.set_cons_zero, List.set_cons_succ])
    refine PlanT.take0 (v := ?vG8) (by kernel_rfl) ?yG8 ?rG8
    case yG8 => (intro wz hz; subst hz; go_simp; try with_reducible rfl)
    (try simp only [Act.put, List.setIfInBounds_toArray, List.set_cons_zero, List.set_cons_succ])
    refine PlanT.take0 (v := ?vG9) (by kernel_rfl) ?yG9 ?rG9
    case yG9 => (intro wz hz; subst hz; go_simp; try with_reducible rfl)
    (try simp only [Act.put, List.setIfInBounds_toArray, List.set_cons_zero, List.set_cons_succ])
    refine PlanT.done (NoPanic.normal ?_)
    have hex : (strB ob).extract a ob.length = strB (ob.drop a) := by
      rw [Lib.extract_mk, List.take_of_length_le (by rw [List.length_drop]; omega)]
    rw [hex]
    have hrs : (strB (ob.drop a)).size = ob.length - a := by rw [strB_size, List.length_drop]
    obtain ⟨R, hR⟩ : ∃ R, R = strB (ob.drop a) := ⟨_, rfl⟩
    rw [← hR] at hrs ⊢
    have HRR := Lib.hid hR
    clear hR hex hob hl
    have hm : R.extract 0 (min (c : Int) ((ob.length - a : Nat) : Int)).toNat = strB ((ob.drop a).take c) := by
      rw [HRR.out, Lib.extract_mk, Nat.sub_zero, List.drop_zero]
      congr 2
      rw [show (min (c : Int) ((ob.length - a : Nat) : Int)).toNat = min c (ob.drop a).length by rw [List.length_drop]; omega]
      rw [← List.take_take, List.take_length]
    obtain ⟨cv, w5, hcv, hrd, hb5, hcvb⟩ := str_bytes w3 ((ob.drop a).take c) (by
      have := om_len (HOB.out) (by rw [size_list]; exact hs) HF.out
      rw [List.length_take, List.length_drop]; omega)
    rw [← hm] at hcv
    have HRD := Lib.hid hrd
    have HB5 := Lib.hid hb5
    have HCB := Lib.hid hcvb
    clear hrd hb5 hm hcvb
    go_wp2
    go_ret2
    have e1 : ((a : Int).toNat) = a := rfl
    exact ⟨cv, rfl, H3.out.below HB5.out, (HT.out.trans (Kept.far H1.out HK3.out) (Grows.refl _ _ _)).trans (Touch.of_below (F := G) HB5.out) (Grows.refl _ _ _), HRD.out, fun k e => by have := HCB.out k e; have := HK3.out.size; omega⟩
  · have hl2 : (f.get s.data.toList at_ cnt).1 = [] := by unfold FR.get; rw [← hte, if_neg h0]
    rw [hl2]
    have hne : ¬ (te : Int) = 0 := by omega
    clear hl1 hl2 hte
    go_enter Tryz.func36, Tryz.ntmps36
    go_wp2_with (go_at_call 44; rw [← Hw1.out]; (with_reducible refine HC.out.mono ?_); rintro e w2 ⟨rfl, h2, hk2⟩)
    go_ret2
    exact ⟨_, rfl, h2, HT.out.trans (hk2.far H1.out) (Grows.refl _ _ _), Rd.nil _ _, fun k e => (nomatch e)⟩
end Go.Proofs.YtljjgpjaleekdaaGreatDoor
