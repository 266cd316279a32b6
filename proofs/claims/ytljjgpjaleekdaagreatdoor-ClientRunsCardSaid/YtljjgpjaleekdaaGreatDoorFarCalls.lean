/-
  Put and Drop, counted.
-/
import Derived.Test.YtljjgpjaleekdaaGreatDoorFarPut
namespace Go.Proofs.YtljjgpjaleekdaaGreatDoor
open Go.RowKit

theorem Kept.far {G : Nat → Prop} {w w1 : World} {p : Nat} {f : FR} (h : FarAt G w p f) (hk : Kept (fun j => j < w.heap.size ∧ j ≠ p) w w1) : Touch G w w1 :=
  Kept.mono hk fun _ hk' => ⟨hk'.1, fun e => hk'.2 (e ▸ h.gp)⟩

theorem far_call {G : Nat → Prop} {w : World} {p : Nat} {f : FR} (h : FarAt G w p f) (hcl : f.calls < 1000000000000) (k : Nat) (fst caps : Array Value) (hen : Enters Tryz.prog k) (d : Nat) (g : FR → FR)
    (hdo : ∀ w1, FarAt G w1 p f.took → Kept (fun j => j < w.heap.size ∧ j ≠ p) w w1 → w1.heap.size = w.heap.size → Calls Tryz.prog k (fst ++ caps) w1 fun e w2 => e = .returned (.int .i64 (d : Int)) ∧ FarTo G w1 w2 p (g f.took)) :
    Calls Tryz.prog 44 #[.pointer (some ⟨p, 0, none⟩), .func (.func k) fst caps] w fun e w' => e = .returned (.int .i64 (tells f.out d : Int)) ∧ FarTo G w w' p (f.does g) := by
  refine call_at h hcl k fst caps hen d _ (fun hne w1 h1 hk hs => ?_) (fun he w1 h1 hk hs => ?_)
  · refine (hdo w1 h1 hk hs).mono ?_
    rintro e w2 ⟨rfl, hto⟩
    refine ⟨rfl, ?_⟩
    unfold FR.does
    rw [if_neg hne]
    exact FarTo.trans (hk.far h) (Grows.refl _ _ _) hto
  · unfold FR.does
    rw [if_pos he]
    exact ⟨G, h1, hk.far h, Grows.refl _ _ _⟩

theorem out_G {G : Nat → Prop} {w : World} {p : Nat} {f : FR} (h : FarAt G w p f) {k : Nat} (hk : w.heap.size ≤ k) : ¬ G k := fun e => by have := h.lt k e; omega

theorem heap_new3 (w : World) (o1 o2 o3 : Obj) : (((w.alloc o1).alloc o2).alloc o3).heap[w.heap.size + 2]? = some o3 := by simpa using heap_alloc_new ((w.alloc o1).alloc o2) o3

set_option maxRecDepth 100000 in
set_option maxHeartbeats 1000000 in
theorem farPut_at {G : Nat → Prop} {w : World} {p : Nat} {f : FR} (h : FarAt G w p f) (hol : f.objs.length < 1000000000) (hcl : f.calls < 1000000000000) (s : ByteArray) (hs : s.size ≤ maxLen) (v : Value) (b : List UInt8) (hv : RdB w v b) (hbl : b.length ≤ maxLen) (ov : b ≠ [] → ∀ k, v.ownBlock = some k → ¬ G k) :
    Calls Tryz.prog 28 #[.pointer (some ⟨p, 0, none⟩), .string s, v] w fun e w' => e = .returned (.int .i64 ((f.put s.data.toList b).1 : Int)) ∧ FarTo G w w' p (f.put s.data.toList b).2 := by
  obtain ⟨va, vc, rfl, _, _⟩ := RdB.form hv
  obtain ⟨w1, hw1⟩ : ∃ w1, w1 = ((w.alloc (.cells #[.pointer (some ⟨p, 0, none⟩)] 24)).alloc (.cells #[.string s] 9)).alloc (.cells #[.slice va b.length vc] 31) := ⟨_, rfl⟩
  have hbel : Below w.heap.size w w1 := by subst hw1; exact (((Below.refl _ _).alloc (Nat.le_refl _) _).alloc (by simp) _).alloc (by simp; omega) _
  have h1 : FarAt G w1 p f := h.below hbel
  have hwd : w1.heap.size = w.heap.size + 3 := by subst hw1; simp
  have hbd : w1.cell? ⟨w.heap.size, 0, none⟩ = some (.pointer (some ⟨p, 0, none⟩)) := by
    subst hw1
    rw [World.cell?_of_block (a := ⟨w.heap.size, 0, none⟩) ((Below.heap_alloc _ _ _ (by simp; omega)).trans (Below.heap_alloc _ _ _ (by simp))), blk_cell (heap_alloc_new w _)]
    rfl
  have hbn : w1.cell? ⟨w.heap.size + 1, 0, none⟩ = some (.string s) := by
    subst hw1
    rw [World.cell?_of_block (a := ⟨w.heap.size + 1, 0, none⟩) (Below.heap_alloc _ _ _ (by simp)), blk_cell (heap_new2 w _ _)]
    rfl
  have hbb : w1.cell? ⟨w.heap.size + 2, 0, none⟩ = some (.slice va b.length vc) := by
    subst hw1
    rw [blk_cell (heap_new3 w _ _ _)]
    rfl
  have hplt := h.lt p h.gp
  have hc := far_call h1 hcl 45 #[] #[.pointer (some ⟨w.heap.size + 1, 0, none⟩), .pointer (some ⟨w.heap.size + 2, 0, none⟩), .pointer (some ⟨w.heap.size, 0, none⟩)] enters_farPut1 (f.putE s.data.toList b) (·.putD s.data.toList b) fun w2 hd2 hk2 hs2 =>
    farPut1_at hd2 hol s.data.toList b (by rw [size_list]; exact hs) _ (rdB_kept (hv.below hbel (Nat.le_refl _)) hk2 fun hne k e hk => ⟨hk, fun ep => ov hne k e (ep ▸ h.gp)⟩) hbl (w.heap.size + 1) (w.heap.size + 2) w.heap.size
      ((hk2.cell (p := ⟨w.heap.size + 1, 0, none⟩) ⟨by simp; omega, by simp; omega⟩).trans hbn) ((hk2.cell (p := ⟨w.heap.size + 2, 0, none⟩) ⟨by simp; omega, by simp; omega⟩).trans hbb) ((hk2.cell (p := ⟨w.heap.size, 0, none⟩) ⟨by simp; omega, by simp; omega⟩).trans hbd)
      (out_G h (by omega)) (out_G h (by omega)) (out_G h (by omega)) ov
  have HC := Lib.hid hc
  have Hw1 := Lib.hid hw1
  have HT := Lib.hid (Touch.of_below (F := G) hbel)
  clear hc hbel h1 hwd hbn hbb hv ov hw1
  go_enter Tryz.func28, Tryz.ntmps28
  go_wp2_with (go_at_call 44; rw [← Hw1.out]; (with_reducible refine HC.out.mono ?_); rintro e w2 ⟨rfl, hto⟩)
  go_ret
  exact ⟨rfl, FarTo.trans HT.out (Grows.refl _ _ _) hto⟩

theorem enters_farDrop1 : Enters Tryz.prog 57 := enters_of Tryz.func57 (by kernel_rfl) rfl

set_option maxRecDepth 100000 in
set_option maxHeartbeats 4000000 in
set_option linter.unusedSimpArgs false in
theorem farDrop1_at {G : Nat → Prop} {w : World} {p : Nat} {f : FR} (h : FarAt G w p f) (n : List UInt8) (hnl : n.length ≤ maxLen) (bn bd : Nat)
    (hbn : w.cell? ⟨bn, 0, none⟩ = some (.string (strB n))) (hbd : w.cell? ⟨bd, 0, none⟩ = some (.pointer (some ⟨p, 0, none⟩))) (obn : ¬ G bn) (obd : ¬ G bd) :
    Calls Tryz.prog 57 #[.pointer (some ⟨bd, 0, none⟩), .pointer (some ⟨bn, 0, none⟩)] w fun e w' => e = .returned (.int .i64 (f.dropE n : Int)) ∧ FarTo G w w' p (f.dropD n) := by
  have H := Lib.hid h
  obtain ⟨⟨mv, lv, h1, h2, h3, h4, h5⟩, gp, glt⟩ := h
  have HBN0 := Lib.hid hbn
  have HBD0 := Lib.hid hbd
  have HP := Lib.hid h1
  have HOM0 := Lib.hid h2
  have HMV := Lib.hid h4
  have HNL := Lib.hid (show (strB n).size ≤ maxLen by rw [strB_size]; exact hnl)
  clear h1 h2 h3 h4 h5
  cases hf : nfind f.objs n with
  | none =>
    have e1 : f.dropE n = 2 := by unfold FR.dropE; rw [hf]; rfl
    rw [e1, dropD_none hf]
    have HF := Lib.hid (show nfind f.objs (strB n).data.toList = none from hf)
    clear e1 hf
    go_enter Tryz.func57, Tryz.ntmps57
    go_wp2
    obtain ⟨w2, hw2⟩ : ∃ w2, w2 = w.drew := ⟨_, rfl⟩
    have HBZ := Lib.hid (show Below w.heap.size w w2 by rw [hw2]; exact (Below.refl _ _).drew)
    have Hw2 := Lib.hid hw2
    clear hw2
    have HBD := Lib.hid ((HBZ.out.cell (p := ⟨bd, 0, none⟩) (World.block_lt_of_cell? _ _ HBD0.out)).trans HBD0.out)
    have HBN := Lib.hid ((HBZ.out.cell (p := ⟨bn, 0, none⟩) (World.block_lt_of_cell? _ _ HBN0.out)).trans HBN0.out)
    have HC0 := Lib.hid (show w2.cell? ⟨p, 0, none⟩ = some mv from blk_cell ((HBZ.out.block p (blk_lt HP.out)).trans HP.out))
    have HOM := Lib.hid (HOM0.out.kept (Kept.of HBZ.out (R := fun k => k < w.heap.size) fun _ h => h) HOM0.out.lt)
    have HLT := Lib.hid (show bd < w2.heap.size ∧ bn < w2.heap.size ∧ p < w2.heap.size from ⟨World.block_lt_of_cell? _ _ HBD.out, World.block_lt_of_cell? _ _ HBN.out, World.block_lt_of_cell? _ _ HC0.out⟩)
    refine wp_region_two (fun wz => Below w2.heap.size w2 wz) (fun wz => Below w2.heap.size w2 wz) [(0, 0), (0, 1), (0, 2), (0, 3), (0, 4), (0, 5), (0, 6), (0, 7), (0, 8), (2, 9), (2, 10), (0, 11)] [] (by kernel_rfl) (by kernel_rfl) (by kernel_rfl) (by kernel_rfl) (by kernel_rfl) (by rw [← Hw2.out]; exact Below.refl _ _) (by rw [← Hw2.out]; exact Below.refl _ _) ?_
    simp only [planT, List.drop_succ_cons, List.drop_zero]
    rw [← Hw2.out]
    refine PlanT.take0 (v := ?vN0) (by kernel_rfl) ?yN0 ?rN0
    case yN0 => (intro wz hz; have k1 := (hz.cell (p := ⟨bd, 0, none⟩) HLT.out.1).trans HBD.out; have k2 := (hz.cell (p := ⟨bn, 0, none⟩) HLT.out.2.1).trans HBN.out; have k3 := (hz.cell (p := ⟨p, 0, none⟩) HLT.out.2.2).trans HC0.out; have hl := om_look_none (HOM.out.kept (Kept.of hz (R := fun k => k < w2.heap.size) fun _ h => h) HOM.out.lt) (strB n) HNL.out HF.out; clear hz; go_simp; try with_reducible rfl)
    (try simp only [Act.put, List.setIfInBounds_toArray, List.set_cons_zero, List.set_cons_succ])
    refine PlanT.take0 (v := ?vN1) (by kernel_rfl) ?yN1 ?rN1
    case yN1 => (intro wz hz; have k1 := (hz.cell (p := ⟨bd, 0, none⟩) HLT.out.1).trans HBD.out; have k2 := (hz.cell (p := ⟨bn, 0, none⟩) HLT.out.2.1).trans HBN.out; have k3 := (hz.cell (p := ⟨p, 0, none⟩) HLT.out.2.2).trans HC0.out; have hl := om_look_none (HOM.out.kept (Kept.of hz (R := fun k => k < w2.heap.size) fun _ h => h) HOM.out.lt) (strB n) HNL.out HF.out; clear hz; go_simp; try with_reducible rfl)
    (try simp only [Act.put, List.setIfInBounds_toArray, List.set_cons_zero, List.set_cons_succ])
    refine PlanT.take0 (v := ?vN2) (by kernel_rfl) ?yN2 ?rN2
    case yN2 => (intro wz hz; have k1 := (hz.cell (p := ⟨bd, 0, none⟩) HLT.out.1).trans HBD.out; have k2 := (hz.cell (p := ⟨bn, 0, none⟩) HLT.out.2.1).trans HBN.out; have k3 := (hz.cell (p := ⟨p, 0, none⟩) HLT.out.2.2).trans HC0.out; have hl := om_look_none (HOM.out.kept (Kept.of hz (R := fun k => k < w2.heap.size) fun _ h => h) HOM.out.lt) (strB n) HNL.out HF.out; clear hz; go_simp; try with_reducible rfl)
    (try simp only [Act.put, List.setIfInBounds_toArray, List.set_cons_zero, List.set_cons_succ])
    refine PlanT.take0 (v := ?vN3) (by kernel_rfl) ?yN3 ?rN3
    case yN3 => (intro wz hz; have k1 := (hz.cell (p := ⟨bd, 0, none⟩) HLT.out.1).trans HBD.out; have k2 := (hz.cell (p := ⟨bn, 0, none⟩) HLT.out.2.1).trans HBN.out; have k3 := (hz.cell (p := ⟨p, 0, none⟩) HLT.out.2.2).trans HC0.out; have hl := om_look_none (HOM.out.kept (Kept.of hz (R := fun k => k < w2.heap.size) fun _ h => h) HOM.out.lt) (strB n) HNL.out HF.out; clear hz; go_simp; try with_reducible rfl)
    (try simp only [Act.put, List.setIfInBounds_toArray, List.set_cons_zero, List.set_cons_succ])
    refine PlanT.take0 (v := ?vN4) (by kernel_rfl) ?yN4 ?rN4
    case yN4 => (intro wz hz; have k1 := (hz.cell (p := ⟨bd, 0, none⟩) HLT.out.1).trans HBD.out; have k2 := (hz.cell (p := ⟨bn, 0, none⟩) HLT.out.2.1).trans HBN.out; have k3 := (hz.cell (p := ⟨p, 0, none⟩) HLT.out.2.2).trans HC0.out; have hl := om_look_none (HOM.out.kept (Kept.of hz (R := fun k => k < w2.heap.size) fun _ h => h) HOM.out.lt) (strB n) HNL.out HF.out; clear hz; go_simp; try with_reducible rfl)
    (try simp only [Act.put, List.setIfInBounds_toArray, List.set_cons_zero, List.set_cons_succ])
    refine PlanT.take0 (v := ?vN5) (by kernel_rfl) ?yN5 ?rN5
    case yN5 => (intro wz hz; have k1 := (hz.cell (p := ⟨bd, 0, none⟩) HLT.out.1).trans HBD.out; have k2 := (hz.cell (p := ⟨bn, 0, none⟩) HLT.out.2.1).trans HBN.out; have k3 := (hz.cell (p := ⟨p, 0, none⟩) HLT.out.2.2).trans HC0.out; have hl := om_look_none (HOM.out.kept (Kept.of hz (R := fun k => k < w2.heap.size) fun _ h => h) HOM.out.lt) (strB n) HNL.out HF.out; clear hz; go_simp; try with_reducible rfl)
    (try simp only [Act.put, List.setIfInBounds_toArray, List.set_cons_zero, List.set_cons_succ])
    refine PlanT.take0 (v := ?vN6) (by kernel_rfl) ?yN6 ?rN6
    case yN6 => (intro wz hz; have k1 := (hz.cell (p := ⟨bd, 0, none⟩) HLT.out.1).trans HBD.out; have k2 := (hz.cell (p := ⟨bn, 0, none⟩) HLT.out.2.1).trans HBN.out; have k3 := (hz.cell (p := ⟨p, 0, none⟩) HLT.out.2.2).trans HC0.out; have hl := om_look_none (HOM.out.kept (Kept.of hz (R := fun k => k < w2.heap.size) fun _ h => h) HOM.out.lt) (strB n) HNL.out HF.out; clear hz; go_simp; try with_reducible rfl)
    (try simp only [Act.put, List.setIfInBounds_toArray, List.set_cons_zero, List.set_cons_succ])
    refine PlanT.take0 (v := ?vN7) (by kernel_rfl) ?yN7 ?rN7
    case yN7 => (intro wz hz; have k1 := (hz.cell (p := ⟨bd, 0, none⟩) HLT.out.1).trans HBD.out; have k2 := (hz.cell (p := ⟨bn, 0, none⟩) HLT.out.2.1).trans HBN.out; have k3 := (hz.cell (p := ⟨p, 0, none⟩) HLT.out.2.2).trans HC0.out; have hl := om_look_none (HOM.out.kept (Kept.of hz (R := fun k => k < w2.heap.size) fun _ h => h) HOM.out.lt) (strB n) HNL.out HF.out; clear hz; go_simp; try with_reducible rfl)
    (try simp only [Act.put, List.setIfInBounds_toArray, List.set_cons_zero, List.set_cons_succ])
    refine PlanT.take0 (v := ?vN8) (by kernel_rfl) ?yN8 ?rN8
    case yN8 => (intro wz hz; have k1 := (hz.cell (p := ⟨bd, 0, none⟩) HLT.out.1).trans HBD.out; have k2 := (hz.cell (p := ⟨bn, 0, none⟩) HLT.out.2.1).trans HBN.out; have k3 := (hz.cell (p := ⟨p, 0, none⟩) HLT.out.2.2).trans HC0.out; have hl := om_look_none (HOM.out.kept (Kept.of hz (R := fun k => k < w2.heap.size) fun _ h => h) HOM.out.lt) (strB n) HNL.out HF.out; clear hz; go_simp; try with_reducible rfl)
    (try simp only [Act.put, List.setIfInBounds_toArray, List.set_cons_zero, List.set_cons_succ])
    refine PlanT.exec2 (fun K hK => ⟨by kernel_rfl, ?_⟩)
    go_simp
    have hb3 : Below w2.heap.size w2 (w2.alloc (.cells #[.string ⟨#[]⟩] 67)) := (Below.refl _ _).alloc (Nat.le_refl _) _
    refine hK.out _ _ hb3 hb3 ?_
    clear hK K
    (try simp only [Act.put, List.setIfInBounds_toArray, List.set_cons_zero, List.set_cons_succ])
    refine PlanT.exec2 (fun K hK => ⟨by kernel_rfl, ?_⟩)
    go_simp
    have hb4 : Below w2.heap.size w2 (w2.alloc (.cells #[.string ⟨#[]⟩] 67)) := (Below.refl _ _).alloc (Nat.le_refl _) _
    refine hK.out _ _ hb4 hb4 ?_
    clear hK K
    (try simp only [Act.put, List.setIfInBounds_toArray, List.set_cons_zero, List.set_cons_succ])
    refine PlanT.take0 (v := ?vN11) (by kernel_rfl) ?yN11 ?rN11
    case yN11 => (intro wz hz; have k1 := (hz.cell (p := ⟨bd, 0, none⟩) HLT.out.1).trans HBD.out; have k2 := (hz.cell (p := ⟨bn, 0, none⟩) HLT.out.2.1).trans HBN.out; have k3 := (hz.cell (p := ⟨p, 0, none⟩) HLT.out.2.2).trans HC0.out; have hl := om_look_none (HOM.out.kept (Kept.of hz (R := fun k => k < w2.heap.size) fun _ h => h) HOM.out.lt) (strB n) HNL.out HF.out; clear hz; go_simp; try with_reducible rfl)
    (try simp only [Act.put, List.setIfInBounds_toArray, List.set_cons_zero, List.set_cons_succ])
    refine PlanT.done (NoPanic.normal ?_)
    go_wp2
    go_ret
    exact ⟨rfl, FarTo.of_below H.out (HBZ.out.trans (hb4.mono HBZ.out.size))⟩
  | some ob =>
    have e1 : f.dropE n = 0 := by unfold FR.dropE; rw [hf]; rfl
    rw [e1]
    have HF := Lib.hid (show nfind f.objs (strB n).data.toList = some ob from hf)
    clear e1 hf
    go_enter Tryz.func57, Tryz.ntmps57
    go_wp2
    obtain ⟨w2, hw2⟩ : ∃ w2, w2 = w.drew := ⟨_, rfl⟩
    have HBZ := Lib.hid (show Below w.heap.size w w2 by rw [hw2]; exact (Below.refl _ _).drew)
    have Hw2 := Lib.hid hw2
    clear hw2
    have HBD := Lib.hid ((HBZ.out.cell (p := ⟨bd, 0, none⟩) (World.block_lt_of_cell? _ _ HBD0.out)).trans HBD0.out)
    have HBN := Lib.hid ((HBZ.out.cell (p := ⟨bn, 0, none⟩) (World.block_lt_of_cell? _ _ HBN0.out)).trans HBN0.out)
    have HC0 := Lib.hid (show w2.cell? ⟨p, 0, none⟩ = some mv from blk_cell ((HBZ.out.block p (blk_lt HP.out)).trans HP.out))
    have HOM := Lib.hid (HOM0.out.kept (Kept.of HBZ.out (R := fun k => k < w.heap.size) fun _ h => h) HOM0.out.lt)
    have HLT := Lib.hid (show bd < w2.heap.size ∧ bn < w2.heap.size ∧ p < w2.heap.size from ⟨World.block_lt_of_cell? _ _ HBD.out, World.block_lt_of_cell? _ _ HBN.out, World.block_lt_of_cell? _ _ HC0.out⟩)
    refine wp_region_two (fun wz => Below w2.heap.size w2 wz) (fun wz => Below w2.heap.size w2 wz) [(0, 0), (0, 1), (0, 2), (0, 3), (0, 4), (0, 5), (0, 6), (0, 7), (0, 8), (2, 9), (2, 10), (0, 11)] [] (by kernel_rfl) (by kernel_rfl) (by kernel_rfl) (by kernel_rfl) (by kernel_rfl) (by rw [← Hw2.out]; exact Below.refl _ _) (by rw [← Hw2.out]; exact Below.refl _ _) ?_
    simp only [planT, List.drop_succ_cons, List.drop_zero]
    rw [← Hw2.out]
    refine PlanT.take0 (v := ?vS0) (by kernel_rfl) ?yS0 ?rS0
    case yS0 => (intro wz hz; have k1 := (hz.cell (p := ⟨bd, 0, none⟩) HLT.out.1).trans HBD.out; have k2 := (hz.cell (p := ⟨bn, 0, none⟩) HLT.out.2.1).trans HBN.out; have k3 := (hz.cell (p := ⟨p, 0, none⟩) HLT.out.2.2).trans HC0.out; have hl := om_look_some (HOM.out.kept (Kept.of hz (R := fun k => k < w2.heap.size) fun _ h => h) HOM.out.lt) (strB n) HNL.out HF.out; clear hz; go_simp; try with_reducible rfl)
    (try simp only [Act.put, List.setIfInBounds_toArray, List.set_cons_zero, List.set_cons_succ])
    refine PlanT.take0 (v := ?vS1) (by kernel_rfl) ?yS1 ?rS1
    case yS1 => (intro wz hz; have k1 := (hz.cell (p := ⟨bd, 0, none⟩) HLT.out.1).trans HBD.out; have k2 := (hz.cell (p := ⟨bn, 0, none⟩) HLT.out.2.1).trans HBN.out; have k3 := (hz.cell (p := ⟨p, 0, none⟩) HLT.out.2.2).trans HC0.out; have hl := om_look_some (HOM.out.kept (Kept.of hz (R := fun k => k < w2.heap.size) fun _ h => h) HOM.out.lt) (strB n) HNL.out HF.out; clear hz; go_simp; try with_reducible rfl)
    (try simp only [Act.put, List.setIfInBounds_toArray, List.set_cons_zero, List.set_cons_succ])
    refine PlanT.take0 (v := ?vS2) (by kernel_rfl) ?yS2 ?rS2
    case yS2 => (intro wz hz; have k1 := (hz.cell (p := ⟨bd, 0, none⟩) HLT.out.1).trans HBD.out; have k2 := (hz.cell (p := ⟨bn, 0, none⟩) HLT.out.2.1).trans HBN.out; have k3 := (hz.cell (p := ⟨p, 0, none⟩) HLT.out.2.2).trans HC0.out; have hl := om_look_some (HOM.out.kept (Kept.of hz (R := fun k => k < w2.heap.size) fun _ h => h) HOM.out.lt) (strB n) HNL.out HF.out; clear hz; go_simp; try with_reducible rfl)
    (try simp only [Act.put, List.setIfInBounds_toArray, List.set_cons_zero, List.set_cons_succ])
    refine PlanT.take0 (v := ?vS3) (by kernel_rfl) ?yS3 ?rS3
    case yS3 => (intro wz hz; have k1 := (hz.cell (p := ⟨bd, 0, none⟩) HLT.out.1).trans HBD.out; have k2 := (hz.cell (p := ⟨bn, 0, none⟩) HLT.out.2.1).trans HBN.out; have k3 := (hz.cell (p := ⟨p, 0, none⟩) HLT.out.2.2).trans HC0.out; have hl := om_look_some (HOM.out.kept (Kept.of hz (R := fun k => k < w2.heap.size) fun _ h => h) HOM.out.lt) (strB n) HNL.out HF.out; clear hz; go_simp; try with_reducible rfl)
    (try simp only [Act.put, List.setIfInBounds_toArray, List.set_cons_zero, List.set_cons_succ])
    refine PlanT.take0 (v := ?vS4) (by kernel_rfl) ?yS4 ?rS4
    case yS4 => (intro wz hz; have k1 := (hz.cell (p := ⟨bd, 0, none⟩) HLT.out.1).trans HBD.out; have k2 := (hz.cell (p := ⟨bn, 0, none⟩) HLT.out.2.1).trans HBN.out; have k3 := (hz.cell (p := ⟨p, 0, none⟩) HLT.out.2.2).trans HC0.out; have hl := om_look_some (HOM.out.kept (Kept.of hz (R := fun k => k < w2.heap.size) fun _ h => h) HOM.out.lt) (strB n) HNL.out HF.out; clear hz; go_simp; try with_reducible rfl)
    (try simp only [Act.put, List.setIfInBounds_toArray, List.set_cons_zero, List.set_cons_succ])
    refine PlanT.take0 (v := ?vS5) (by kernel_rfl) ?yS5 ?rS5
    case yS5 => (intro wz hz; have k1 := (hz.cell (p := ⟨bd, 0, none⟩) HLT.out.1).trans HBD.out; have k2 := (hz.cell (p := ⟨bn, 0, none⟩) HLT.out.2.1).trans HBN.out; have k3 := (hz.cell (p := ⟨p, 0, none⟩) HLT.out.2.2).trans HC0.out; have hl := om_look_some (HOM.out.kept (Kept.of hz (R := fun k => k < w2.heap.size) fun _ h => h) HOM.out.lt) (strB n) HNL.out HF.out; clear hz; go_simp; try with_reducible rfl)
    (try simp only [Act.put, List.setIfInBounds_toArray, List.set_cons_zero, List.set_cons_succ])
    refine PlanT.take0 (v := ?vS6) (by kernel_rfl) ?yS6 ?rS6
    case yS6 => (intro wz hz; have k1 := (hz.cell (p := ⟨bd, 0, none⟩) HLT.out.1).trans HBD.out; have k2 := (hz.cell (p := ⟨bn, 0, none⟩) HLT.out.2.1).trans HBN.out; have k3 := (hz.cell (p := ⟨p, 0, none⟩) HLT.out.2.2).trans HC0.out; have hl := om_look_some (HOM.out.kept (Kept.of hz (R := fun k => k < w2.heap.size) fun _ h => h) HOM.out.lt) (strB n) HNL.out HF.out; clear hz; go_simp; try with_reducible rfl)
    (try simp only [Act.put, List.setIfInBounds_toArray, List.set_cons_zero, List.set_cons_succ])
    refine PlanT.take0 (v := ?vS7) (by kernel_rfl) ?yS7 ?rS7
    case yS7 => (intro wz hz; have k1 := (hz.cell (p := ⟨bd, 0, none⟩) HLT.out.1).trans HBD.out; have k2 := (hz.cell (p := ⟨bn, 0, none⟩) HLT.out.2.1).trans HBN.out; have k3 := (hz.cell (p := ⟨p, 0, none⟩) HLT.out.2.2).trans HC0.out; have hl := om_look_some (HOM.out.kept (Kept.of hz (R := fun k => k < w2.heap.size) fun _ h => h) HOM.out.lt) (strB n) HNL.out HF.out; clear hz; go_simp; try with_reducible rfl)
    (try simp only [Act.put, List.setIfInBounds_toArray, List.set_cons_zero, List.set_cons_succ])
    refine PlanT.take0 (v := ?vS8) (by kernel_rfl) ?yS8 ?rS8
    case yS8 => (intro wz hz; have k1 := (hz.cell (p := ⟨bd, 0, none⟩) HLT.out.1).trans HBD.out; have k2 := (hz.cell (p := ⟨bn, 0, none⟩) HLT.out.2.1).trans HBN.out; have k3 := (hz.cell (p := ⟨p, 0, none⟩) HLT.out.2.2).trans HC0.out; have hl := om_look_some (HOM.out.kept (Kept.of hz (R := fun k => k < w2.heap.size) fun _ h => h) HOM.out.lt) (strB n) HNL.out HF.out; clear hz; go_simp; try with_reducible rfl)
    (try simp only [Act.put, List.setIfInBounds_toArray, List.set_cons_zero, List.set_cons_succ])
    refine PlanT.exec2 (fun K hK => ⟨by kernel_rfl, ?_⟩)
    go_simp
    have hb3 : Below w2.heap.size w2 (w2.alloc (.cells #[.string ⟨#[]⟩] 67)) := (Below.refl _ _).alloc (Nat.le_refl _) _
    refine hK.out _ _ hb3 hb3 ?_
    clear hK K
    (try simp only [Act.put, List.setIfInBounds_toArray, List.set_cons_zero, List.set_cons_succ])
    refine PlanT.exec2 (fun K hK => ⟨by kernel_rfl, ?_⟩)
    go_simp
    have hb4 : Below w2.heap.size w2 (w2.alloc (.cells #[.string (strB ob)] 67)) := (Below.refl _ _).alloc (Nat.le_refl _) _
    refine hK.out _ _ hb4 hb4 ?_
    clear hK K
    (try simp only [Act.put, List.setIfInBounds_toArray, List.set_cons_zero, List.set_cons_succ])
    refine PlanT.take0 (v := ?vS11) (by kernel_rfl) ?yS11 ?rS11
    case yS11 => (intro wz hz; have k1 := (hz.cell (p := ⟨bd, 0, none⟩) HLT.out.1).trans HBD.out; have k2 := (hz.cell (p := ⟨bn, 0, none⟩) HLT.out.2.1).trans HBN.out; have k3 := (hz.cell (p := ⟨p, 0, none⟩) HLT.out.2.2).trans HC0.out; have hl := om_look_some (HOM.out.kept (Kept.of hz (R := fun k => k < w2.heap.size) fun _ h => h) HOM.out.lt) (strB n) HNL.out HF.out; clear hz; go_simp; try with_reducible rfl)
    (try simp only [Act.put, List.setIfInBounds_toArray, List.set_cons_zero, List.set_cons_succ])
    refine PlanT.done (NoPanic.normal ?_)
    obtain ⟨w3, hw3⟩ : ∃ w3, w3 = w2.alloc (.cells #[.string (strB ob)] 67) := ⟨_, rfl⟩
    rw [← hw3] at hb4 ⊢
    have HB3 := Lib.hid (HBZ.out.trans (hb4.mono HBZ.out.size))
    clear hw3 hb3 hb4
    obtain ⟨mvb, hmvb⟩ := HOM0.out.form
    subst hmvb
    go_wp2
    obtain ⟨w6, hw6⟩ : ∃ w6, w6 = w3.drew := ⟨_, rfl⟩
    have HB6 := Lib.hid (show Below w.heap.size w w6 by rw [hw6]; exact HB3.out.drew)
    have Hw6 := Lib.hid hw6
    clear hw6
    have HBD6 := Lib.hid ((HB6.out.cell (p := ⟨bd, 0, none⟩) (World.block_lt_of_cell? _ _ HBD0.out)).trans HBD0.out)
    have HBN6 := Lib.hid ((HB6.out.cell (p := ⟨bn, 0, none⟩) (World.block_lt_of_cell? _ _ HBN0.out)).trans HBN0.out)
    have HP6 := Lib.hid ((HB6.out.block p (blk_lt HP.out)).trans HP.out)
    have HC6 := Lib.hid (show w6.cell? ⟨p, 0, none⟩ = some (.map mvb) from blk_cell HP6.out)
    have HOM6 := Lib.hid (HOM0.out.kept (Kept.of HB6.out (R := fun k => k < w.heap.size) fun _ h => h) HOM0.out.lt)
    have HN6 := Lib.hid (show (bd < w6.heap.size ∧ mapBlock (.map mvb) ≠ some bd) ∧ (bn < w6.heap.size ∧ mapBlock (.map mvb) ≠ some bn) ∧ (p < w6.heap.size ∧ mapBlock (.map mvb) ≠ some p) from ⟨⟨World.block_lt_of_cell? _ _ HBD6.out, fun e => obd (HMV.out bd e)⟩, ⟨World.block_lt_of_cell? _ _ HBN6.out, fun e => obn (HMV.out bn e)⟩, ⟨blk_lt HP6.out, HOM6.out.ne HP6.out⟩⟩)
    refine wp_region_two (fun wz => Kept (fun k => k < w6.heap.size ∧ mapBlock (.map mvb) ≠ some k) w6 wz) (fun wz => Kept (fun k => k < w6.heap.size ∧ mapBlock (.map mvb) ≠ some k) w6 wz) [(0, 0), (0, 1), (0, 2), (0, 3), (0, 4), (2, 5)] [] (by kernel_rfl) (by kernel_rfl) (by kernel_rfl) (by kernel_rfl) (by kernel_rfl) (by rw [← Hw6.out]; exact Kept.refl _ _) (by rw [← Hw6.out]; exact Kept.refl _ _) ?_
    simp only [planT, List.drop_succ_cons, List.drop_zero]
    rw [← Hw6.out]
    refine PlanT.take0 (v := ?vD0) (by kernel_rfl) ?yD0 ?rD0
    case yD0 => (intro wz hz; have k1 := (hz.cell (p := ⟨bd, 0, none⟩) HN6.out.1).trans HBD6.out; have k2 := (hz.cell (p := ⟨bn, 0, none⟩) HN6.out.2.1).trans HBN6.out; have k3 := (hz.cell (p := ⟨p, 0, none⟩) HN6.out.2.2).trans HC6.out; clear hz; go_simp; try with_reducible rfl)
    (try simp only [Act.put, List.setIfInBounds_toArray, List.set_cons_zero, List.set_cons_succ])
    refine PlanT.take0 (v := ?vD1) (by kernel_rfl) ?yD1 ?rD1
    case yD1 => (intro wz hz; have k1 := (hz.cell (p := ⟨bd, 0, none⟩) HN6.out.1).trans HBD6.out; have k2 := (hz.cell (p := ⟨bn, 0, none⟩) HN6.out.2.1).trans HBN6.out; have k3 := (hz.cell (p := ⟨p, 0, none⟩) HN6.out.2.2).trans HC6.out; clear hz; go_simp; try with_reducible rfl)
    (try simp only [Act.put, List.setIfInBounds_toArray, List.set_cons_zero, List.set_cons_succ])
    refine PlanT.take0 (v := ?vD2) (by kernel_rfl) ?yD2 ?rD2
    case yD2 => (intro wz hz; have k1 := (hz.cell (p := ⟨bd, 0, none⟩) HN6.out.1).trans HBD6.out; have k2 := (hz.cell (p := ⟨bn, 0, none⟩) HN6.out.2.1).trans HBN6.out; have k3 := (hz.cell (p := ⟨p, 0, none⟩) HN6.out.2.2).trans HC6.out; clear hz; go_simp; try with_reducible rfl)
    (try simp only [Act.put, List.setIfInBounds_toArray, List.set_cons_zero, List.set_cons_succ])
    refine PlanT.take0 (v := ?vD3) (by kernel_rfl) ?yD3 ?rD3
    case yD3 => (intro wz hz; have k1 := (hz.cell (p := ⟨bd, 0, none⟩) HN6.out.1).trans HBD6.out; have k2 := (hz.cell (p := ⟨bn, 0, none⟩) HN6.out.2.1).trans HBN6.out; have k3 := (hz.cell (p := ⟨p, 0, none⟩) HN6.out.2.2).trans HC6.out; clear hz; go_simp; try with_reducible rfl)
    (try simp only [Act.put, List.setIfInBounds_toArray, List.set_cons_zero, List.set_cons_succ])
    refine PlanT.take0 (v := ?vD4) (by kernel_rfl) ?yD4 ?rD4
    case yD4 => (intro wz hz; have k1 := (hz.cell (p := ⟨bd, 0, none⟩) HN6.out.1).trans HBD6.out; have k2 := (hz.cell (p := ⟨bn, 0, none⟩) HN6.out.2.1).trans HBN6.out; have k3 := (hz.cell (p := ⟨p, 0, none⟩) HN6.out.2.2).trans HC6.out; clear hz; go_simp; try with_reducible rfl)
    (try simp only [Act.put, List.setIfInBounds_toArray, List.set_cons_zero, List.set_cons_succ])
    refine PlanT.exec2 (fun K hK => ⟨by kernel_rfl, ?_⟩)
    refine wp_om_del (.tmp 19) (.tmp 20) 43 9 rfl (.map mvb) f.objs n rfl rfl rfl rfl HNL.out HOM6.out ?_
    intro w8 ho8 hg8 hs8
    have hk8 : Kept (fun k => k < w6.heap.size ∧ mapBlock (.map mvb) ≠ some k) w6 w8 := (Kept.refl _ _).grown hg8 (fun k hk => hk.1) (fun k hk hk2 => hk2.2 hk)
    refine hK.out _ _ hk8 hk8 ?_
    clear hK K
    (try simp only [Act.put, List.setIfInBounds_toArray, List.set_cons_zero, List.set_cons_succ])
    refine PlanT.done (NoPanic.normal ?_)
    go_wp2
    go_ret
    have hp8 := (hk8.block p HN6.out.2.2).trans HP6.out
    refine ⟨rfl, G, H.out.set_map HP.out hp8 ((Kept.of HB6.out fun k hk => hk.1).trans (Kept.mono hk8 fun k hk => ⟨Nat.lt_of_lt_of_le hk.1 HB6.out.size, hk.2.2⟩)) ho8 (fun k hk => hk) (fun k hk => Nat.lt_of_lt_of_le (Nat.lt_of_lt_of_le (glt k hk) HB6.out.size) hk8.size) HMV.out, ?_, Grows.refl _ _ _⟩
    exact (Kept.of HB6.out fun k hk => hk.1).trans (Kept.mono hk8 fun k hk => ⟨Nat.lt_of_lt_of_le hk.1 HB6.out.size, fun e => hk.2 (HMV.out k e)⟩)

set_option maxRecDepth 100000 in
set_option maxHeartbeats 1000000 in
theorem farDrop_at {G : Nat → Prop} {w : World} {p : Nat} {f : FR} (h : FarAt G w p f) (hcl : f.calls < 1000000000000) (s : ByteArray) (hs : s.size ≤ maxLen) :
    Calls Tryz.prog 42 #[.pointer (some ⟨p, 0, none⟩), .string s] w fun e w' => e = .returned (.int .i64 ((f.drop s.data.toList).1 : Int)) ∧ FarTo G w w' p (f.drop s.data.toList).2 := by
  obtain ⟨w1, hw1⟩ : ∃ w1, w1 = (w.alloc (.cells #[.pointer (some ⟨p, 0, none⟩)] 24)).alloc (.cells #[.string s] 9) := ⟨_, rfl⟩
  have hbel : Below w.heap.size w w1 := by subst hw1; exact ((Below.refl _ _).alloc (Nat.le_refl _) _).alloc (by simp) _
  have h1 : FarAt G w1 p f := h.below hbel
  have hwd : w1.heap.size = w.heap.size + 2 := by subst hw1; simp
  have hbd : w1.cell? ⟨w.heap.size, 0, none⟩ = some (.pointer (some ⟨p, 0, none⟩)) := by
    subst hw1
    rw [World.cell?_of_block (a := ⟨w.heap.size, 0, none⟩) (Below.heap_alloc _ _ _ (by simp)), blk_cell (heap_alloc_new w _)]
    rfl
  have hbn : w1.cell? ⟨w.heap.size + 1, 0, none⟩ = some (.string s) := by
    subst hw1
    rw [blk_cell (heap_new2 w _ _)]
    rfl
  have hplt := h.lt p h.gp
  have hc := far_call h1 hcl 57 #[] #[.pointer (some ⟨w.heap.size, 0, none⟩), .pointer (some ⟨w.heap.size + 1, 0, none⟩)] enters_farDrop1 (f.dropE s.data.toList) (·.dropD s.data.toList) fun w2 hd2 hk2 hs2 =>
    farDrop1_at hd2 s.data.toList (by rw [size_list]; exact hs) (w.heap.size + 1) w.heap.size
      ((hk2.cell (p := ⟨w.heap.size + 1, 0, none⟩) ⟨by simp; omega, by simp; omega⟩).trans hbn) ((hk2.cell (p := ⟨w.heap.size, 0, none⟩) ⟨by simp; omega, by simp; omega⟩).trans hbd) (out_G h (by omega)) (out_G h (by omega))
  have HC := Lib.hid hc
  have Hw1 := Lib.hid hw1
  have HT := Lib.hid (Touch.of_below (F := G) hbel)
  clear hc hbel h1 hwd hbn hw1
  go_enter Tryz.func42, Tryz.ntmps42
  go_wp2_with (go_at_call 44; rw [← Hw1.out]; (with_reducible refine HC.out.mono ?_); rintro e w2 ⟨rfl, hto⟩)
  go_ret
  exact ⟨rfl, FarTo.trans HT.out (Grows.refl _ _ _) hto⟩
end Go.Proofs.YtljjgpjaleekdaaGreatDoor
