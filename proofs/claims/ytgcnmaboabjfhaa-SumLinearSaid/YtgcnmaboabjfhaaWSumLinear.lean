/-
  The walk of the statement SumLinear.
-/
import Derived.Test.YtgcnmaboabjfhaaAwake3
import Derived.Test.YtgcnmaboabjfhaaLift
import Derived.Test.YtgcnmaboabjfhaaSumMix
import Derived.Test.YtgcnmaboabjfhaaRegion
namespace Go.Proofs.Ytgcnmaboabjfhaa
open Go.ChangeShapes Go.WideShapes Go.ChangeAt Go.RowKit

set_option maxRecDepth 100000 in
set_option maxHeartbeats 4000000 in
set_option linter.unusedSimpArgs false in
theorem sumLinear_walk (va : Value) (la : List UInt8) (vb : Value) (lb : List UInt8) (vc : Value) (lc : List UInt8) (W : World) (ha : RdB W va la) (hb : RdB W vb lb) (hc : RdB W vc lc) :
    Calls Try.prog 5 #[va, vb, vc] W fun e w' => e = .returned (.bool true) ∧ Below W.heap.size W w' := by
  have h5 := Lib.hid (fun w => awake3_any w)
  obtain ⟨aa, ca, rfl, ha1, ha2⟩ := ha.form
  obtain ⟨ab, cb, rfl, hb1, hb2⟩ := hb.form
  obtain ⟨ac, cc, rfl, hc1, hc2⟩ := hc.form
  unfold maxLen at ha2 hb2 hc2
  obtain ⟨n, hn⟩ : ∃ n, n = min la.length (min lb.length lc.length) := ⟨_, rfl⟩
  have hmin := min_three (P := Try.prog) #[3, 3, 3] 3 la.length lb.length lc.length n hn
  have na : n ≤ la.length := by omega
  have nb : n ≤ lb.length := by omega
  have nc : n ≤ lc.length := by omega
  clear hn
  by_cases g1 : (2000 : Int) < (n : Int)
  · go_enter Try.func5, Try.ntmps5
    go_wp2_with (go_at_call 7; refine (h5.out _).mono ?_; rintro e w1 ⟨rfl, rfl⟩)
    go_ret
    exact ⟨rfl, Below.refl _ _⟩
  go_enter Try.func5, Try.ntmps5
  go_wp2_with (at_make; refine wpList_make_bytes rfl _ _ 22 rfl 5 Try.underlying22 info_u8 _ _ n rfl rfl (by omega) ?_)
  intro w0 ho0 hx0
  clear hmin
  go_wp2
  go_loopw [9] (fun i wr => ∃ m : Nat, m ≤ n ∧ i = .int .i64 m ∧ OwnB wr W.heap.size 5 (.slice (some ⟨W.heap.size, 0, none⟩) n n) (mixL la lb lc n m) ∧ Below W.heap.size W wr) (fun i _ => n - (intOf i).toNat)
  case atStart => exact ⟨0, Nat.zero_le _, rfl, by rw [mixL_zero]; exact ho0, hx0⟩
  case round =>
    obtain ⟨m, hm, rfl, ho, hB⟩ := hrel
    by_cases hmn : m < n
    · obtain ⟨ba, oa, ca', ea, _, _, hba, hca⟩ := ha.cells (by intro h; subst h; simp at na; omega)
      cases ea
      obtain ⟨bb, ob, cb', eb, _, _, hbb, hcb⟩ := hb.cells (by intro h; subst h; simp at nb; omega)
      cases eb
      obtain ⟨bc, oc, cc', ec, _, _, hbc, hcc⟩ := hc.cells (by intro h; subst h; simp at nc; omega)
      cases ec
      have da := (hB.cell (p := ⟨ba, oa + m, none⟩) hba).trans (hca m (by omega))
      have db := (hB.cell (p := ⟨bb, ob + m, none⟩) hbb).trans (hcb m (by omega))
      have dc := (hB.cell (p := ⟨bc, oc + m, none⟩) hbc).trans (hcc m (by omega))
      have hod : OwnB wr.drew W.heap.size 5 (.slice (some ⟨W.heap.size, 0, none⟩) n n) (mixL la lb lc n m) := World.ownsRow.drew ho
      have hst := OwnB.stored ho m (la.getD m 0 ^^^ lb.getD m 0 ^^^ lc.getD m 0)
      have hf := OwnB.frozenAt hod m
      have hcl := OwnB.cellAt hod m (by rw [mixL_length la lb lc n m na nb nc hm]; exact hmn)
      generalize (mixL la lb lc n m).getD m 0 = pd at hcl
      rw [mixL_step la lb lc n m na nb nc hmn] at hst
      have x1 := xor_u8 (la.getD m 0) (lb.getD m 0)
      have x2 := xor_u8 (la.getD m 0 ^^^ lb.getD m 0) (lc.getD m 0)
      clear hca hcb hcc ho hod
      generalize la.getD m 0 = pa at *
      generalize lb.getD m 0 = pb at *
      generalize lc.getD m 0 = pc at *
      rw [bv_xor3] at hst
      have ma : (m : Int) < (la.length : Int) := by omega
      have mb : (m : Int) < (lb.length : Int) := by omega
      have mc : (m : Int) < (lc.length : Int) := by omega
      simp only [UInt8.toNat_xor] at x1 x2
      have hX1 := Lib.hid x1
      have hX2 := Lib.hid x2
      clear x1 x2
      have hmn' : (m : Int) < (n : Int) := by omega
      go_wp2
      refine wp_region_planB W.heap.size [(true, 0), (true, 1), (true, 2), (true, 3), (true, 4), (true, 5), (true, 6), (true, 7), (true, 8), (true, 9), (true, 10), (true, 11), (true, 12), (true, 13), (true, 14), (true, 15), (true, 16), (false, 17)] (by kernel_rfl) (by kernel_rfl) (by kernel_rfl) (by kernel_rfl) (by kernel_rfl) ?_
      simp only [planO, List.drop_succ_cons, List.drop_zero]
      refine PlanO.take (v := ?vl0) (by kernel_rfl) ?yl0 ?rl0
      case yl0 => (intro wz hz; go_simp; try with_reducible rfl)
      (try simp only [Act.put, List.setIfInBounds_toArray, List.set_cons_zero, List.set_cons_succ])
      refine PlanO.take (v := ?vl1) (by kernel_rfl) ?yl1 ?rl1
      case yl1 => (intro wz hz; go_simp; try with_reducible rfl)
      (try simp only [Act.put, List.setIfInBounds_toArray, List.set_cons_zero, List.set_cons_succ])
      refine PlanO.take (v := ?vl2) (by kernel_rfl) ?yl2 ?rl2
      case yl2 => (intro wz hz; go_simp; try with_reducible rfl)
      (try simp only [Act.put, List.setIfInBounds_toArray, List.set_cons_zero, List.set_cons_succ])
      refine PlanO.take (v := ?vl3) (by kernel_rfl) ?yl3 ?rl3
      case yl3 => (intro wz hz; go_simp; try with_reducible rfl)
      (try simp only [Act.put, List.setIfInBounds_toArray, List.set_cons_zero, List.set_cons_succ])
      refine PlanO.take (v := ?vl4) (by kernel_rfl) ?yl4 ?rl4
      case yl4 => (intro wz hz; go_simp; try with_reducible rfl)
      (try simp only [Act.put, List.setIfInBounds_toArray, List.set_cons_zero, List.set_cons_succ])
      refine PlanO.take (v := ?vl5) (by kernel_rfl) ?yl5 ?rl5
      case yl5 => (intro wz hz; have c0 := held hz hba da; go_simp; try with_reducible rfl)
      (try simp only [Act.put, List.setIfInBounds_toArray, List.set_cons_zero, List.set_cons_succ])
      refine PlanO.take (v := ?vl6) (by kernel_rfl) ?yl6 ?rl6
      case yl6 => (intro wz hz; go_simp; try with_reducible rfl)
      (try simp only [Act.put, List.setIfInBounds_toArray, List.set_cons_zero, List.set_cons_succ])
      refine PlanO.take (v := ?vl7) (by kernel_rfl) ?yl7 ?rl7
      case yl7 => (intro wz hz; go_simp; try with_reducible rfl)
      (try simp only [Act.put, List.setIfInBounds_toArray, List.set_cons_zero, List.set_cons_succ])
      refine PlanO.take (v := ?vl8) (by kernel_rfl) ?yl8 ?rl8
      case yl8 => (intro wz hz; go_simp; try with_reducible rfl)
      (try simp only [Act.put, List.setIfInBounds_toArray, List.set_cons_zero, List.set_cons_succ])
      refine PlanO.take (v := ?vl9) (by kernel_rfl) ?yl9 ?rl9
      case yl9 => (intro wz hz; have c0 := held hz hbb db; go_simp; try with_reducible rfl)
      (try simp only [Act.put, List.setIfInBounds_toArray, List.set_cons_zero, List.set_cons_succ])
      refine PlanO.take (v := ?vl10) (by kernel_rfl) ?yl10 ?rl10
      case yl10 => (intro wz hz; have e1 := hX1.out; go_simp; try with_reducible rfl)
      (try simp only [Act.put, List.setIfInBounds_toArray, List.set_cons_zero, List.set_cons_succ])
      refine PlanO.take (v := ?vl11) (by kernel_rfl) ?yl11 ?rl11
      case yl11 => (intro wz hz; go_simp; try with_reducible rfl)
      (try simp only [Act.put, List.setIfInBounds_toArray, List.set_cons_zero, List.set_cons_succ])
      refine PlanO.take (v := ?vl12) (by kernel_rfl) ?yl12 ?rl12
      case yl12 => (intro wz hz; go_simp; try with_reducible rfl)
      (try simp only [Act.put, List.setIfInBounds_toArray, List.set_cons_zero, List.set_cons_succ])
      refine PlanO.take (v := ?vl13) (by kernel_rfl) ?yl13 ?rl13
      case yl13 => (intro wz hz; go_simp; try with_reducible rfl)
      (try simp only [Act.put, List.setIfInBounds_toArray, List.set_cons_zero, List.set_cons_succ])
      refine PlanO.take (v := ?vl14) (by kernel_rfl) ?yl14 ?rl14
      case yl14 => (intro wz hz; have c0 := held hz hbc dc; go_simp; try with_reducible rfl)
      (try simp only [Act.put, List.setIfInBounds_toArray, List.set_cons_zero, List.set_cons_succ])
      refine PlanO.take (v := ?vl15) (by kernel_rfl) ?yl15 ?rl15
      case yl15 => (intro wz hz; have e2 := hX2.out; go_simp; try with_reducible rfl)
      (try simp only [Act.put, List.setIfInBounds_toArray, List.set_cons_zero, List.set_cons_succ])
      refine PlanO.take (v := ?vl16) (by kernel_rfl) ?yl16 ?rl16
      case yl16 => (intro wz hz; go_simp; try with_reducible rfl)
      (try simp only [Act.put, List.setIfInBounds_toArray, List.set_cons_zero, List.set_cons_succ])
      refine PlanO.keep (fun K hK => ?_)
      go_simp
      refine hK.out _ _ below_set ?_
      clear hK K
      (try simp only [Act.put, List.setIfInBounds_toArray, List.set_cons_zero, List.set_cons_succ])
      refine PlanO.done (NoPanic.normal ?_)
      go_wp2
      go_roundw
      case rel => exact ⟨m + 1, by omega, by go_num, World.ownsRow.drew hst, (hB.setCell (Nat.le_refl _) _).drew⟩
      case measure => simp [intOf]; omega
    · obtain rfl : m = n := by omega
      have hfa : RdB wr (.slice aa m ca) (la.take m) := (ha.below hB (Nat.le_refl _)).front m na
      have hfb : RdB wr (.slice ab m cb) (lb.take m) := (hb.below hB (Nat.le_refl _)).front m nb
      have hfc : RdB wr (.slice ac m cc) (lc.take m) := (hc.below hB (Nat.le_refl _)).front m nc
      have hfd : RdB wr (.slice (some ⟨W.heap.size, 0, none⟩) m m) (mixL la lb lc m m) := OwnB.read ho
      have HS1 := Lib.hid (fun w h => sum_any (.slice aa m ca) (la.take m) w h)
      have HS2 := Lib.hid (fun w h => sum_any (.slice ab m cb) (lb.take m) w h)
      have HS3 := Lib.hid (fun w h => sum_any (.slice ac m cc) (lc.take m) w h)
      have HS4 := Lib.hid (fun w h => sum_any (.slice (some ⟨W.heap.size, 0, none⟩) m m) (mixL la lb lc m m) w h)
      have hz3 := sumL_zip3 (la.take m) (lb.take m) (lc.take m) (by simp; omega) (by simp; omega)
      rw [← mixL_end] at hz3
      have l1 := sumL_lt (la.take m)
      have l2 := sumL_lt (lb.take m)
      have l3 := sumL_lt (lc.take m)
      generalize sumL (mixL la lb lc m m) = sd at *
      generalize sumL (la.take m) = sa at *
      generalize sumL (lb.take m) = sb at *
      generalize sumL (lc.take m) = sc at *
      have x1 := xor_i64 sa sb (by omega) (by omega)
      have l12 : sa ^^^ sb < 2 ^ 32 := Nat.xor_lt_two_pow l1 l2
      have x2 := xor_i64 (sa ^^^ sb) sc (by omega) (by omega)
      rw [hz3] at x2
      have mca : m ≤ ca := by omega
      have mcb : m ≤ cb := by omega
      have mcc : m ≤ cc := by omega
      have hmm : ¬ (m : Int) < (m : Int) := by omega
      clear ho hz3 l1 l2 l3
      generalize sa ^^^ sb = sab at *
      go_wp2
      refine wp_region_plan [(true, 0), (true, 1), (true, 2), (true, 4), (true, 5), (true, 6), (true, 9), (true, 10), (true, 11), (true, 14), (false, 3), (false, 7), (true, 8), (false, 12), (true, 13), (false, 15), (true, 16), (true, 17), (false, 18), (true, 19), (true, 20)] (by kernel_rfl) (by kernel_rfl) (by kernel_rfl) (by kernel_rfl) (by kernel_rfl) ?_
      simp only [planO, List.drop_succ_cons, List.drop_zero]
      refine PlanO.take (v := ?vz0) (by kernel_rfl) ?yz0 ?rz0
      case yz0 => (intro wz hz; go_simp; try with_reducible rfl)
      (try simp only [Act.put, List.setIfInBounds_toArray, List.set_cons_zero, List.set_cons_succ])
      refine PlanO.take (v := ?vz1) (by kernel_rfl) ?yz1 ?rz1
      case yz1 => (intro wz hz; go_simp; try with_reducible rfl)
      (try simp only [Act.put, List.setIfInBounds_toArray, List.set_cons_zero, List.set_cons_succ])
      refine PlanO.take (v := ?vz2) (by kernel_rfl) ?yz2 ?rz2
      case yz2 => (intro wz hz; go_simp; try with_reducible rfl)
      (try simp only [Act.put, List.setIfInBounds_toArray, List.set_cons_zero, List.set_cons_succ])
      refine PlanO.take (v := ?vz4) (by kernel_rfl) ?yz4 ?rz4
      case yz4 => (intro wz hz; go_simp; try with_reducible rfl)
      (try simp only [Act.put, List.setIfInBounds_toArray, List.set_cons_zero, List.set_cons_succ])
      refine PlanO.take (v := ?vz5) (by kernel_rfl) ?yz5 ?rz5
      case yz5 => (intro wz hz; go_simp; try with_reducible rfl)
      (try simp only [Act.put, List.setIfInBounds_toArray, List.set_cons_zero, List.set_cons_succ])
      refine PlanO.take (v := ?vz6) (by kernel_rfl) ?yz6 ?rz6
      case yz6 => (intro wz hz; go_simp; try with_reducible rfl)
      (try simp only [Act.put, List.setIfInBounds_toArray, List.set_cons_zero, List.set_cons_succ])
      refine PlanO.take (v := ?vz9) (by kernel_rfl) ?yz9 ?rz9
      case yz9 => (intro wz hz; go_simp; try with_reducible rfl)
      (try simp only [Act.put, List.setIfInBounds_toArray, List.set_cons_zero, List.set_cons_succ])
      refine PlanO.take (v := ?vz10) (by kernel_rfl) ?yz10 ?rz10
      case yz10 => (intro wz hz; go_simp; try with_reducible rfl)
      (try simp only [Act.put, List.setIfInBounds_toArray, List.set_cons_zero, List.set_cons_succ])
      refine PlanO.take (v := ?vz11) (by kernel_rfl) ?yz11 ?rz11
      case yz11 => (intro wz hz; go_simp; try with_reducible rfl)
      (try simp only [Act.put, List.setIfInBounds_toArray, List.set_cons_zero, List.set_cons_succ])
      refine PlanO.take (v := ?vz14) (by kernel_rfl) ?yz14 ?rz14
      case yz14 => (intro wz hz; go_simp; try with_reducible rfl)
      (try simp only [Act.put, List.setIfInBounds_toArray, List.set_cons_zero, List.set_cons_succ])
      refine PlanO.exec (fun K hK => ?_)
      go_simp
      go_at_call 8
      refine (HS1.out _ (hfa.drew)).mono ?_
      rintro e v1 ⟨rfl, rfl⟩
      go_wp2_with fail
      refine hK.out _ _ (Below.refl _ _) ?_
      clear hK K
      (try simp only [Act.put, List.setIfInBounds_toArray, List.set_cons_zero, List.set_cons_succ])
      refine PlanO.exec (fun K hK => ?_)
      go_simp
      go_at_call 8
      refine (HS2.out _ (hfb.drew)).mono ?_
      rintro e v2 ⟨rfl, rfl⟩
      go_wp2_with fail
      refine hK.out _ _ (Below.refl _ _) ?_
      clear hK K
      (try simp only [Act.put, List.setIfInBounds_toArray, List.set_cons_zero, List.set_cons_succ])
      refine PlanO.take (v := ?vz8) (by kernel_rfl) ?yz8 ?rz8
      case yz8 => (intro wz hz; go_simp; try with_reducible rfl)
      (try simp only [Act.put, List.setIfInBounds_toArray, List.set_cons_zero, List.set_cons_succ])
      refine PlanO.exec (fun K hK => ?_)
      go_simp
      go_at_call 8
      refine (HS3.out _ (hfc.drew)).mono ?_
      rintro e v3 ⟨rfl, rfl⟩
      go_wp2_with fail
      refine hK.out _ _ (Below.refl _ _) ?_
      clear hK K
      (try simp only [Act.put, List.setIfInBounds_toArray, List.set_cons_zero, List.set_cons_succ])
      refine PlanO.take (v := ?vz13) (by kernel_rfl) ?yz13 ?rz13
      case yz13 => (intro wz hz; go_simp; try with_reducible rfl)
      (try simp only [Act.put, List.setIfInBounds_toArray, List.set_cons_zero, List.set_cons_succ])
      refine PlanO.exec (fun K hK => ?_)
      go_simp
      go_at_call 8
      refine (HS4.out _ (hfd.drew)).mono ?_
      rintro e v4 ⟨rfl, rfl⟩
      go_wp2_with fail
      refine hK.out _ _ (Below.refl _ _) ?_
      clear hK K
      (try simp only [Act.put, List.setIfInBounds_toArray, List.set_cons_zero, List.set_cons_succ])
      refine PlanO.take (v := ?vz16) (by kernel_rfl) ?yz16 ?rz16
      case yz16 => (intro wz hz; go_simp; try with_reducible rfl)
      (try simp only [Act.put, List.setIfInBounds_toArray, List.set_cons_zero, List.set_cons_succ])
      refine PlanO.take (v := ?vz17) (by kernel_rfl) ?yz17 ?rz17
      case yz17 => (intro wz hz; go_simp; try with_reducible rfl)
      (try simp only [Act.put, List.setIfInBounds_toArray, List.set_cons_zero, List.set_cons_succ])
      refine PlanO.exec (fun K hK => ?_)
      go_simp
      go_at_call 7
      refine (h5.out _).mono ?_
      rintro e v5 ⟨rfl, rfl⟩
      go_wp2_with fail
      refine hK.out _ _ (Below.refl _ _) ?_
      clear hK K
      (try simp only [Act.put, List.setIfInBounds_toArray, List.set_cons_zero, List.set_cons_succ])
      refine PlanO.take (v := ?vz19) (by kernel_rfl) ?yz19 ?rz19
      case yz19 => (intro wz hz; go_simp; try with_reducible rfl)
      (try simp only [Act.put, List.setIfInBounds_toArray, List.set_cons_zero, List.set_cons_succ])
      refine PlanO.take (v := ?vz20) (by kernel_rfl) ?yz20 ?rz20
      case yz20 => (intro wz hz; go_simp; try with_reducible rfl)
      (try simp only [Act.put, List.setIfInBounds_toArray, List.set_cons_zero, List.set_cons_succ])
      refine PlanO.done (NoPanic.normal ?_)
      go_wp2
      go_ret
      exact ⟨rfl, hB.drew⟩
end Go.Proofs.Ytgcnmaboabjfhaa
