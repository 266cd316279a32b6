/-
  Lists that the statements of layer 7 hold against one another; their example.
-/
import Derived.Test.YtlhppbogkmljbaaFrameScan
import Derived.Lib.SlBytesConst
namespace Go.Proofs.Ytlhppbogkmljbaa
open Go.RowKit

set_option maxRecDepth 100000 in
set_option maxHeartbeats 4000000 in
set_option linter.unusedSimpArgs false in
/-- 'same' of one list, told twice. -/
theorem same7_any (w : World) (va vb : Value) (ls : List (List UInt8)) (hl : ls.length < 1000000000) (ha : RdLL w va ls) (hb : RdLL w vb ls) :
    Calls Try.prog 13 #[va, vb] w fun e w' => e = .returned (.bool true) ∧ Below w.heap.size w w' := by
  obtain ⟨aa, ca, rfl, _, _⟩ := ha.form
  obtain ⟨ab, cb, rfl, _, _⟩ := hb.form
  have HA := Lib.hid ha
  have HB := Lib.hid hb
  clear ha hb
  go_enter Try.func13, Try.ntmps13
  go_wp2
  go_loopw [5] (fun i wr => ∃ k : Nat, k ≤ ls.length ∧ i = .int .i64 k ∧ Below w.heap.size w wr) (fun i _ => ls.length - (intOf i).toNat)
  case atStart => exact ⟨0, Nat.zero_le _, rfl, Below.refl _ _⟩
  case round =>
    obtain ⟨k, hk, rfl, hbl⟩ := hrel
    have HBL := Lib.hid hbl
    clear hbl
    by_cases hlt : k < ls.length
    · obtain ⟨x, hx⟩ : ∃ x, ls[k]? = some x := ⟨_, List.getElem?_eq_getElem hlt⟩
      obtain ⟨w6, hw6⟩ : ∃ w6, w6 = wr.drew := ⟨_, rfl⟩
      have hb6 : Below w.heap.size w w6 := by rw [hw6]; exact HBL.out.drew
      obtain ⟨b1, o1, a1, c1, rfl, A1, AR, _⟩ := (HA.out.below hb6 (Nat.le_refl _)).at_ hx
      obtain ⟨b2, o2, a2, c2, rfl, A2, BR, _⟩ := (HB.out.below hb6 (Nat.le_refl _)).at_ hx
      have AR := Lib.hid AR
      have BR := Lib.hid BR
      have HW6 := Lib.hid hw6
      have HB6 := Lib.hid hb6
      clear hx hw6 hb6
      go_wp2
      refine wp_region_plan [(true, 0), (true, 1), (true, 2), (true, 3), (true, 4), (true, 5), (true, 6), (true, 7), (true, 8), (true, 9), (true, 10)] (by kernel_rfl) (by kernel_rfl) (by kernel_rfl) (by kernel_rfl) (by kernel_rfl) ?_
      simp only [planO, List.drop_succ_cons, List.drop_zero]
      rw [← HW6.out]
      refine PlanO.take (v := ?v0) (by kernel_rfl) ?y0 ?r0
      case y0 => (intro wz hz; go_simp; try with_reducible rfl)
      (try simp only [Act.put, List.setIfInBounds_toArray, List.set_cons_zero, List.set_cons_succ])
      refine PlanO.take (v := ?v1) (by kernel_rfl) ?y1 ?r1
      case y1 => (intro wz hz; go_simp; try with_reducible rfl)
      (try simp only [Act.put, List.setIfInBounds_toArray, List.set_cons_zero, List.set_cons_succ])
      refine PlanO.take (v := ?v2) (by kernel_rfl) ?y2 ?r2
      case y2 => (intro wz hz; go_simp; try with_reducible rfl)
      (try simp only [Act.put, List.setIfInBounds_toArray, List.set_cons_zero, List.set_cons_succ])
      refine PlanO.take (v := ?v3) (by kernel_rfl) ?y3 ?r3
      case y3 => (intro wz hz; have k1 := Ext.at_ hz A1; have q1 := rdB_convert (P := Try.prog) (RdB.below AR.out hz (Nat.le_refl _)) 22 5 9 Try.underlying22 Try.underlying5 Try.underlying9; go_simp; try with_reducible rfl)
      (try simp only [Act.put, List.setIfInBounds_toArray, List.set_cons_zero, List.set_cons_succ])
      refine PlanO.take (v := .string (strB x)) (by kernel_rfl) ?y4 ?r4
      case y4 => (intro wz hz; have k1 := Ext.at_ hz A1; have q1 := rdB_convert (P := Try.prog) (RdB.below AR.out hz (Nat.le_refl _)) 22 5 9 Try.underlying22 Try.underlying5 Try.underlying9; go_simp)
      (try simp only [Act.put, List.setIfInBounds_toArray, List.set_cons_zero, List.set_cons_succ])
      refine PlanO.take (v := ?v5) (by kernel_rfl) ?y5 ?r5
      case y5 => (intro wz hz; go_simp; try with_reducible rfl)
      (try simp only [Act.put, List.setIfInBounds_toArray, List.set_cons_zero, List.set_cons_succ])
      refine PlanO.take (v := ?v6) (by kernel_rfl) ?y6 ?r6
      case y6 => (intro wz hz; go_simp; try with_reducible rfl)
      (try simp only [Act.put, List.setIfInBounds_toArray, List.set_cons_zero, List.set_cons_succ])
      refine PlanO.take (v := ?v7) (by kernel_rfl) ?y7 ?r7
      case y7 => (intro wz hz; go_simp; try with_reducible rfl)
      (try simp only [Act.put, List.setIfInBounds_toArray, List.set_cons_zero, List.set_cons_succ])
      refine PlanO.take (v := ?v8) (by kernel_rfl) ?y8 ?r8
      case y8 => (intro wz hz; have k2 := Ext.at_ hz A2; have q2 := rdB_convert (P := Try.prog) (RdB.below BR.out hz (Nat.le_refl _)) 22 5 9 Try.underlying22 Try.underlying5 Try.underlying9; go_simp; try with_reducible rfl)
      (try simp only [Act.put, List.setIfInBounds_toArray, List.set_cons_zero, List.set_cons_succ])
      refine PlanO.take (v := .string (strB x)) (by kernel_rfl) ?y9 ?r9
      case y9 => (intro wz hz; have k2 := Ext.at_ hz A2; have q2 := rdB_convert (P := Try.prog) (RdB.below BR.out hz (Nat.le_refl _)) 22 5 9 Try.underlying22 Try.underlying5 Try.underlying9; go_simp)
      (try simp only [Act.put, List.setIfInBounds_toArray, List.set_cons_zero, List.set_cons_succ])
      refine PlanO.take (v := .bool false) (by kernel_rfl) ?y10 ?r10
      case y10 => (intro wz hz; go_simp)
      (try simp only [Act.put, List.setIfInBounds_toArray, List.set_cons_zero, List.set_cons_succ])
      refine PlanO.done (NoPanic.normal ?_)
      go_wp2
      go_roundw
      case rel => exact ⟨k + 1, by omega, by go_num, HB6.out⟩
      case measure => simp [intOf]; omega
    · go_wp2
      go_ret
      exact ⟨rfl, HBL.out⟩

theorem rdB_const2 (w : World) (x y : UInt8) (e : Nat) : RdB (w.alloc (.cells #[bv x, bv y] e (2, 3))) (.slice (some ⟨w.heap.size, 0, none⟩) 2 2) [x, y] :=
  ⟨_, 2, rfl, Nat.le_refl _, by unfold maxLen; omega, rfl, .inr ⟨w.heap.size, 0, rfl, by simp, fun j u hj => by rw [Nat.zero_add, World.cell?_alloc_mark]; simpa [bv] using hj⟩⟩

set_option maxRecDepth 100000 in
set_option maxHeartbeats 2000000 in
theorem awake7_any (w : World) : Calls Try.prog 6 #[] w fun e w' => e = .returned (.bool true) ∧ Below w.heap.size w w' := by
  have hcv := fun (w : World) (C : Array Value) (n c : Nat) => Lib.run_convert_bytes_const (P := Try.prog) w 22 5 C n c Try.underlying22 Try.underlying5
  have HS := Lib.hid (fscan_any w (.slice none 0 0) [] (Rd.nil w 1) (by simp))
  have e0 : scanL [] = ([], 0) := by decide
  have HE := Lib.hid e0
  clear e0
  go_enter Try.func6, Try.ntmps6
  go_wp2_with fail
  refine HS.out.mono ?_
  unfold ScanFr
  rw [HE.out]
  rintro e w1 ⟨u, rfl, hu, hb1⟩
  obtain ⟨ua, uc, rfl⟩ := own_slice hu
  have HB1 := Lib.hid hb1
  clear hu hb1
  have HP := Lib.hid fun w => fput_any (w.alloc (.cells #[bv 97, bv 98] 5 (2, 3))) _ [97, 98] (rdB_const2 w 97 98 5) (by simp)
  have HP2 : Hid (frL [97, 98] = frL [97, 98] ∧ (frL [97, 98]).length = 10) := Lib.hid ⟨rfl, by rw [frL, if_pos (by simp), frRaw_length]; rfl⟩
  generalize frL [97, 98] = fl at *
  go_wp2_with (go_at_call 11; refine (HP.out _).mono ?_; rintro e w2 ⟨v2, rfl, hv2, hb2⟩; obtain ⟨va, vc, rfl⟩ := rdB_form' hv2.read; have HL := HP2.out.2; have HB2 := Lib.hid hb2; clear hv2 hb2)
  go_ret
  exact ⟨rfl, HB1.out.trans (((Below.refl _ w1).alloc (Nat.le_refl _) _).trans (HB2.out.mono (by simp)) |>.mono HB1.out.size)⟩
end Go.Proofs.Ytlhppbogkmljbaa
