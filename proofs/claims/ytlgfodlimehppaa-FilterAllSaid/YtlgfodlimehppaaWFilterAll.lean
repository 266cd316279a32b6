/-
  The walk of FilterAll.
-/
import Derived.Test.YtlgfodlimehppaaFilGreat
import Derived.Test.YtlgfodlimehppaaOpenS
import Derived.Test.YtlgfodlimehppaaRegion
namespace Go.Proofs.Ytlgfodlimehppaa
open Go.RowKit Ieee

set_option maxRecDepth 100000 in
set_option maxHeartbeats 8000000 in
theorem filterAll_walkC (HP : ProbesC) (HM : MakeC) (HY : MayC) (v0 : Value) (l : List ByteArray) (b : Nat) (v2 : Value) (f : List UInt8) (key : ByteArray) (W : World) (w0 : RdS W v0 l) (wb : (Lit.float .f64 b).wf = true) (w2 : RdB W v2 f) (wk : key.size ≤ maxLen) :
    Calls Try.prog 3 #[v0, .float .f64 b, v2, .string key] W fun r w' => r = .returned (.bool true) ∧ Below W.heap.size W w' := by
  have HG := Lib.hid (great_any v0 l W w0.1 w0.2)
  have HAW := Lib.hid (awake11_any HP)
  have HPB := Lib.hid (HP b wb)
  have HRP := Lib.hid (fun w => rprobes_any wb w)
  obtain ⟨fa, fc, rfl, hf1, hf2⟩ := w2.form
  have HF := Lib.hid w2
  have HL := Lib.hid w0
  have HWB := Lib.hid wb
  have HK := Lib.hid wk
  have HMc := Lib.hid (fun v w h1 h2 h3 => HM v l b wb w h1 h2 h3)
  have HYc := Lib.hid (fun v w h1 h2 => HY v f key wk w h1 h2)
  clear w0 w2 hf1 hf2
  obtain ⟨w6, hw6⟩ : ∃ w6, w6 = W.drew := ⟨_, rfl⟩
  have hE6 : Below W.heap.size W w6 := by rw [hw6]; exact (Below.refl _ _).drew
  have HE6 := Lib.hid hE6
  have HF6 := Lib.hid (HF.out.below hE6 (Nat.le_refl _))
  have HL61 := Lib.hid (HL.out.1.below hE6 (Nat.le_refl _))
  have HL62 := Lib.hid HL.out.2
  have HW6 := Lib.hid hw6
  obtain ⟨M, hM⟩ : ∃ M, makeL (hashes l) b = M := ⟨_, rfl⟩
  have HMM := Lib.hid hM
  obtain ⟨c, hc⟩ : ∃ c, mayL f (hashL key.data.toList) = c := ⟨_, rfl⟩
  have HMY := Lib.hid hc
  clear hw6 hE6 hM hc wb
  by_cases g1 : 2000 < f.length
  · have g1' : (2000 : Int) < (f.length : Int) := by omega
    go_enter Try.func3, Try.ntmps3
    go_wp2_with (first | (go_at_call 7; (with_reducible refine HG.out.mono ?_); rintro e w1 ⟨⟨g, rfl, hg⟩, rfl⟩; cases g) | (go_at_call 8; (with_reducible refine (HAW.out _).mono ?_); rintro e w2 ⟨rfl, rfl⟩))
    all_goals go_ret
    all_goals exact ⟨rfl, Below.refl _ _⟩
  · have g1' : ¬ (2000 : Int) < (f.length : Int) := by omega
    have HFN : Hid (f.length ≤ 100000) := Lib.hid (by omega)
    by_cases g2 : 300 < key.size
    · have g2' : (300 : Int) < (key.size : Int) := by omega
      go_enter Try.func3, Try.ntmps3
      go_wp2_with (first | (go_at_call 7; (with_reducible refine HG.out.mono ?_); rintro e w1 ⟨⟨g, rfl, hg⟩, rfl⟩; cases g) | (go_at_call 8; (with_reducible refine (HAW.out _).mono ?_); rintro e w2 ⟨rfl, rfl⟩))
      all_goals go_ret
      all_goals exact ⟨rfl, Below.refl _ _⟩
    · have g2' : ¬ (300 : Int) < (key.size : Int) := by omega
      clear g1 g2
      go_enter Try.func3, Try.ntmps3
      go_wp2_with (first | (go_at_call 7; (with_reducible refine HG.out.mono ?_); rintro e w1 ⟨⟨g, rfl, hg⟩, rfl⟩; cases g) | (go_at_call 8; (with_reducible refine (HAW.out _).mono ?_); rintro e w2 ⟨rfl, rfl⟩))
      rotate_left
      · go_ret
        exact ⟨rfl, Below.refl _ _⟩
      have HLN : Hid (l.length ≤ 100000) := Lib.hid (by have := hg trivial; omega)
      clear hg g1' g2'
      refine wp_region_plan [(true, 0), (true, 2), (false, 1), (false, 3), (true, 4), (true, 5), (true, 6), (true, 7), (true, 10), (true, 11), (false, 8), (true, 9), (false, 12), (true, 13), (true, 14), (true, 15), (true, 16), (true, 17), (true, 18), (true, 20), (true, 21), (false, 19), (false, 22), (true, 23), (true, 24), (true, 25), (false, 26), (true, 27), (true, 28)] (by kernel_rfl) (by kernel_rfl) (by kernel_rfl) (by kernel_rfl) (by kernel_rfl) ?_
      simp only [planO, List.drop_succ_cons, List.drop_zero]
      rw [← HW6.out]
      refine PlanO.take (v := ?v0) (by kernel_rfl) ?y0 ?r0
      case y0 => (intro wz hz; go_simp; try with_reducible rfl)
      (try simp only [Act.put, List.setIfInBounds_toArray, List.set_cons_zero, List.set_cons_succ])
      refine PlanO.take (v := ?v2) (by kernel_rfl) ?y2 ?r2
      case y2 => (intro wz hz; go_simp; try with_reducible rfl)
      (try simp only [Act.put, List.setIfInBounds_toArray, List.set_cons_zero, List.set_cons_succ])
      refine PlanO.exec (fun K hK => ?_)
      go_simp
      go_at_call 9
      (with_reducible refine (HPB.out _).mono ?_)
      rintro e v1 ⟨rfl, rfl⟩
      go_wp2_with fail
      refine hK.out _ _ (Below.refl _ _) ?_
      clear hK K
      (try simp only [Act.put, List.setIfInBounds_toArray, List.set_cons_zero, List.set_cons_succ])
      refine PlanO.exec (fun K hK => ?_)
      go_simp
      go_at_call 10
      (with_reducible refine (HRP.out _).mono ?_)
      rintro e v1 ⟨rfl, rfl⟩
      go_wp2_with fail
      refine hK.out _ _ (Below.refl _ _) ?_
      clear hK K
      (try simp only [Act.put, List.setIfInBounds_toArray, List.set_cons_zero, List.set_cons_succ])
      refine PlanO.take (v := .bool true) (by kernel_rfl) ?y4 ?r4
      case y4 => (intro wz hz; go_simp; try simp)
      (try simp only [Act.put, List.setIfInBounds_toArray, List.set_cons_zero, List.set_cons_succ])
      refine PlanO.take (v := .bool true) (by kernel_rfl) ?y5 ?r5
      case y5 => (intro wz hz; go_simp; try simp)
      (try simp only [Act.put, List.setIfInBounds_toArray, List.set_cons_zero, List.set_cons_succ])
      refine PlanO.take (v := ?v6) (by kernel_rfl) ?y6 ?r6
      case y6 => (intro wz hz; go_simp; try with_reducible rfl)
      (try simp only [Act.put, List.setIfInBounds_toArray, List.set_cons_zero, List.set_cons_succ])
      refine PlanO.take (v := ?v7) (by kernel_rfl) ?y7 ?r7
      case y7 => (intro wz hz; go_simp; try with_reducible rfl)
      (try simp only [Act.put, List.setIfInBounds_toArray, List.set_cons_zero, List.set_cons_succ])
      refine PlanO.take (v := ?v10) (by kernel_rfl) ?y10 ?r10
      case y10 => (intro wz hz; go_simp; try with_reducible rfl)
      (try simp only [Act.put, List.setIfInBounds_toArray, List.set_cons_zero, List.set_cons_succ])
      refine PlanO.take (v := ?v11) (by kernel_rfl) ?y11 ?r11
      case y11 => (intro wz hz; go_simp; try with_reducible rfl)
      (try simp only [Act.put, List.setIfInBounds_toArray, List.set_cons_zero, List.set_cons_succ])
      refine PlanO.exec (fun K hK => ?_)
      go_simp
      go_at_call 11
      (with_reducible refine (HMc.out _ w6 HL61.out HL62.out HLN.out).mono ?_)
      rintro e v1 ⟨p1, rfl, ho1, hb1⟩
      rw [HMM.out] at ho1
      have HO1 := Lib.hid ho1.read
      have HE1 : Hid (Ext w6 v1) := Lib.hid hb1
      clear ho1
      obtain ⟨pa1, pc1, rfl, _, _⟩ := HO1.out.form
      go_wp2_with fail
      refine hK.out _ _ HE1.out ?_
      clear hK K
      (try simp only [Act.put, List.setIfInBounds_toArray, List.set_cons_zero, List.set_cons_succ])
      refine PlanO.take (v := .string (strB M)) (by kernel_rfl) ?y9 ?r9
      case y9 => (intro wz hz; have q1 := rdB_convert (P := Try.prog) (RdB.below HO1.out hz (Nat.le_refl _)) 24 5 9 Try.underlying24 Try.underlying5 Try.underlying9; go_simp; try simp)
      (try simp only [Act.put, List.setIfInBounds_toArray, List.set_cons_zero, List.set_cons_succ])
      refine PlanO.exec (fun K hK => ?_)
      go_simp
      go_at_call 12
      (refine (rmake_any _ l b HWB.out v1 (HL61.out.below HE1.out (Nat.le_refl _)) HL62.out HLN.out).mono ?_)
      rintro e v2 ⟨p2, rfl, ho2, hb2⟩
      rw [HMM.out] at ho2
      have HO2 := Lib.hid ho2.read
      have HE2 : Hid (Ext w6 v2) := Lib.hid (Ext.trans HE1.out hb2)
      clear ho2
      obtain ⟨pa2, pc2, rfl, _, _⟩ := HO2.out.form
      go_wp2_with fail
      refine hK.out _ _ hb2 ?_
      clear hK K
      (try simp only [Act.put, List.setIfInBounds_toArray, List.set_cons_zero, List.set_cons_succ])
      refine PlanO.take (v := .string (strB M)) (by kernel_rfl) ?y13 ?r13
      case y13 => (intro wz hz; have q2 := rdB_convert (P := Try.prog) (RdB.below HO2.out hz (Nat.le_refl _)) 24 5 9 Try.underlying24 Try.underlying5 Try.underlying9; go_simp; try simp)
      (try simp only [Act.put, List.setIfInBounds_toArray, List.set_cons_zero, List.set_cons_succ])
      refine PlanO.take (v := .bool true) (by kernel_rfl) ?y14 ?r14
      case y14 => (intro wz hz; go_simp; try simp)
      (try simp only [Act.put, List.setIfInBounds_toArray, List.set_cons_zero, List.set_cons_succ])
      refine PlanO.take (v := .bool true) (by kernel_rfl) ?y15 ?r15
      case y15 => (intro wz hz; go_simp; try simp)
      (try simp only [Act.put, List.setIfInBounds_toArray, List.set_cons_zero, List.set_cons_succ])
      refine PlanO.take (v := .bool true) (by kernel_rfl) ?y16 ?r16
      case y16 => (intro wz hz; go_simp; try simp)
      (try simp only [Act.put, List.setIfInBounds_toArray, List.set_cons_zero, List.set_cons_succ])
      refine PlanO.take (v := ?v17) (by kernel_rfl) ?y17 ?r17
      case y17 => (intro wz hz; go_simp; try with_reducible rfl)
      (try simp only [Act.put, List.setIfInBounds_toArray, List.set_cons_zero, List.set_cons_succ])
      refine PlanO.take (v := ?v18) (by kernel_rfl) ?y18 ?r18
      case y18 => (intro wz hz; go_simp; try with_reducible rfl)
      (try simp only [Act.put, List.setIfInBounds_toArray, List.set_cons_zero, List.set_cons_succ])
      refine PlanO.take (v := ?v20) (by kernel_rfl) ?y20 ?r20
      case y20 => (intro wz hz; go_simp; try with_reducible rfl)
      (try simp only [Act.put, List.setIfInBounds_toArray, List.set_cons_zero, List.set_cons_succ])
      refine PlanO.take (v := ?v21) (by kernel_rfl) ?y21 ?r21
      case y21 => (intro wz hz; go_simp; try with_reducible rfl)
      (try simp only [Act.put, List.setIfInBounds_toArray, List.set_cons_zero, List.set_cons_succ])
      refine PlanO.exec (fun K hK => ?_)
      go_simp
      go_at_call 13
      (refine (HYc.out _ v2 (HF6.out.below HE2.out (Nat.le_refl _)) HFN.out).mono ?_)
      rintro e v3 ⟨rfl, hb3⟩
      have HE3 : Hid (Ext w6 v3) := Lib.hid (Ext.trans HE2.out hb3)
      rw [HMY.out]
      go_wp2_with fail
      refine hK.out _ _ hb3 ?_
      clear hK K
      (try simp only [Act.put, List.setIfInBounds_toArray, List.set_cons_zero, List.set_cons_succ])
      refine PlanO.exec (fun K hK => ?_)
      go_simp
      go_at_call 14
      (refine (rmaybe_any _ f key HK.out v3 (HF6.out.below HE3.out (Nat.le_refl _)) HFN.out).mono ?_)
      rintro e v4 ⟨rfl, rfl⟩
      rw [HMY.out]
      go_wp2_with fail
      refine hK.out _ _ (Below.refl _ _) ?_
      clear hK K
      (try simp only [Act.put, List.setIfInBounds_toArray, List.set_cons_zero, List.set_cons_succ])
      refine PlanO.take (v := .bool true) (by kernel_rfl) ?y23 ?r23
      case y23 => (intro wz hz; go_simp; try simp)
      (try simp only [Act.put, List.setIfInBounds_toArray, List.set_cons_zero, List.set_cons_succ])
      refine PlanO.take (v := .bool true) (by kernel_rfl) ?y24 ?r24
      case y24 => (intro wz hz; go_simp; try simp)
      (try simp only [Act.put, List.setIfInBounds_toArray, List.set_cons_zero, List.set_cons_succ])
      refine PlanO.take (v := .bool true) (by kernel_rfl) ?y25 ?r25
      case y25 => (intro wz hz; go_simp; try simp)
      (try simp only [Act.put, List.setIfInBounds_toArray, List.set_cons_zero, List.set_cons_succ])
      refine PlanO.exec (fun K hK => ?_)
      go_simp
      go_at_call 8
      (with_reducible refine (HAW.out _).mono ?_)
      rintro e v5 ⟨rfl, rfl⟩
      go_wp2_with fail
      refine hK.out _ _ (Below.refl _ _) ?_
      clear hK K
      (try simp only [Act.put, List.setIfInBounds_toArray, List.set_cons_zero, List.set_cons_succ])
      refine PlanO.take (v := .bool true) (by kernel_rfl) ?y27 ?r27
      case y27 => (intro wz hz; go_simp; try simp)
      (try simp only [Act.put, List.setIfInBounds_toArray, List.set_cons_zero, List.set_cons_succ])
      refine PlanO.take (v := ?v28) (by kernel_rfl) ?y28 ?r28
      case y28 => (intro wz hz; go_simp; try with_reducible rfl)
      (try simp only [Act.put, List.setIfInBounds_toArray, List.set_cons_zero, List.set_cons_succ])
      refine PlanO.done (NoPanic.normal ?_)
      go_wp2
      go_ret
      exact ⟨rfl, HE6.out.trans (HE3.out.mono HE6.out.size)⟩
end Go.Proofs.Ytlgfodlimehppaa
