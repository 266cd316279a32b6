/-
  The walk of the statement FrameAll.
-/
import Derived.Test.YtlhppbogkmljbaaFrameAwake
import Derived.Test.YtlhppbogkmljbaaLift
namespace Go.Proofs.Ytlhppbogkmljbaa
open Go.ChangeShapes Go.WideShapes Go.ChangeAt Go.RowKit

/-- Get tells the same, whoever tells it. -/
theorem getFr_tells (l : List UInt8) (at_ : Int) : ∃ (f : List UInt8) (n : Int) (c : Bool), ∀ w e w', GetFr w l at_ e w' → ∃ u, e = .returned (.tuple #[u, .int .i64 n, .bool c]) ∧ RdB w' u f ∧ Below w.heap.size w w' := by
  by_cases h : ∃ p : Nat, at_ = p ∧ frOk l p = true
  · obtain ⟨p, rfl, hp⟩ := h
    refine ⟨frP l p, ((p + 8 + frN l p : Nat) : Int), true, ?_⟩
    rintro w e w' (⟨h1, _⟩ | ⟨q, hq, _, u, rfl, hu, hb⟩)
    · rw [h1 p rfl] at hp; cases hp
    · have : q = p := by omega
      subst this
      exact ⟨u, rfl, hu.read, hb⟩
  · refine ⟨[], 0, false, ?_⟩
    rintro w e w' (⟨_, rfl, hb⟩ | ⟨q, hq, ho, _⟩)
    · exact ⟨_, rfl, Rd.nil _ _, hb⟩
    · exact absurd ⟨q, hq, ho⟩ h

set_option maxRecDepth 100000 in
set_option maxHeartbeats 4000000 in
set_option linter.unusedSimpArgs false in
theorem frameAll_walk (vp : Value) (lp : List UInt8) (vb : Value) (lb : List UInt8) (at_ : Int) (W : World) (hp : RdB W vp lp) (hb : RdB W vb lb) (ha : (Lit.int .i64 at_).wf = true) :
    Calls Try.prog 3 #[vp, vb, .int .i64 at_] W fun e w' => e = .returned (.bool true) ∧ Below W.heap.size W w' := by
  have hab := bounds_i64 ha
  clear ha
  have h7 := Lib.hid (fun w => awake7_any w)
  obtain ⟨pa, pc, rfl, hpc1, hpc2⟩ := hp.form
  obtain ⟨ba, bc, rfl, hbc1, hbc2⟩ := hb.form
  unfold maxLen at hpc2 hbc2
  have HP0 := Lib.hid hp
  have HB0 := Lib.hid hb
  by_cases g1 : (2000 : Int) < (lp.length : Int)
  · clear hp hb
    go_enter Try.func3, Try.ntmps3
    go_wp2_with (go_at_call 6; refine (h7.out _).mono ?_; rintro e w1 ⟨rfl, hb1⟩)
    go_ret
    exact ⟨rfl, hb1⟩
  by_cases g2 : (2000 : Int) < (lb.length : Int)
  · clear hp hb
    go_enter Try.func3, Try.ntmps3
    go_wp2_with (go_at_call 6; refine (h7.out _).mono ?_; rintro e w1 ⟨rfl, hb1⟩)
    go_ret
    exact ⟨rfl, hb1⟩
  obtain ⟨fx, n, c, hget⟩ := getFr_tells lb at_
  have HGET := Lib.hid hget
  have HLP : Hid (lp.length < 1000000000000) := Lib.hid (by omega)
  have HLB : Hid (lb.length < 1000000000000) := Lib.hid (by omega)
  have HAB := Lib.hid hab
  have HLS : Hid ((scanL lb).1.length < 1000000000) := Lib.hid (by
    have := scanN_few (lb.length + 1) lb 0 (by omega)
    unfold scanL
    omega)
  have HG := Lib.hid (fget_any W _ lb at_ hb HLB.out hab)
  clear hget hab hp hb
  go_enter Try.func3, Try.ntmps3
  go_wp2_with fail
  refine HG.out.mono ?_
  intro e w1 h1
  obtain ⟨x, rfl, hx1, hb1⟩ := HGET.out _ _ _ h1
  obtain ⟨xa, xc, rfl⟩ := rdB_form' hx1
  have HX1 := Lib.hid hx1
  have HE1 := Lib.hid hb1
  clear hx1 hb1 h1
  go_wp2_with fail
  refine (runframe_any w1 _ lb at_ (HB0.out.below HE1.out (Nat.le_refl _)) HLB.out HAB.out).mono ?_
  intro e w2 h2
  obtain ⟨y, rfl, hy2, hb2⟩ := HGET.out _ _ _ h2
  obtain ⟨ya, yc, rfl⟩ := rdB_form' hy2
  have HX2 := Lib.hid (HX1.out.below hb2 (Nat.le_refl _))
  have HY2 := Lib.hid hy2
  have HE2 := Lib.hid (HE1.out.trans (hb2.mono HE1.out.size))
  clear hy2 hb2 h2
  go_wp2_with fail
  refine (fscan_any w2 _ lb (HB0.out.below HE2.out (Nat.le_refl _)) (by have := HLB.out; omega)).mono ?_
  rintro e w3 ⟨l3, rfl, hl3, hb3⟩
  obtain ⟨la, lc, rfl⟩ := own_slice hl3
  have HX3 := Lib.hid (HX2.out.below hb3 (Nat.le_refl _))
  have HY3 := Lib.hid (HY2.out.below hb3 (Nat.le_refl _))
  have HL3 := Lib.hid hl3.read
  have HE3 := Lib.hid (HE2.out.trans (hb3.mono HE2.out.size))
  clear hl3 hb3
  go_wp2_with fail
  refine (rscan_any w3 _ lb (HB0.out.below HE3.out (Nat.le_refl _)) (by have := HLB.out; omega)).mono ?_
  rintro e w4 ⟨l4, rfl, hl4, hb4⟩
  obtain ⟨ka, kc, rfl⟩ := own_slice hl4
  obtain ⟨w6, hw6⟩ : ∃ w6, w6 = w4.drew := ⟨_, rfl⟩
  have hb6 : Below w3.heap.size w3 w6 := by rw [hw6]; exact hb4.drew
  have hb46 : Below w4.heap.size w4 w6 := by rw [hw6]; exact (Below.refl _ _).drew
  have HX := Lib.hid (HX3.out.below hb6 (Nat.le_refl _))
  have HY := Lib.hid (HY3.out.below hb6 (Nat.le_refl _))
  have HL1 := Lib.hid (HL3.out.below hb6 (Nat.le_refl _))
  have HL2 := Lib.hid (hl4.read.below hb46 (Nat.le_refl _))
  have HE6 := Lib.hid (HE3.out.trans (hb6.mono HE3.out.size))
  have HP := Lib.hid (HP0.out.below HE6.out (Nat.le_refl _))
  have HPUT := Lib.hid (fput_any w6 _ lp HP.out HLP.out)
  have HW6 := Lib.hid hw6
  generalize (scanL lb).1 = ls at *
  generalize (scanL lb).2 = good at *
  generalize hfl : frL lp = fl at *
  have HFL := Lib.hid hfl
  clear hl4 hb4 hb6 hb46 hw6 hfl
  go_wp2_with fail
  refine wp_region_plan [(true, 0), (true, 3), (false, 1), (true, 2), (false, 4), (true, 5), (true, 6), (true, 7), (true, 8), (true, 9), (true, 10), (true, 11), (true, 12), (true, 13), (true, 14), (true, 15), (true, 16), (true, 17), (true, 18), (true, 19), (true, 20), (true, 21), (true, 22), (true, 23), (true, 24), (true, 25), (true, 26), (false, 27), (true, 28), (true, 29), (true, 30), (true, 31), (true, 32), (true, 33), (true, 34), (false, 35), (true, 36), (true, 37)] (by kernel_rfl) (by kernel_rfl) (by kernel_rfl) (by kernel_rfl) (by kernel_rfl) ?_
  simp only [planO, List.drop_succ_cons, List.drop_zero]
  rw [← HW6.out]
  refine PlanO.take (v := ?v0) (by kernel_rfl) ?y0 ?r0
  case y0 => (intro wz hz; go_simp; try with_reducible rfl)
  (try simp only [Act.put, List.setIfInBounds_toArray, List.set_cons_zero, List.set_cons_succ])
  refine PlanO.take (v := ?v3) (by kernel_rfl) ?y3 ?r3
  case y3 => (intro wz hz; go_simp; try with_reducible rfl)
  (try simp only [Act.put, List.setIfInBounds_toArray, List.set_cons_zero, List.set_cons_succ])
  refine PlanO.exec (fun K hK => ?_)
  go_simp
  go_at_call 11
  (with_reducible refine HPUT.out.mono ?_)
  rintro e v1 ⟨p1, rfl, ho1, hb1⟩
  have HO1 := Lib.hid ho1.read
  have HE1 : Hid (Ext w6 v1) := Lib.hid hb1
  clear ho1
  obtain ⟨pa1, pc1, rfl⟩ := rdB_form' HO1.out
  go_wp2_with fail
  refine hK.out _ _ HE1.out ?_
  clear hK K
  (try simp only [Act.put, List.setIfInBounds_toArray, List.set_cons_zero, List.set_cons_succ])
  refine PlanO.take (v := .string (strB fl)) (by kernel_rfl) ?y2 ?r2
  case y2 => (intro wz hz; have q1 := rdB_convert (P := Try.prog) (RdB.below HO1.out hz (Nat.le_refl _)) 22 5 9 Try.underlying22 Try.underlying5 Try.underlying9; go_simp)
  (try simp only [Act.put, List.setIfInBounds_toArray, List.set_cons_zero, List.set_cons_succ])
  refine PlanO.exec (fun K hK => ?_)
  go_simp
  go_at_call 12
  refine (rframe_any v1 _ lp (HP.out.below HE1.out (Nat.le_refl _)) HLP.out).mono ?_
  rw [HFL.out]
  rintro e v2 ⟨p2, rfl, ho2, hb2⟩
  have HO2 := Lib.hid ho2.read
  have HE2 : Hid (Ext w6 v2) := Lib.hid (Ext.trans HE1.out hb2)
  clear ho2
  obtain ⟨pa2, pc2, rfl⟩ := rdB_form' HO2.out
  go_wp2_with fail
  refine hK.out _ _ hb2 ?_
  clear hK K
  (try simp only [Act.put, List.setIfInBounds_toArray, List.set_cons_zero, List.set_cons_succ])
  refine PlanO.take (v := .string (strB fl)) (by kernel_rfl) ?y5 ?r5
  case y5 => (intro wz hz; have q2 := rdB_convert (P := Try.prog) (RdB.below HO2.out hz (Nat.le_refl _)) 22 5 9 Try.underlying22 Try.underlying5 Try.underlying9; go_simp)
  (try simp only [Act.put, List.setIfInBounds_toArray, List.set_cons_zero, List.set_cons_succ])
  refine PlanO.take (v := .bool true) (by kernel_rfl) ?y6 ?r6
  case y6 => (intro wz hz; go_simp)
  (try simp only [Act.put, List.setIfInBounds_toArray, List.set_cons_zero, List.set_cons_succ])
  refine PlanO.take (v := ?v7) (by kernel_rfl) ?y7 ?r7
  case y7 => (intro wz hz; go_simp; try with_reducible rfl)
  (try simp only [Act.put, List.setIfInBounds_toArray, List.set_cons_zero, List.set_cons_succ])
  refine PlanO.take (v := ?v8) (by kernel_rfl) ?y8 ?r8
  case y8 => (intro wz hz; go_simp; try with_reducible rfl)
  (try simp only [Act.put, List.setIfInBounds_toArray, List.set_cons_zero, List.set_cons_succ])
  refine PlanO.take (v := .string (strB fx)) (by kernel_rfl) ?y9 ?r9
  case y9 => (intro wz hz; have q3 := rdB_convert (P := Try.prog) (RdB.below (HX.out.below HE2.out (Nat.le_refl _)) hz (Nat.le_refl _)) 22 5 9 Try.underlying22 Try.underlying5 Try.underlying9; go_simp)
  (try simp only [Act.put, List.setIfInBounds_toArray, List.set_cons_zero, List.set_cons_succ])
  refine PlanO.take (v := ?v10) (by kernel_rfl) ?y10 ?r10
  case y10 => (intro wz hz; go_simp; try with_reducible rfl)
  (try simp only [Act.put, List.setIfInBounds_toArray, List.set_cons_zero, List.set_cons_succ])
  refine PlanO.take (v := .string (strB fx)) (by kernel_rfl) ?y11 ?r11
  case y11 => (intro wz hz; have q4 := rdB_convert (P := Try.prog) (RdB.below (HY.out.below HE2.out (Nat.le_refl _)) hz (Nat.le_refl _)) 22 5 9 Try.underlying22 Try.underlying5 Try.underlying9; go_simp)
  (try simp only [Act.put, List.setIfInBounds_toArray, List.set_cons_zero, List.set_cons_succ])
  refine PlanO.take (v := .bool true) (by kernel_rfl) ?y12 ?r12
  case y12 => (intro wz hz; go_simp)
  (try simp only [Act.put, List.setIfInBounds_toArray, List.set_cons_zero, List.set_cons_succ])
  refine PlanO.take (v := .bool true) (by kernel_rfl) ?y13 ?r13
  case y13 => (intro wz hz; go_simp)
  (try simp only [Act.put, List.setIfInBounds_toArray, List.set_cons_zero, List.set_cons_succ])
  refine PlanO.take (v := ?v14) (by kernel_rfl) ?y14 ?r14
  case y14 => (intro wz hz; go_simp; try with_reducible rfl)
  (try simp only [Act.put, List.setIfInBounds_toArray, List.set_cons_zero, List.set_cons_succ])
  refine PlanO.take (v := ?v15) (by kernel_rfl) ?y15 ?r15
  case y15 => (intro wz hz; go_simp; try with_reducible rfl)
  (try simp only [Act.put, List.setIfInBounds_toArray, List.set_cons_zero, List.set_cons_succ])
  refine PlanO.take (v := ?v16) (by kernel_rfl) ?y16 ?r16
  case y16 => (intro wz hz; go_simp; try with_reducible rfl)
  (try simp only [Act.put, List.setIfInBounds_toArray, List.set_cons_zero, List.set_cons_succ])
  refine PlanO.take (v := .bool true) (by kernel_rfl) ?y17 ?r17
  case y17 => (intro wz hz; go_simp)
  (try simp only [Act.put, List.setIfInBounds_toArray, List.set_cons_zero, List.set_cons_succ])
  refine PlanO.take (v := .bool true) (by kernel_rfl) ?y18 ?r18
  case y18 => (intro wz hz; go_simp)
  (try simp only [Act.put, List.setIfInBounds_toArray, List.set_cons_zero, List.set_cons_succ])
  refine PlanO.take (v := ?v19) (by kernel_rfl) ?y19 ?r19
  case y19 => (intro wz hz; go_simp; try with_reducible rfl)
  (try simp only [Act.put, List.setIfInBounds_toArray, List.set_cons_zero, List.set_cons_succ])
  refine PlanO.take (v := ?v20) (by kernel_rfl) ?y20 ?r20
  case y20 => (intro wz hz; go_simp; try with_reducible rfl)
  (try simp only [Act.put, List.setIfInBounds_toArray, List.set_cons_zero, List.set_cons_succ])
  refine PlanO.take (v := ?v21) (by kernel_rfl) ?y21 ?r21
  case y21 => (intro wz hz; go_simp; try with_reducible rfl)
  (try simp only [Act.put, List.setIfInBounds_toArray, List.set_cons_zero, List.set_cons_succ])
  refine PlanO.take (v := .bool true) (by kernel_rfl) ?y22 ?r22
  case y22 => (intro wz hz; cases c <;> go_simp)
  (try simp only [Act.put, List.setIfInBounds_toArray, List.set_cons_zero, List.set_cons_succ])
  refine PlanO.take (v := .bool true) (by kernel_rfl) ?y23 ?r23
  case y23 => (intro wz hz; go_simp)
  (try simp only [Act.put, List.setIfInBounds_toArray, List.set_cons_zero, List.set_cons_succ])
  refine PlanO.take (v := ?v24) (by kernel_rfl) ?y24 ?r24
  case y24 => (intro wz hz; go_simp; try with_reducible rfl)
  (try simp only [Act.put, List.setIfInBounds_toArray, List.set_cons_zero, List.set_cons_succ])
  refine PlanO.take (v := ?v25) (by kernel_rfl) ?y25 ?r25
  case y25 => (intro wz hz; go_simp; try with_reducible rfl)
  (try simp only [Act.put, List.setIfInBounds_toArray, List.set_cons_zero, List.set_cons_succ])
  refine PlanO.take (v := ?v26) (by kernel_rfl) ?y26 ?r26
  case y26 => (intro wz hz; go_simp; try with_reducible rfl)
  (try simp only [Act.put, List.setIfInBounds_toArray, List.set_cons_zero, List.set_cons_succ])
  refine PlanO.exec (fun K hK => ?_)
  go_simp
  go_at_call 13
  refine (same7_any v2 _ _ ls HLS.out (HL1.out.below HE2.out (Nat.le_refl _)) (HL2.out.below HE2.out (Nat.le_refl _))).mono ?_
  rintro e v3 ⟨rfl, hb3⟩
  have HE3 : Hid (Ext w6 v3) := Lib.hid (Ext.trans HE2.out hb3)
  go_wp2_with fail
  refine hK.out _ _ hb3 ?_
  clear hK K
  (try simp only [Act.put, List.setIfInBounds_toArray, List.set_cons_zero, List.set_cons_succ])
  refine PlanO.take (v := .bool true) (by kernel_rfl) ?y28 ?r28
  case y28 => (intro wz hz; go_simp)
  (try simp only [Act.put, List.setIfInBounds_toArray, List.set_cons_zero, List.set_cons_succ])
  refine PlanO.take (v := ?v29) (by kernel_rfl) ?y29 ?r29
  case y29 => (intro wz hz; go_simp; try with_reducible rfl)
  (try simp only [Act.put, List.setIfInBounds_toArray, List.set_cons_zero, List.set_cons_succ])
  refine PlanO.take (v := ?v30) (by kernel_rfl) ?y30 ?r30
  case y30 => (intro wz hz; go_simp; try with_reducible rfl)
  (try simp only [Act.put, List.setIfInBounds_toArray, List.set_cons_zero, List.set_cons_succ])
  refine PlanO.take (v := ?v31) (by kernel_rfl) ?y31 ?r31
  case y31 => (intro wz hz; go_simp; try with_reducible rfl)
  (try simp only [Act.put, List.setIfInBounds_toArray, List.set_cons_zero, List.set_cons_succ])
  refine PlanO.take (v := .bool true) (by kernel_rfl) ?y32 ?r32
  case y32 => (intro wz hz; go_simp)
  (try simp only [Act.put, List.setIfInBounds_toArray, List.set_cons_zero, List.set_cons_succ])
  refine PlanO.take (v := .bool true) (by kernel_rfl) ?y33 ?r33
  case y33 => (intro wz hz; go_simp)
  (try simp only [Act.put, List.setIfInBounds_toArray, List.set_cons_zero, List.set_cons_succ])
  refine PlanO.take (v := ?v34) (by kernel_rfl) ?y34 ?r34
  case y34 => (intro wz hz; go_simp; try with_reducible rfl)
  (try simp only [Act.put, List.setIfInBounds_toArray, List.set_cons_zero, List.set_cons_succ])
  refine PlanO.exec (fun K hK => ?_)
  go_simp
  go_at_call 6
  refine (awake7_any v3).mono ?_
  rintro e v4 ⟨rfl, hb4⟩
  have HE4 : Hid (Ext w6 v4) := Lib.hid (Ext.trans HE3.out hb4)
  go_wp2_with fail
  refine hK.out _ _ hb4 ?_
  clear hK K
  (try simp only [Act.put, List.setIfInBounds_toArray, List.set_cons_zero, List.set_cons_succ])
  refine PlanO.take (v := .bool true) (by kernel_rfl) ?y36 ?r36
  case y36 => (intro wz hz; go_simp)
  (try simp only [Act.put, List.setIfInBounds_toArray, List.set_cons_zero, List.set_cons_succ])
  refine PlanO.take (v := ?v37) (by kernel_rfl) ?y37 ?r37
  case y37 => (intro wz hz; go_simp; try with_reducible rfl)
  (try simp only [Act.put, List.setIfInBounds_toArray, List.set_cons_zero, List.set_cons_succ])
  refine PlanO.done (NoPanic.normal ?_)
  go_wp2
  go_ret
  exact ⟨rfl, HE6.out.trans (HE4.out.mono HE6.out.size)⟩
end Go.Proofs.Ytlhppbogkmljbaa
