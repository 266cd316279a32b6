/-
  The walk of the statement NumAll.
-/
import Derived.Test.YtemlonbcdaboeaaFixedOut
import Derived.Test.YtemlonbcdaboeaaRefText
import Derived.Test.YtemlonbcdaboeaaLift
import Derived.Test.YtemlonbcdaboeaaRegion
namespace Go.Proofs.Ytemlonbcdaboeaa
open Go.ChangeShapes Go.WideShapes Go.ChangeAt Go.RowKit

theorem put_any (n : Int) (hn : -9223372036854775808 ≤ n ∧ n ≤ 9223372036854775807) (w : World) : Calls Try.prog 15 #[.int .i64 n] w (RetB w.heap.size w (putI n)) := by
  by_cases h : n < 0
  · rw [putI, if_pos h]; exact put_neg n h w
  · obtain ⟨m, rfl⟩ := Int.eq_ofNat_of_zero_le (by omega : 0 ≤ n)
    rw [putI_nat]; exact put_nat m hn.2 w

theorem rput_any (n : Int) (hn : -9223372036854775808 ≤ n ∧ n ≤ 9223372036854775807) (w : World) : Calls Try.prog 16 #[.int .i64 n] w (RetB w.heap.size w (putI n)) := by
  by_cases h : n < 0
  · rw [putI, if_pos h]; exact rput_neg n h w
  · obtain ⟨m, rfl⟩ := Int.eq_ofNat_of_zero_le (by omega : 0 ≤ n)
    rw [putI_nat]; exact rput_nat m hn.2 w

/-- The bytes of any number, at any size. -/
def fixI (n size : Int) : List UInt8 := if size < 1 ∨ 8 < size then [] else fixL n size.toNat

theorem fixed_any (n size : Int) (w : World) : Calls Try.prog 19 #[.int .i64 n, .int .i64 size] w (RetB w.heap.size w (fixI n size)) := by
  unfold fixI
  by_cases h : size < 1 ∨ 8 < size
  · rw [if_pos h]; exact fixed_out n size h w
  · rw [if_neg h]
    obtain ⟨m, rfl⟩ := Int.eq_ofNat_of_zero_le (by omega : 0 ≤ size)
    exact fixed_yes n m (by omega) w

theorem rfixed_any (n size : Int) (w : World) : Calls Try.prog 20 #[.int .i64 n, .int .i64 size] w (RetB w.heap.size w (fixI n size)) := by
  unfold fixI
  by_cases h : size < 1 ∨ 8 < size
  · rw [if_pos h]; exact rfixed_out n size h w
  · rw [if_neg h]
    obtain ⟨m, rfl⟩ := Int.eq_ofNat_of_zero_le (by omega : 0 ≤ size)
    exact rfixed_yes n m (by omega) w

theorem getFixed_both (v : Value) (l : List UInt8) (at_ size : Int) (hs : -9223372036854775808 ≤ size ∧ size ≤ 9223372036854775807) (w : World) (hv : RdB w v l) :
    ∃ (x : Int) (b : Bool), Calls Try.prog 13 #[v, .int .i64 at_, .int .i64 size] w (fun e w' => e = .returned (.tuple #[.int .i64 x, .bool b]) ∧ w = w') ∧
      Calls Try.prog 14 #[v, .int .i64 at_, .int .i64 size] w (fun e w' => e = .returned (.tuple #[.int .i64 x, .bool b]) ∧ w = w') := by
  by_cases h : size < 1 ∨ 7 < size ∨ at_ < 0 ∨ (l.length : Int) - size < at_
  · exact ⟨0, false, getFixed_out v l at_ size hs h w hv, rgetFixed_out v l at_ size hs h w hv⟩
  · obtain ⟨s, rfl⟩ := Int.eq_ofNat_of_zero_le (by omega : 0 ≤ size)
    obtain ⟨p, rfl⟩ := Int.eq_ofNat_of_zero_le (by omega : 0 ≤ at_)
    exact ⟨_, true, getFixed_yes v l p s (by omega) (by omega) w hv, rgetFixed_yes v l p s (by omega) (by omega) w hv⟩

theorem ans3_form (o : Option (Nat × Nat)) : ∃ (x y : Int) (z : Bool), ans3 o = .tuple #[.int .i64 x, .int .i64 y, .bool z] := by
  cases o with
  | none => exact ⟨0, 0, false, rfl⟩
  | some x => exact ⟨_, _, true, rfl⟩

theorem ansT_form (o : Option (List UInt8 × Nat)) : ∃ (x : ByteArray) (y : Int) (z : Bool), ansT o = .tuple #[.string x, .int .i64 y, .bool z] := by
  cases o with
  | none => exact ⟨⟨#[]⟩, 0, false, rfl⟩
  | some x => exact ⟨_, _, true, rfl⟩

set_option maxRecDepth 100000 in
theorem numAll_far (n : Int) (s : ByteArray) (v : Value) (l : List UInt8) (at_ size : Int) (W : World) (hv : RdB W v l) (hf : 2000 < s.size ∨ 2000 < l.length) :
    Calls Try.prog 3 #[.int .i64 n, .string s, v, .int .i64 at_, .int .i64 size] W fun e w' => e = .returned (.bool true) ∧ Below W.heap.size W w' := by
  obtain ⟨a2, c2, rfl, _, _⟩ := hv.form
  by_cases g1 : (2000 : Int) < (s.size : Int)
  · go_enter Try.func3, Try.ntmps3
    go_wp2_with fail
    refine (awake_any _).mono ?_
    rintro e w2 ⟨rfl, hb2⟩
    go_wp2
    go_ret
    exact ⟨rfl, hb2⟩
  · have g2 : (2000 : Int) < (l.length : Int) := by omega
    go_enter Try.func3, Try.ntmps3
    go_wp2_with fail
    refine (awake_any _).mono ?_
    rintro e w2 ⟨rfl, hb2⟩
    go_wp2
    go_ret
    exact ⟨rfl, hb2⟩

set_option maxRecDepth 100000 in
set_option linter.unusedSimpArgs false in
set_option maxHeartbeats 3200000 in
theorem numAll_near (n : Int) (s : ByteArray) (v : Value) (l : List UInt8) (at_ size : Int) (W : World) (hn : -9223372036854775808 ≤ n ∧ n ≤ 9223372036854775807) (hs : -9223372036854775808 ≤ size ∧ size ≤ 9223372036854775807)
    (hv : RdB W v l) (g1 : ¬ (2000 : Int) < (s.size : Int)) (g2 : ¬ (2000 : Int) < (l.length : Int)) :
    Calls Try.prog 3 #[.int .i64 n, .string s, v, .int .i64 at_, .int .i64 size] W fun e w' => e = .returned (.bool true) ∧ Below W.heap.size W w' := by
  have c1 := get_any v l at_ W hv
  have c2 := rget_any v l at_ W hv
  obtain ⟨x, next, ok, hx⟩ := ans3_form (getAt l at_)
  rw [hx] at c1 c2
  have c3 := getText_any v l at_ W hv
  have c4 := rgetText_any v l at_ W hv
  obtain ⟨t, en, may, ht⟩ := ansT_form (textAt l at_)
  rw [ht] at c3 c4
  obtain ⟨f, has, c5, c6⟩ := getFixed_both v l at_ size hs W hv
  obtain ⟨a2, cp, rfl, _, hm⟩ := hv.form
  unfold maxLen at hm
  have C1 := Lib.hid c1
  have C2 := Lib.hid c2
  have C3 := Lib.hid c3
  have C4 := Lib.hid c4
  have C5 := Lib.hid c5
  have C6 := Lib.hid c6
  clear c1 c2 c3 c4 c5 c6 hx ht
  go_enter Try.func3, Try.ntmps3
  go_wp2_with fail
  refine C1.out.mono ?_
  rintro e w2 ⟨rfl, rfl⟩
  go_wp2_with fail
  refine C2.out.mono ?_
  rintro e w2 ⟨rfl, rfl⟩
  go_wp2_with fail
  refine C3.out.mono ?_
  rintro e w2 ⟨rfl, rfl⟩
  go_wp2_with fail
  refine C4.out.mono ?_
  rintro e w2 ⟨rfl, rfl⟩
  go_wp2_with fail
  refine C5.out.mono ?_
  rintro e w2 ⟨rfl, rfl⟩
  go_wp2_with fail
  refine C6.out.mono ?_
  rintro e w2 ⟨rfl, rfl⟩
  clear C1 C2 C3 C4 C5 C6 hv
  go_wp2_with fail
  refine wp_region_plan [(true, 0), (true, 3), (false, 1), (true, 2), (false, 4), (true, 5), (true, 6), (true, 7), (true, 8), (true, 9), (true, 10), (true, 11), (true, 12), (true, 13), (true, 14), (true, 15), (true, 16), (true, 17), (true, 18), (true, 19), (true, 20), (true, 21), (true, 22), (true, 23), (true, 26), (false, 24), (true, 25), (false, 27), (true, 28), (true, 29), (true, 30), (true, 31), (true, 32), (true, 33), (true, 34), (true, 35), (true, 36), (true, 37), (true, 38), (true, 39), (true, 40), (true, 41), (true, 42), (true, 43), (true, 44), (true, 45), (true, 46), (true, 47), (true, 48), (true, 51), (true, 52), (false, 49), (true, 50), (false, 53), (true, 54), (true, 55), (true, 56), (true, 57), (true, 58), (true, 59), (true, 60), (true, 61), (true, 62), (true, 63), (true, 64), (true, 65), (true, 66), (true, 67), (false, 68), (true, 69), (true, 70)] (by kernel_rfl) (by kernel_rfl) (by kernel_rfl) (by kernel_rfl) (by kernel_rfl) ?_
  simp only [planO, List.drop_succ_cons, List.drop_zero]
  refine PlanO.take (v := ?v0) (by kernel_rfl) ?y0 ?r0
  case y0 => (intro wz hz; go_simp; try with_reducible rfl)
  (try simp only [Act.put, List.setIfInBounds_toArray, List.set_cons_zero, List.set_cons_succ])
  refine PlanO.take (v := ?v3) (by kernel_rfl) ?y3 ?r3
  case y3 => (intro wz hz; go_simp; try with_reducible rfl)
  (try simp only [Act.put, List.setIfInBounds_toArray, List.set_cons_zero, List.set_cons_succ])
  refine PlanO.exec (fun K hK => ?_)
  go_simp
  go_at_call 15
  refine (put_any n hn _).mono ?_
  rintro e u1 ⟨p1, rfl, ho1, hb1⟩
  have hr1 := ho1.read
  clear ho1
  have hE1 : Ext W.drew u1 := hb1
  go_wp2_with fail
  refine hK.out _ _ hb1 ?_
  clear hK K
  (try simp only [Act.put, List.setIfInBounds_toArray, List.set_cons_zero, List.set_cons_succ])
  refine PlanO.take (v := ?v2) (by kernel_rfl) ?y2 ?r2
  case y2 => (intro wz hz; have hcv := rdB_convert (P := Try.prog) (hr1.below hz (Nat.le_refl _)) 22 5 9 Try.underlying22 Try.underlying5 Try.underlying9; go_simp; try with_reducible rfl)
  (try simp only [Act.put, List.setIfInBounds_toArray, List.set_cons_zero, List.set_cons_succ])
  refine PlanO.exec (fun K hK => ?_)
  go_simp
  go_at_call 16
  refine (rput_any n hn _).mono ?_
  rintro e u2 ⟨p2, rfl, ho2, hb2⟩
  have hr2 := ho2.read
  clear ho2
  have hE2 : Ext W.drew u2 := Ext.trans hE1 hb2
  go_wp2_with fail
  refine hK.out _ _ hb2 ?_
  clear hK K
  (try simp only [Act.put, List.setIfInBounds_toArray, List.set_cons_zero, List.set_cons_succ])
  refine PlanO.take (v := ?v5) (by kernel_rfl) ?y5 ?r5
  case y5 => (intro wz hz; have hcv := rdB_convert (P := Try.prog) (hr2.below hz (Nat.le_refl _)) 22 5 9 Try.underlying22 Try.underlying5 Try.underlying9; go_simp; try with_reducible rfl)
  (try simp only [Act.put, List.setIfInBounds_toArray, List.set_cons_zero, List.set_cons_succ])
  refine PlanO.take (v := ?v6) (by kernel_rfl) ?y6 ?r6
  case y6 => (intro wz hz; go_simp; try with_reducible rfl)
  (try simp only [Act.put, List.setIfInBounds_toArray, List.set_cons_zero, List.set_cons_succ])
  refine PlanO.take (v := ?v7) (by kernel_rfl) ?y7 ?r7
  case y7 => (intro wz hz; go_simp; try with_reducible rfl)
  (try simp only [Act.put, List.setIfInBounds_toArray, List.set_cons_zero, List.set_cons_succ])
  refine PlanO.take (v := ?v8) (by kernel_rfl) ?y8 ?r8
  case y8 => (intro wz hz; go_simp; try with_reducible rfl)
  (try simp only [Act.put, List.setIfInBounds_toArray, List.set_cons_zero, List.set_cons_succ])
  refine PlanO.take (v := ?v9) (by kernel_rfl) ?y9 ?r9
  case y9 => (intro wz hz; go_simp; try with_reducible rfl)
  (try simp only [Act.put, List.setIfInBounds_toArray, List.set_cons_zero, List.set_cons_succ])
  refine PlanO.take (v := ?v10) (by kernel_rfl) ?y10 ?r10
  case y10 => (intro wz hz; go_simp; try with_reducible rfl)
  (try simp only [Act.put, List.setIfInBounds_toArray, List.set_cons_zero, List.set_cons_succ])
  refine PlanO.take (v := ?v11) (by kernel_rfl) ?y11 ?r11
  case y11 => (intro wz hz; go_simp; try with_reducible rfl)
  (try simp only [Act.put, List.setIfInBounds_toArray, List.set_cons_zero, List.set_cons_succ])
  refine PlanO.take (v := ?v12) (by kernel_rfl) ?y12 ?r12
  case y12 => (intro wz hz; go_simp; try with_reducible rfl)
  (try simp only [Act.put, List.setIfInBounds_toArray, List.set_cons_zero, List.set_cons_succ])
  refine PlanO.take (v := ?v13) (by kernel_rfl) ?y13 ?r13
  case y13 => (intro wz hz; go_simp; try with_reducible rfl)
  (try simp only [Act.put, List.setIfInBounds_toArray, List.set_cons_zero, List.set_cons_succ])
  refine PlanO.take (v := ?v14) (by kernel_rfl) ?y14 ?r14
  case y14 => (intro wz hz; go_simp; try with_reducible rfl)
  (try simp only [Act.put, List.setIfInBounds_toArray, List.set_cons_zero, List.set_cons_succ])
  refine PlanO.take (v := ?v15) (by kernel_rfl) ?y15 ?r15
  case y15 => (intro wz hz; go_simp; try with_reducible rfl)
  (try simp only [Act.put, List.setIfInBounds_toArray, List.set_cons_zero, List.set_cons_succ])
  refine PlanO.take (v := ?v16) (by kernel_rfl) ?y16 ?r16
  case y16 => (intro wz hz; go_simp; try with_reducible rfl)
  (try simp only [Act.put, List.setIfInBounds_toArray, List.set_cons_zero, List.set_cons_succ])
  refine PlanO.take (v := ?v17) (by kernel_rfl) ?y17 ?r17
  case y17 => (intro wz hz; go_simp; try with_reducible rfl)
  (try simp only [Act.put, List.setIfInBounds_toArray, List.set_cons_zero, List.set_cons_succ])
  refine PlanO.take (v := ?v18) (by kernel_rfl) ?y18 ?r18
  case y18 => (intro wz hz; go_simp; try with_reducible rfl)
  (try simp only [Act.put, List.setIfInBounds_toArray, List.set_cons_zero, List.set_cons_succ])
  refine PlanO.take (v := ?v19) (by kernel_rfl) ?y19 ?r19
  case y19 => (intro wz hz; go_simp; try with_reducible rfl)
  (try simp only [Act.put, List.setIfInBounds_toArray, List.set_cons_zero, List.set_cons_succ])
  refine PlanO.take (v := ?v20) (by kernel_rfl) ?y20 ?r20
  case y20 => (intro wz hz; go_simp; try with_reducible rfl)
  (try simp only [Act.put, List.setIfInBounds_toArray, List.set_cons_zero, List.set_cons_succ])
  refine PlanO.take (v := ?v21) (by kernel_rfl) ?y21 ?r21
  case y21 => (intro wz hz; go_simp; try with_reducible rfl)
  (try simp only [Act.put, List.setIfInBounds_toArray, List.set_cons_zero, List.set_cons_succ])
  refine PlanO.take (v := ?v22) (by kernel_rfl) ?y22 ?r22
  case y22 => (intro wz hz; go_simp; try with_reducible rfl)
  (try simp only [Act.put, List.setIfInBounds_toArray, List.set_cons_zero, List.set_cons_succ])
  refine PlanO.take (v := ?v23) (by kernel_rfl) ?y23 ?r23
  case y23 => (intro wz hz; go_simp; try with_reducible rfl)
  (try simp only [Act.put, List.setIfInBounds_toArray, List.set_cons_zero, List.set_cons_succ])
  refine PlanO.take (v := ?v26) (by kernel_rfl) ?y26 ?r26
  case y26 => (intro wz hz; go_simp; try with_reducible rfl)
  (try simp only [Act.put, List.setIfInBounds_toArray, List.set_cons_zero, List.set_cons_succ])
  refine PlanO.exec (fun K hK => ?_)
  go_simp
  go_at_call 17
  refine (putText_any s (by omega) _).mono ?_
  rintro e u3 ⟨p3, rfl, ho3, hb3⟩
  have hr3 := ho3.read
  clear ho3
  have hE3 : Ext W.drew u3 := Ext.trans hE2 hb3
  go_wp2_with fail
  refine hK.out _ _ hb3 ?_
  clear hK K
  (try simp only [Act.put, List.setIfInBounds_toArray, List.set_cons_zero, List.set_cons_succ])
  refine PlanO.take (v := ?v25) (by kernel_rfl) ?y25 ?r25
  case y25 => (intro wz hz; have hcv := rdB_convert (P := Try.prog) (hr3.below hz (Nat.le_refl _)) 22 5 9 Try.underlying22 Try.underlying5 Try.underlying9; go_simp; try with_reducible rfl)
  (try simp only [Act.put, List.setIfInBounds_toArray, List.set_cons_zero, List.set_cons_succ])
  refine PlanO.exec (fun K hK => ?_)
  go_simp
  go_at_call 18
  refine (rputText_any s (by omega) _).mono ?_
  rintro e u4 ⟨p4, rfl, ho4, hb4⟩
  have hr4 := ho4.read
  clear ho4
  have hE4 : Ext W.drew u4 := Ext.trans hE3 hb4
  go_wp2_with fail
  refine hK.out _ _ hb4 ?_
  clear hK K
  (try simp only [Act.put, List.setIfInBounds_toArray, List.set_cons_zero, List.set_cons_succ])
  refine PlanO.take (v := ?v28) (by kernel_rfl) ?y28 ?r28
  case y28 => (intro wz hz; have hcv := rdB_convert (P := Try.prog) (hr4.below hz (Nat.le_refl _)) 22 5 9 Try.underlying22 Try.underlying5 Try.underlying9; go_simp; try with_reducible rfl)
  (try simp only [Act.put, List.setIfInBounds_toArray, List.set_cons_zero, List.set_cons_succ])
  refine PlanO.take (v := ?v29) (by kernel_rfl) ?y29 ?r29
  case y29 => (intro wz hz; go_simp; try with_reducible rfl)
  (try simp only [Act.put, List.setIfInBounds_toArray, List.set_cons_zero, List.set_cons_succ])
  refine PlanO.take (v := ?v30) (by kernel_rfl) ?y30 ?r30
  case y30 => (intro wz hz; go_simp; try with_reducible rfl)
  (try simp only [Act.put, List.setIfInBounds_toArray, List.set_cons_zero, List.set_cons_succ])
  refine PlanO.take (v := ?v31) (by kernel_rfl) ?y31 ?r31
  case y31 => (intro wz hz; go_simp; try with_reducible rfl)
  (try simp only [Act.put, List.setIfInBounds_toArray, List.set_cons_zero, List.set_cons_succ])
  refine PlanO.take (v := ?v32) (by kernel_rfl) ?y32 ?r32
  case y32 => (intro wz hz; go_simp; try with_reducible rfl)
  (try simp only [Act.put, List.setIfInBounds_toArray, List.set_cons_zero, List.set_cons_succ])
  refine PlanO.take (v := ?v33) (by kernel_rfl) ?y33 ?r33
  case y33 => (intro wz hz; go_simp; try with_reducible rfl)
  (try simp only [Act.put, List.setIfInBounds_toArray, List.set_cons_zero, List.set_cons_succ])
  refine PlanO.take (v := ?v34) (by kernel_rfl) ?y34 ?r34
  case y34 => (intro wz hz; go_simp; try with_reducible rfl)
  (try simp only [Act.put, List.setIfInBounds_toArray, List.set_cons_zero, List.set_cons_succ])
  refine PlanO.take (v := ?v35) (by kernel_rfl) ?y35 ?r35
  case y35 => (intro wz hz; go_simp; try with_reducible rfl)
  (try simp only [Act.put, List.setIfInBounds_toArray, List.set_cons_zero, List.set_cons_succ])
  refine PlanO.take (v := ?v36) (by kernel_rfl) ?y36 ?r36
  case y36 => (intro wz hz; go_simp; try with_reducible rfl)
  (try simp only [Act.put, List.setIfInBounds_toArray, List.set_cons_zero, List.set_cons_succ])
  refine PlanO.take (v := ?v37) (by kernel_rfl) ?y37 ?r37
  case y37 => (intro wz hz; go_simp; try with_reducible rfl)
  (try simp only [Act.put, List.setIfInBounds_toArray, List.set_cons_zero, List.set_cons_succ])
  refine PlanO.take (v := ?v38) (by kernel_rfl) ?y38 ?r38
  case y38 => (intro wz hz; go_simp; try with_reducible rfl)
  (try simp only [Act.put, List.setIfInBounds_toArray, List.set_cons_zero, List.set_cons_succ])
  refine PlanO.take (v := ?v39) (by kernel_rfl) ?y39 ?r39
  case y39 => (intro wz hz; go_simp; try with_reducible rfl)
  (try simp only [Act.put, List.setIfInBounds_toArray, List.set_cons_zero, List.set_cons_succ])
  refine PlanO.take (v := ?v40) (by kernel_rfl) ?y40 ?r40
  case y40 => (intro wz hz; go_simp; try with_reducible rfl)
  (try simp only [Act.put, List.setIfInBounds_toArray, List.set_cons_zero, List.set_cons_succ])
  refine PlanO.take (v := ?v41) (by kernel_rfl) ?y41 ?r41
  case y41 => (intro wz hz; go_simp; try with_reducible rfl)
  (try simp only [Act.put, List.setIfInBounds_toArray, List.set_cons_zero, List.set_cons_succ])
  refine PlanO.take (v := ?v42) (by kernel_rfl) ?y42 ?r42
  case y42 => (intro wz hz; go_simp; try with_reducible rfl)
  (try simp only [Act.put, List.setIfInBounds_toArray, List.set_cons_zero, List.set_cons_succ])
  refine PlanO.take (v := ?v43) (by kernel_rfl) ?y43 ?r43
  case y43 => (intro wz hz; go_simp; try with_reducible rfl)
  (try simp only [Act.put, List.setIfInBounds_toArray, List.set_cons_zero, List.set_cons_succ])
  refine PlanO.take (v := ?v44) (by kernel_rfl) ?y44 ?r44
  case y44 => (intro wz hz; go_simp; try with_reducible rfl)
  (try simp only [Act.put, List.setIfInBounds_toArray, List.set_cons_zero, List.set_cons_succ])
  refine PlanO.take (v := ?v45) (by kernel_rfl) ?y45 ?r45
  case y45 => (intro wz hz; go_simp; try with_reducible rfl)
  (try simp only [Act.put, List.setIfInBounds_toArray, List.set_cons_zero, List.set_cons_succ])
  refine PlanO.take (v := ?v46) (by kernel_rfl) ?y46 ?r46
  case y46 => (intro wz hz; go_simp; try with_reducible rfl)
  (try simp only [Act.put, List.setIfInBounds_toArray, List.set_cons_zero, List.set_cons_succ])
  refine PlanO.take (v := ?v47) (by kernel_rfl) ?y47 ?r47
  case y47 => (intro wz hz; go_simp; try with_reducible rfl)
  (try simp only [Act.put, List.setIfInBounds_toArray, List.set_cons_zero, List.set_cons_succ])
  refine PlanO.take (v := ?v48) (by kernel_rfl) ?y48 ?r48
  case y48 => (intro wz hz; go_simp; try with_reducible rfl)
  (try simp only [Act.put, List.setIfInBounds_toArray, List.set_cons_zero, List.set_cons_succ])
  refine PlanO.take (v := ?v51) (by kernel_rfl) ?y51 ?r51
  case y51 => (intro wz hz; go_simp; try with_reducible rfl)
  (try simp only [Act.put, List.setIfInBounds_toArray, List.set_cons_zero, List.set_cons_succ])
  refine PlanO.take (v := ?v52) (by kernel_rfl) ?y52 ?r52
  case y52 => (intro wz hz; go_simp; try with_reducible rfl)
  (try simp only [Act.put, List.setIfInBounds_toArray, List.set_cons_zero, List.set_cons_succ])
  refine PlanO.exec (fun K hK => ?_)
  go_simp
  go_at_call 19
  refine (fixed_any n size _).mono ?_
  rintro e u5 ⟨p5, rfl, ho5, hb5⟩
  have hr5 := ho5.read
  clear ho5
  have hE5 : Ext W.drew u5 := Ext.trans hE4 hb5
  go_wp2_with fail
  refine hK.out _ _ hb5 ?_
  clear hK K
  (try simp only [Act.put, List.setIfInBounds_toArray, List.set_cons_zero, List.set_cons_succ])
  refine PlanO.take (v := ?v50) (by kernel_rfl) ?y50 ?r50
  case y50 => (intro wz hz; have hcv := rdB_convert (P := Try.prog) (hr5.below hz (Nat.le_refl _)) 22 5 9 Try.underlying22 Try.underlying5 Try.underlying9; go_simp; try with_reducible rfl)
  (try simp only [Act.put, List.setIfInBounds_toArray, List.set_cons_zero, List.set_cons_succ])
  refine PlanO.exec (fun K hK => ?_)
  go_simp
  go_at_call 20
  refine (rfixed_any n size _).mono ?_
  rintro e u6 ⟨p6, rfl, ho6, hb6⟩
  have hr6 := ho6.read
  clear ho6
  have hE6 : Ext W.drew u6 := Ext.trans hE5 hb6
  go_wp2_with fail
  refine hK.out _ _ hb6 ?_
  clear hK K
  (try simp only [Act.put, List.setIfInBounds_toArray, List.set_cons_zero, List.set_cons_succ])
  refine PlanO.take (v := ?v54) (by kernel_rfl) ?y54 ?r54
  case y54 => (intro wz hz; have hcv := rdB_convert (P := Try.prog) (hr6.below hz (Nat.le_refl _)) 22 5 9 Try.underlying22 Try.underlying5 Try.underlying9; go_simp; try with_reducible rfl)
  (try simp only [Act.put, List.setIfInBounds_toArray, List.set_cons_zero, List.set_cons_succ])
  refine PlanO.take (v := ?v55) (by kernel_rfl) ?y55 ?r55
  case y55 => (intro wz hz; go_simp; try with_reducible rfl)
  (try simp only [Act.put, List.setIfInBounds_toArray, List.set_cons_zero, List.set_cons_succ])
  refine PlanO.take (v := ?v56) (by kernel_rfl) ?y56 ?r56
  case y56 => (intro wz hz; go_simp; try with_reducible rfl)
  (try simp only [Act.put, List.setIfInBounds_toArray, List.set_cons_zero, List.set_cons_succ])
  refine PlanO.take (v := ?v57) (by kernel_rfl) ?y57 ?r57
  case y57 => (intro wz hz; go_simp; try with_reducible rfl)
  (try simp only [Act.put, List.setIfInBounds_toArray, List.set_cons_zero, List.set_cons_succ])
  refine PlanO.take (v := ?v58) (by kernel_rfl) ?y58 ?r58
  case y58 => (intro wz hz; go_simp; try with_reducible rfl)
  (try simp only [Act.put, List.setIfInBounds_toArray, List.set_cons_zero, List.set_cons_succ])
  refine PlanO.take (v := ?v59) (by kernel_rfl) ?y59 ?r59
  case y59 => (intro wz hz; go_simp; try with_reducible rfl)
  (try simp only [Act.put, List.setIfInBounds_toArray, List.set_cons_zero, List.set_cons_succ])
  refine PlanO.take (v := ?v60) (by kernel_rfl) ?y60 ?r60
  case y60 => (intro wz hz; go_simp; try with_reducible rfl)
  (try simp only [Act.put, List.setIfInBounds_toArray, List.set_cons_zero, List.set_cons_succ])
  refine PlanO.take (v := ?v61) (by kernel_rfl) ?y61 ?r61
  case y61 => (intro wz hz; go_simp; try with_reducible rfl)
  (try simp only [Act.put, List.setIfInBounds_toArray, List.set_cons_zero, List.set_cons_succ])
  refine PlanO.take (v := ?v62) (by kernel_rfl) ?y62 ?r62
  case y62 => (intro wz hz; go_simp; try with_reducible rfl)
  (try simp only [Act.put, List.setIfInBounds_toArray, List.set_cons_zero, List.set_cons_succ])
  refine PlanO.take (v := ?v63) (by kernel_rfl) ?y63 ?r63
  case y63 => (intro wz hz; go_simp; try with_reducible rfl)
  (try simp only [Act.put, List.setIfInBounds_toArray, List.set_cons_zero, List.set_cons_succ])
  refine PlanO.take (v := ?v64) (by kernel_rfl) ?y64 ?r64
  case y64 => (intro wz hz; go_simp; try with_reducible rfl)
  (try simp only [Act.put, List.setIfInBounds_toArray, List.set_cons_zero, List.set_cons_succ])
  refine PlanO.take (v := ?v65) (by kernel_rfl) ?y65 ?r65
  case y65 => (intro wz hz; go_simp; try with_reducible rfl)
  (try simp only [Act.put, List.setIfInBounds_toArray, List.set_cons_zero, List.set_cons_succ])
  refine PlanO.take (v := ?v66) (by kernel_rfl) ?y66 ?r66
  case y66 => (intro wz hz; go_simp; try with_reducible rfl)
  (try simp only [Act.put, List.setIfInBounds_toArray, List.set_cons_zero, List.set_cons_succ])
  refine PlanO.take (v := ?v67) (by kernel_rfl) ?y67 ?r67
  case y67 => (intro wz hz; go_simp; try with_reducible rfl)
  (try simp only [Act.put, List.setIfInBounds_toArray, List.set_cons_zero, List.set_cons_succ])
  refine PlanO.exec (fun K hK => ?_)
  go_simp
  go_at_call 8
  refine (awake_any _).mono ?_
  rintro e u7 ⟨rfl, hb7⟩
  go_wp2_with fail
  refine hK.out _ _ hb7 ?_
  clear hK K
  (try simp only [Act.put, List.setIfInBounds_toArray, List.set_cons_zero, List.set_cons_succ])
  refine PlanO.take (v := ?v69) (by kernel_rfl) ?y69 ?r69
  case y69 => (intro wz hz; go_simp; try with_reducible rfl)
  (try simp only [Act.put, List.setIfInBounds_toArray, List.set_cons_zero, List.set_cons_succ])
  refine PlanO.take (v := ?v70) (by kernel_rfl) ?y70 ?r70
  case y70 => (intro wz hz; go_simp; try with_reducible rfl)
  (try simp only [Act.put, List.setIfInBounds_toArray, List.set_cons_zero, List.set_cons_succ])
  refine PlanO.done (NoPanic.normal ?_)
  go_wp2
  go_ret
  exact ⟨rfl, below_draw (Ext.trans hE6 hb7)⟩

theorem numAll_walk (n : Int) (s : ByteArray) (v : Value) (l : List UInt8) (at_ size : Int) (W : World) (hn : (Lit.int .i64 n).wf = true) (_hs : s.size ≤ maxLen) (hv : RdB W v l) (_ha : (Lit.int .i64 at_).wf = true) (hz : (Lit.int .i64 size).wf = true) :
    Calls Try.prog 3 #[.int .i64 n, .string s, v, .int .i64 at_, .int .i64 size] W fun e w' => e = .returned (.bool true) ∧ Below W.heap.size W w' := by
  by_cases hf : 2000 < s.size ∨ 2000 < l.length
  · exact numAll_far n s v l at_ size W hv hf
  · exact numAll_near n s v l at_ size W (bounds_i64 hn) (bounds_i64 hz) hv (by omega) (by omega)
end Go.Proofs.Ytemlonbcdaboeaa
