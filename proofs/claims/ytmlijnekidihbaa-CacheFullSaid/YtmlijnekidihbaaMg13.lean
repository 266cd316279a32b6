import Derived.Test.YtmlijnekidihbaaMg05
import Derived.OpenShut

/-
  The walk of CacheFull.
-/
namespace Go.Proofs.Ytmlijnekidihbaa
open Go.RowKit

set_option maxRecDepth 100000 in
set_option maxHeartbeats 1000000 in
theorem cacheFull_walkC {Dk : (CKey → List UInt8 → Prop) → Bool → Nat → (Nat → Prop) → World → Nat → Prop} {Ca : (CKey → List UInt8 → Prop) → Nat → Bool → Nat → (Nat → Prop) → World → Nat → Nat → List (CKey × List UInt8) → Prop} (hi : CacheC Dk Ca) (a0 : Int) (v1 : Value) (ns : List UInt8) (a2 : Int) (W : World) (wa0 : (Lit.int .u16 a0).wf = true) (w1 : RdB W v1 ns) (wa2 : (Lit.int .u8 a2).wf = true) :
    Calls Try.prog 6 #[.int .u16 a0, v1, .int .u8 a2] W fun r w' => r = .returned (.bool true) ∧ Below W.heap.size W w' := by
  have HAW := Lib.hid (awake16_any hi)
  have HI := Lib.hid hi
  have n0 := bounds_u16 wa0
  obtain ⟨rm, rfl⟩ : ∃ n : Nat, a0 = (n : Int) := ⟨a0.toNat, by omega⟩
  have n2 := bounds_u8 wa2
  obtain ⟨cr, rfl⟩ : ∃ n : Nat, a2 = (n : Int) := ⟨a2.toNat, by omega⟩
  clear wa0 wa2
  obtain ⟨va, vc, rfl, hc1, hc2⟩ := w1.form
  unfold maxLen at hc2
  have HV0 := Lib.hid w1
  clear w1 hi
  by_cases c1 : 40 < ns.length
  · have d1 : 40 < (ns.length : Int) := by omega
    go_enter Try.func6, Try.ntmps6
    go_wp2_with (go_at_call 8; (refine (HAW.out _).mono ?_); rintro e w9 ⟨rfl, hb9⟩; have HB9 := Lib.hid hb9; clear hb9)
    go_ret
    exact ⟨rfl, HB9.out⟩
  · have d1 : ¬ 40 < (ns.length : Int) := by omega
    obtain ⟨ro, hro⟩ : ∃ ro, rm % 3000 = ro := ⟨_, rfl⟩
    obtain ⟨cs, hcs⟩ : ∃ cs, cr % 30 = cs := ⟨_, rfl⟩
    have r1 : (rm : Int).tmod 3000 = (ro : Int) := by rw [Int.tmod_eq_emod_of_nonneg (by omega)]; omega
    have r2 : (rm : Int) % 3000 = (ro : Int) := by omega
    have r3 : (cr : Int).tmod 30 = (cs : Int) := by rw [Int.tmod_eq_emod_of_nonneg (by omega)]; omega
    have r4 : (cr : Int) % 30 = (cs : Int) := by omega
    have HN := Lib.hid (caw_new HI.out dataD (Below.refl W.heap.size W) (ro : Int) (cs : Int) 0 false (.slice none 0 0) (by omega) (by omega) (by omega) false (by rw [decide_eq_false (show ¬ (ro : Int) = 1048576 by omega), Bool.and_false]))
    go_enter Try.func6, Try.ntmps6
    go_wp2_with (first | (go_at_call 10; (refine HN.out.mono ?_); rintro e w1 ⟨p, rfl, hd⟩; have HD := Lib.hid (caw_fresh HI.out hd 6 (by decide)); clear hd) | (go_at_call 9; (refine HD.out.mono ?_); rintro e w2 ⟨q, rfl, hc⟩; have HC := Lib.hid (show CaW Ca dataD 6 false 1 W w2 q p [] from hc); clear hc))
    go_loopw [9] (fun x9 wr => ∃ (i k : Nat) (T : List (CKey × List UInt8)), i ≤ ns.length + 1 ∧ k ≤ 1 + i ∧ x9 = .int .i64 (i : Int) ∧ Hid (CaW Ca dataD 6 false k W wr q p T)) (fun x9 _ => ns.length + 1 - (intOf x9).toNat)
    case atStart => exact ⟨0, 1, [], Nat.zero_le _, Nat.le_refl _, rfl, HC⟩
    case round =>
      clear HC HN
      obtain ⟨i, k, T, hin, hki, rfl, HCW⟩ := hrel
      by_cases hlt : i + 1 < ns.length
      · obtain ⟨bb, off, cap', hvv, _, _, hbw, hcell⟩ := HV0.out.cells (by intro h; rw [h] at hlt; simp at hlt)
        cases hvv
        have z0 : wr.drew.cell? ⟨bb, off + i, none⟩ = _ := (HCW.out.below.cell (p := ⟨bb, off + i, none⟩) hbw).trans (hcell i (by omega))
        obtain ⟨i1, hi1⟩ : ∃ i1, i + 1 = i1 := ⟨_, rfl⟩
        rw [hi1] at hlt
        have z1 : wr.drew.cell? ⟨bb, off + i1, none⟩ = _ := (HCW.out.below.cell (p := ⟨bb, off + i1, none⟩) hbw).trans (hcell i1 hlt)
        have hbl : bb < wr.drew.heap.size := Nat.lt_of_lt_of_le hbw HCW.out.below.size
        have hx := byte_le (ns.getD i 0)
        have hy := byte_le (ns.getD i1 0)
        unfold bv at z0 z1
        generalize (ns.getD i 0).toNat = x at *
        generalize (ns.getD i1 0).toNat = y at *
        obtain ⟨a, hxa⟩ : ∃ a, x % 6 = a := ⟨_, rfl⟩
        obtain ⟨c, hyc⟩ : ∃ c, y % 4 = c := ⟨_, rfl⟩
        have ha6 : a < 6 := by omega
        have hc4 : c < 4 := by omega
        have m1 : (x : Int).tmod 6 = (a : Int) := by rw [Int.tmod_eq_emod_of_nonneg (by omega)]; omega
        have m2 : (x : Int) % 6 = (a : Int) := by omega
        have m3 : (y : Int).tmod 4 = (c : Int) := by rw [Int.tmod_eq_emod_of_nonneg (by omega)]; omega
        have m4 : (y : Int) % 4 = (c : Int) := by omega
        have w1 : IntKind.u8.wrap (a : Int) = (a : Int) := by rw [IntKind.wrap_u8]; omega
        have w2 : IntKind.i64.wrap (c : Int) = (c : Int) := IntWalk.i64_in _ (by omega)
        have w3 : IntKind.i64.wrap (i1 : Int) = (i1 : Int) := IntWalk.i64_in _ (by omega)
        have w4 : IntKind.i64.wrap (y : Int) = (y : Int) := IntWalk.i64_in _ (by omega)
        have a6 : a % 6 = a := by omega
        have hi1z : (i : Int) + 1 = (i1 : Int) := by omega
        have hlz : (i1 : Int) < (ns.length : Int) := by omega
        have HI1 := Lib.hid hi1
        clear hi1
        have hlz2 : (i : Int) < (ns.length : Int) := by omega
        have HNM := Lib.hid (fun w => name_any a (by omega) w)
        rw [a6] at HNM
        have HDT := Lib.hid (data_any a c (by omega) (by omega))
        go_wp2
        have hcd := HCW.out.then_ HI.out ((Below.refl _ _).drew)
        have HCD := Lib.hid hcd
        clear hcd HCW
        refine wp_region_plan [(true, 0), (true, 1), (true, 2), (true, 3), (true, 4), (true, 5), (true, 6), (true, 7), (true, 8), (true, 9), (true, 10), (true, 11), (true, 12), (true, 13)] (by kernel_rfl) (by kernel_rfl) (by kernel_rfl) (by kernel_rfl) (by kernel_rfl) ?_
        simp only [planO, List.drop_succ_cons, List.drop_zero]
        refine PlanO.take (v := ?vA0) (by kernel_rfl) ?yA0 ?rA0
        case yA0 => (intro wz hz; go_simp; try with_reducible rfl)
        (try simp only [Act.put, List.setIfInBounds_toArray, List.set_cons_zero, List.set_cons_succ])
        refine PlanO.take (v := ?vA1) (by kernel_rfl) ?yA1 ?rA1
        case yA1 => (intro wz hz; go_simp; try with_reducible rfl)
        (try simp only [Act.put, List.setIfInBounds_toArray, List.set_cons_zero, List.set_cons_succ])
        refine PlanO.take (v := ?vA2) (by kernel_rfl) ?yA2 ?rA2
        case yA2 => (intro wz hz; go_simp; try with_reducible rfl)
        (try simp only [Act.put, List.setIfInBounds_toArray, List.set_cons_zero, List.set_cons_succ])
        refine PlanO.take (v := ?vA3) (by kernel_rfl) ?yA3 ?rA3
        case yA3 => (intro wz hz; have c0 := (hz.cell (p := ⟨bb, off + i, none⟩) hbl).trans z0; go_simp; try with_reducible rfl)
        (try simp only [Act.put, List.setIfInBounds_toArray, List.set_cons_zero, List.set_cons_succ])
        refine PlanO.take (v := ?vA4) (by kernel_rfl) ?yA4 ?rA4
        case yA4 => (intro wz hz; go_simp; try with_reducible rfl)
        (try simp only [Act.put, List.setIfInBounds_toArray, List.set_cons_zero, List.set_cons_succ])
        refine PlanO.take (v := ?vA5) (by kernel_rfl) ?yA5 ?rA5
        case yA5 => (intro wz hz; go_simp; try with_reducible rfl)
        (try simp only [Act.put, List.setIfInBounds_toArray, List.set_cons_zero, List.set_cons_succ])
        refine PlanO.take (v := ?vA6) (by kernel_rfl) ?yA6 ?rA6
        case yA6 => (intro wz hz; go_simp; try with_reducible rfl)
        (try simp only [Act.put, List.setIfInBounds_toArray, List.set_cons_zero, List.set_cons_succ])
        refine PlanO.take (v := ?vA7) (by kernel_rfl) ?yA7 ?rA7
        case yA7 => (intro wz hz; go_simp; try with_reducible rfl)
        (try simp only [Act.put, List.setIfInBounds_toArray, List.set_cons_zero, List.set_cons_succ])
        refine PlanO.take (v := ?vA8) (by kernel_rfl) ?yA8 ?rA8
        case yA8 => (intro wz hz; go_simp; try with_reducible rfl)
        (try simp only [Act.put, List.setIfInBounds_toArray, List.set_cons_zero, List.set_cons_succ])
        refine PlanO.take (v := ?vA9) (by kernel_rfl) ?yA9 ?rA9
        case yA9 => (intro wz hz; have c1 := (hz.cell (p := ⟨bb, off + i1, none⟩) hbl).trans z1; go_simp; try with_reducible rfl)
        (try simp only [Act.put, List.setIfInBounds_toArray, List.set_cons_zero, List.set_cons_succ])
        refine PlanO.take (v := ?vA10) (by kernel_rfl) ?yA10 ?rA10
        case yA10 => (intro wz hz; go_simp; try with_reducible rfl)
        (try simp only [Act.put, List.setIfInBounds_toArray, List.set_cons_zero, List.set_cons_succ])
        refine PlanO.take (v := ?vA11) (by kernel_rfl) ?yA11 ?rA11
        case yA11 => (intro wz hz; go_simp; try with_reducible rfl)
        (try simp only [Act.put, List.setIfInBounds_toArray, List.set_cons_zero, List.set_cons_succ])
        refine PlanO.take (v := ?vA12) (by kernel_rfl) ?yA12 ?rA12
        case yA12 => (intro wz hz; go_simp; try with_reducible rfl)
        (try simp only [Act.put, List.setIfInBounds_toArray, List.set_cons_zero, List.set_cons_succ])
        refine PlanO.take (v := ?vA13) (by kernel_rfl) ?yA13 ?rA13
        case yA13 => (intro wz hz; go_simp; try with_reducible rfl)
        (try simp only [Act.put, List.setIfInBounds_toArray, List.set_cons_zero, List.set_cons_succ])
        refine PlanO.done (NoPanic.normal ?_)
        clear z0 z1
        obtain ⟨wq, hwq⟩ : ∃ wq, wq = wr.drew := ⟨_, rfl⟩
        rw [← hwq] at HCD hbl ⊢
        have HCW := HCD
        clear HCD hwq hbl
        go_upto_region 10 with (first | (go_at_call 12; (with_reducible refine (HNM.out _).mono ?_); rintro e w3 ⟨rfl, hb3⟩; have HC3 := Lib.hid (HCW.out.then_ HI.out hb3); clear hb3) | (go_at_call 13; (with_reducible refine (HDT.out _).mono ?_); rintro e w4 ⟨x4, rfl, ho4, hb4⟩; have HP4 := Lib.hid (caw_putD HI.out HC3.out (by omega) ha6 hc4 x4 hb4 ho4); obtain ⟨a4, c4, rfl, _, _⟩ := (OwnB.read ho4).form; clear ho4 hb4) | (go_at_call 14; (with_reducible refine HP4.out.mono ?_); rintro e w5 ⟨rfl, T5, hc5, _⟩; have HC5 := Lib.hid hc5; clear hc5))
        cases hl : (lookC T5 (nameB a, (c : Int))).isSome with
        | true =>
          have HG := Lib.hid (fun w (h : CaW Ca dataD 6 false (k + 1) W w q p T5) => caw_told HI.out h (by omega) ha6 hc4 hl)
          clear hl
          go_upto_region 11 with (first | (go_at_call 12; (with_reducible refine (HNM.out _).mono ?_); rintro e w6 ⟨rfl, hb6⟩; have HC6 := Lib.hid (HC5.out.then_ HI.out hb6); clear hb6) | (go_at_call 11; (with_reducible refine (HG.out _ HC6.out).mono ?_); rintro e w7 ⟨va7, m7, vc7, rfl, hr7, T7, hc7, _⟩; have HC7 := Lib.hid hc7; have HR7 := Lib.hid hr7; clear hr7 hc7))
          go_wp2
          refine wp_region_plan [(true, 0), (true, 1), (true, 2), (true, 3), (true, 4), (true, 5), (false, 6), (true, 7), (true, 8), (true, 9), (true, 10), (true, 11), (true, 12), (true, 13), (true, 14), (true, 15), (true, 16), (true, 17), (true, 18)] (by kernel_rfl) (by kernel_rfl) (by kernel_rfl) (by kernel_rfl) (by kernel_rfl) ?_
          simp only [planO, List.drop_succ_cons, List.drop_zero]
          refine PlanO.take (v := ?vB0) (by kernel_rfl) ?yB0 ?rB0
          case yB0 => (intro wz hz; go_simp; try with_reducible rfl)
          (try simp only [Act.put, List.setIfInBounds_toArray, List.set_cons_zero, List.set_cons_succ])
          refine PlanO.take (v := ?vB1) (by kernel_rfl) ?yB1 ?rB1
          case yB1 => (intro wz hz; go_simp; try with_reducible rfl)
          (try simp only [Act.put, List.setIfInBounds_toArray, List.set_cons_zero, List.set_cons_succ])
          refine PlanO.take (v := ?vB2) (by kernel_rfl) ?yB2 ?rB2
          case yB2 => (intro wz hz; go_simp; try with_reducible rfl)
          (try simp only [Act.put, List.setIfInBounds_toArray, List.set_cons_zero, List.set_cons_succ])
          refine PlanO.take (v := ?vB3) (by kernel_rfl) ?yB3 ?rB3
          case yB3 => (intro wz hz; have hs := str_of (HR7.out.below (Below.trans ((Below.refl _ _).drew) hz) (Nat.le_refl _)); go_simp; try with_reducible rfl)
          (try simp only [Act.put, List.setIfInBounds_toArray, List.set_cons_zero, List.set_cons_succ])
          refine PlanO.take (v := ?vB4) (by kernel_rfl) ?yB4 ?rB4
          case yB4 => (intro wz hz; go_simp; try with_reducible rfl)
          (try simp only [Act.put, List.setIfInBounds_toArray, List.set_cons_zero, List.set_cons_succ])
          refine PlanO.take (v := ?vB5) (by kernel_rfl) ?yB5 ?rB5
          case yB5 => (intro wz hz; go_simp; try with_reducible rfl)
          (try simp only [Act.put, List.setIfInBounds_toArray, List.set_cons_zero, List.set_cons_succ])
          refine PlanO.exec (fun K hK => ?_)
          go_simp
          go_at_call 13
          (with_reducible refine (HDT.out _).mono ?_)
          rintro e w8 ⟨x8, rfl, ho8, hb8⟩
          have HR8 := Lib.hid (OwnB.read ho8)
          have HC8 := Lib.hid (CaW.then_ HI.out (CaW.then_ HI.out HC7.out (Below.refl _ _).drew) hb8)
          have HE8 := Lib.hid hb8
          obtain ⟨a8, c8, rfl, _, _⟩ := HR8.out.form
          clear ho8 hb8
          go_wp2_with fail
          refine hK.out _ _ HE8.out ?_
          clear hK K
          (try simp only [Act.put, List.setIfInBounds_toArray, List.set_cons_zero, List.set_cons_succ])
          refine PlanO.take (v := ?vB7) (by kernel_rfl) ?yB7 ?rB7
          case yB7 => (intro wz hz; have hs := str_of (HR8.out.below hz (Nat.le_refl _)); go_simp; try with_reducible rfl)
          (try simp only [Act.put, List.setIfInBounds_toArray, List.set_cons_zero, List.set_cons_succ])
          refine PlanO.take (v := ?vB8) (by kernel_rfl) ?yB8 ?rB8
          case yB8 => (intro wz hz; go_simp; try with_reducible rfl)
          (try simp only [Act.put, List.setIfInBounds_toArray, List.set_cons_zero, List.set_cons_succ])
          refine PlanO.take (v := ?vB9) (by kernel_rfl) ?yB9 ?rB9
          case yB9 => (intro wz hz; go_simp; try with_reducible rfl)
          (try simp only [Act.put, List.setIfInBounds_toArray, List.set_cons_zero, List.set_cons_succ])
          refine PlanO.take (v := ?vB10) (by kernel_rfl) ?yB10 ?rB10
          case yB10 => (intro wz hz; go_simp; try with_reducible rfl)
          (try simp only [Act.put, List.setIfInBounds_toArray, List.set_cons_zero, List.set_cons_succ])
          refine PlanO.take (v := ?vB11) (by kernel_rfl) ?yB11 ?rB11
          case yB11 => (intro wz hz; go_simp; try with_reducible rfl)
          (try simp only [Act.put, List.setIfInBounds_toArray, List.set_cons_zero, List.set_cons_succ])
          refine PlanO.take (v := ?vB12) (by kernel_rfl) ?yB12 ?rB12
          case yB12 => (intro wz hz; go_simp; try with_reducible rfl)
          (try simp only [Act.put, List.setIfInBounds_toArray, List.set_cons_zero, List.set_cons_succ])
          refine PlanO.take (v := ?vB13) (by kernel_rfl) ?yB13 ?rB13
          case yB13 => (intro wz hz; go_simp; try with_reducible rfl)
          (try simp only [Act.put, List.setIfInBounds_toArray, List.set_cons_zero, List.set_cons_succ])
          refine PlanO.skip (by kernel_rfl) ?_
          (try simp only [Act.put, List.setIfInBounds_toArray, List.set_cons_zero, List.set_cons_succ])
          refine PlanO.skip (by kernel_rfl) ?_
          (try simp only [Act.put, List.setIfInBounds_toArray, List.set_cons_zero, List.set_cons_succ])
          refine PlanO.skip (by kernel_rfl) ?_
          (try simp only [Act.put, List.setIfInBounds_toArray, List.set_cons_zero, List.set_cons_succ])
          refine PlanO.take (v := ?vB17) (by kernel_rfl) ?yB17 ?rB17
          case yB17 => (intro wz hz; go_simp; try with_reducible rfl)
          (try simp only [Act.put, List.setIfInBounds_toArray, List.set_cons_zero, List.set_cons_succ])
          refine PlanO.take (v := ?vB18) (by kernel_rfl) ?yB18 ?rB18
          case yB18 => (intro wz hz; go_simp; try with_reducible rfl)
          (try simp only [Act.put, List.setIfInBounds_toArray, List.set_cons_zero, List.set_cons_succ])
          refine PlanO.done (NoPanic.normal ?_)
          go_wp2
          refine ⟨⟨i + 2, k + 2, T7, by omega, by omega, by go_num, HC8⟩, by simp only [intOf]; omega⟩
        | false =>
          have HG := Lib.hid (fun w (h : CaW Ca dataD 6 false (k + 1) W w q p T5) => caw_untold HI.out h (by omega) ha6 hc4 hl)
          clear hl
          go_upto_region 11 with (first | (go_at_call 12; (with_reducible refine (HNM.out _).mono ?_); rintro e w6 ⟨rfl, hb6⟩; have HC6 := Lib.hid (HC5.out.then_ HI.out hb6); clear hb6) | (go_at_call 11; (with_reducible refine (HG.out _ HC6.out).mono ?_); rintro e w7 ⟨va7, vc7, rfl, hr7, T7, hc7, _⟩; have HC7 := Lib.hid hc7; clear hr7 hc7))
          go_wp2
          refine wp_region_plan [(true, 0), (true, 1), (true, 2), (true, 3), (true, 4), (true, 5), (false, 6), (true, 7), (true, 8), (true, 9), (true, 10), (true, 11), (true, 12), (true, 13), (true, 14), (true, 15), (true, 16), (true, 17), (true, 18)] (by kernel_rfl) (by kernel_rfl) (by kernel_rfl) (by kernel_rfl) (by kernel_rfl) ?_
          simp only [planO, List.drop_succ_cons, List.drop_zero]
          refine PlanO.take (v := ?vC0) (by kernel_rfl) ?yC0 ?rC0
          case yC0 => (intro wz hz; go_simp; try with_reducible rfl)
          (try simp only [Act.put, List.setIfInBounds_toArray, List.set_cons_zero, List.set_cons_succ])
          refine PlanO.take (v := ?vC1) (by kernel_rfl) ?yC1 ?rC1
          case yC1 => (intro wz hz; go_simp; try with_reducible rfl)
          (try simp only [Act.put, List.setIfInBounds_toArray, List.set_cons_zero, List.set_cons_succ])
          refine PlanO.skip (by kernel_rfl) ?_
          (try simp only [Act.put, List.setIfInBounds_toArray, List.set_cons_zero, List.set_cons_succ])
          refine PlanO.skip (by kernel_rfl) ?_
          (try simp only [Act.put, List.setIfInBounds_toArray, List.set_cons_zero, List.set_cons_succ])
          refine PlanO.skip (by kernel_rfl) ?_
          (try simp only [Act.put, List.setIfInBounds_toArray, List.set_cons_zero, List.set_cons_succ])
          refine PlanO.skip (by kernel_rfl) ?_
          (try simp only [Act.put, List.setIfInBounds_toArray, List.set_cons_zero, List.set_cons_succ])
          refine PlanO.skip (by kernel_rfl) ?_
          (try simp only [Act.put, List.setIfInBounds_toArray, List.set_cons_zero, List.set_cons_succ])
          refine PlanO.skip (by kernel_rfl) ?_
          (try simp only [Act.put, List.setIfInBounds_toArray, List.set_cons_zero, List.set_cons_succ])
          refine PlanO.skip (by kernel_rfl) ?_
          (try simp only [Act.put, List.setIfInBounds_toArray, List.set_cons_zero, List.set_cons_succ])
          refine PlanO.take (v := ?vC9) (by kernel_rfl) ?yC9 ?rC9
          case yC9 => (intro wz hz; go_simp; try with_reducible rfl)
          (try simp only [Act.put, List.setIfInBounds_toArray, List.set_cons_zero, List.set_cons_succ])
          refine PlanO.take (v := ?vC10) (by kernel_rfl) ?yC10 ?rC10
          case yC10 => (intro wz hz; go_simp; try with_reducible rfl)
          (try simp only [Act.put, List.setIfInBounds_toArray, List.set_cons_zero, List.set_cons_succ])
          refine PlanO.take (v := ?vC11) (by kernel_rfl) ?yC11 ?rC11
          case yC11 => (intro wz hz; go_simp; try with_reducible rfl)
          (try simp only [Act.put, List.setIfInBounds_toArray, List.set_cons_zero, List.set_cons_succ])
          refine PlanO.take (v := ?vC12) (by kernel_rfl) ?yC12 ?rC12
          case yC12 => (intro wz hz; go_simp; try with_reducible rfl)
          (try simp only [Act.put, List.setIfInBounds_toArray, List.set_cons_zero, List.set_cons_succ])
          refine PlanO.take (v := ?vC13) (by kernel_rfl) ?yC13 ?rC13
          case yC13 => (intro wz hz; go_simp; try with_reducible rfl)
          (try simp only [Act.put, List.setIfInBounds_toArray, List.set_cons_zero, List.set_cons_succ])
          refine PlanO.take (v := ?vC14) (by kernel_rfl) ?yC14 ?rC14
          case yC14 => (intro wz hz; go_simp; try with_reducible rfl)
          (try simp only [Act.put, List.setIfInBounds_toArray, List.set_cons_zero, List.set_cons_succ])
          refine PlanO.take (v := ?vC15) (by kernel_rfl) ?yC15 ?rC15
          case yC15 => (intro wz hz; go_simp; try with_reducible rfl)
          (try simp only [Act.put, List.setIfInBounds_toArray, List.set_cons_zero, List.set_cons_succ])
          refine PlanO.take (v := ?vC16) (by kernel_rfl) ?yC16 ?rC16
          case yC16 => (intro wz hz; go_simp; try with_reducible rfl)
          (try simp only [Act.put, List.setIfInBounds_toArray, List.set_cons_zero, List.set_cons_succ])
          refine PlanO.take (v := ?vC17) (by kernel_rfl) ?yC17 ?rC17
          case yC17 => (intro wz hz; go_simp; try with_reducible rfl)
          (try simp only [Act.put, List.setIfInBounds_toArray, List.set_cons_zero, List.set_cons_succ])
          refine PlanO.take (v := ?vC18) (by kernel_rfl) ?yC18 ?rC18
          case yC18 => (intro wz hz; go_simp; try with_reducible rfl)
          (try simp only [Act.put, List.setIfInBounds_toArray, List.set_cons_zero, List.set_cons_succ])
          refine PlanO.done (NoPanic.normal ?_)
          go_wp2
          refine ⟨⟨i + 2, k + 2, T7, by omega, by omega, by go_num, Lib.hid (HC7.out.then_ HI.out (Below.refl _ _).drew)⟩, by simp only [intOf]; omega⟩
      · obtain ⟨i1, hi1⟩ : ∃ i1, i + 1 = i1 := ⟨_, rfl⟩
        have w3 : IntKind.i64.wrap (i1 : Int) = (i1 : Int) := IntWalk.i64_in _ (by omega)
        have hi1z : (i : Int) + 1 = (i1 : Int) := by omega
        have hlz : ¬ (i1 : Int) < (ns.length : Int) := by omega
        clear hi1 hlt
        have HL := Lib.hid (caw_few HI.out HCW.out)
        go_wp2_with fail
        with_reducible refine HL.out.mono ?_
        rintro e w3 ⟨m, rfl, hm1, hc3⟩
        have hm2 : (m : Int) ≤ 6 := by omega
        have HC3 := Lib.hid hc3
        clear hc3
        go_wp2_with (go_at_call 8; (refine (HAW.out _).mono ?_); rintro e w9 ⟨rfl, hb9⟩; have HB9 := Lib.hid hb9; clear hb9)
        go_ret
        exact ⟨rfl, belowT HC3.out.below HB9.out⟩
end Go.Proofs.Ytmlijnekidihbaa
