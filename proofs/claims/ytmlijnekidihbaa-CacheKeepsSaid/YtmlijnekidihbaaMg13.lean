import Derived.Test.YtmlijnekidihbaaMg05
import Derived.OpenShut

/-
  The walk of CacheKeeps.
-/
namespace Go.Proofs.Ytmlijnekidihbaa
open Go.RowKit

set_option maxRecDepth 100000 in
set_option maxHeartbeats 1000000 in
theorem cacheKeeps_walkC {Dk : (CKey → List UInt8 → Prop) → Bool → Nat → (Nat → Prop) → World → Nat → Prop} {Ca : (CKey → List UInt8 → Prop) → Nat → Bool → Nat → (Nat → Prop) → World → Nat → Nat → List (CKey × List UInt8) → Prop} (hi : CacheC Dk Ca) (a0 : Int) (v1 : Value) (ns : List UInt8) (W : World) (wa0 : (Lit.int .u8 a0).wf = true) (w1 : RdB W v1 ns) :
    Calls Try.prog 3 #[.int .u8 a0, v1] W fun r w' => r = .returned (.bool true) ∧ Below W.heap.size W w' := by
  have HAW := Lib.hid (awake16_any hi)
  have HI := Lib.hid hi
  have n0 := bounds_u8 wa0
  obtain ⟨sl, rfl⟩ : ∃ n : Nat, a0 = (n : Int) := ⟨a0.toNat, by omega⟩
  clear wa0
  obtain ⟨va, vc, rfl, hc1, hc2⟩ := w1.form
  unfold maxLen at hc2
  have HV0 := Lib.hid w1
  clear w1 hi
  by_cases c1 : 60 < ns.length
  · have d1 : 60 < (ns.length : Int) := by omega
    go_enter Try.func3, Try.ntmps3
    go_wp2_with (go_at_call 8; (refine (HAW.out _).mono ?_); rintro e w9 ⟨rfl, hb9⟩; have HB9 := Lib.hid hb9; clear hb9)
    go_ret
    exact ⟨rfl, HB9.out⟩
  · have d1 : ¬ 60 < (ns.length : Int) := by omega
    obtain ⟨nn, hnn⟩ : ∃ nn, sl % 9 = nn := ⟨_, rfl⟩
    have r1 : (sl : Int).tmod 9 = (nn : Int) := by rw [Int.tmod_eq_emod_of_nonneg (by omega)]; omega
    have r2 : (sl : Int) % 9 = (nn : Int) := by omega
    have hn8 : nn ≤ 8 := by omega
    have HN := Lib.hid (caw_new HI.out dataD (Below.refl W.heap.size W) 1048576 0 0 false (.slice none 0 0) (by omega) (by omega) (by omega) true rfl)
    have HLM := Lib.hid (lim_of (show nn ≤ 64 by omega))
    clear hnn
    go_enter Try.func3, Try.ntmps3
    go_wp2_with (first | (go_at_call 10; (refine HN.out.mono ?_); rintro e w1 ⟨p, rfl, hd⟩; have HD := Lib.hid (caw_fresh HI.out hd (nn : Int) (nat_wf (by omega))); clear hd) | (go_at_call 9; (refine HD.out.mono ?_); rintro e w2 ⟨q, rfl, hc⟩; rw [HLM.out] at hc; have HC := Lib.hid (show CaW Ca dataD nn true 1 W w2 q p [] from hc); clear hc))
    go_loopw [7] (fun x7 wr => ∃ (i k : Nat) (T : List (CKey × List UInt8)), i ≤ ns.length + 1 ∧ k ≤ 1 + i ∧ x7 = .int .i64 (i : Int) ∧ Hid (CaW Ca dataD nn true k W wr q p T) ∧ Hid (i = 0 → T = []) ∧ Hid (0 < i → 1 < ns.length)) (fun x7 _ => ns.length + 1 - (intOf x7).toNat)
    case atStart => exact ⟨0, 1, [], Nat.zero_le _, Nat.le_refl _, rfl, HC, Lib.hid (fun _ => rfl), Lib.hid (fun h => by omega)⟩
    case round =>
      clear HC HN
      obtain ⟨i, k, T, hin, hki, rfl, HCW, HT0, HN1⟩ := hrel
      by_cases hlt : i + 1 < ns.length
      · obtain ⟨bb, off, cap', hvv, _, _, hbw, hcell⟩ := HV0.out.cells (by intro h; rw [h] at hlt; simp at hlt)
        cases hvv
        have z0 : wr.drew.cell? ⟨bb, off + i, none⟩ = _ := (HCW.out.below.cell (p := ⟨bb, off + i, none⟩) hbw).trans (hcell i (by omega))
        obtain ⟨i1, hi1⟩ : ∃ i1, i + 1 = i1 := ⟨_, rfl⟩
        rw [hi1] at hlt
        have z1 : wr.drew.cell? ⟨bb, off + i1, none⟩ = _ := (HCW.out.below.cell (p := ⟨bb, off + i1, none⟩) hbw).trans (hcell i1 hlt)
        have z2 : W.cell? ⟨bb, off + i1, none⟩ = _ := hcell i1 hlt
        have hbl : bb < wr.drew.heap.size := Nat.lt_of_lt_of_le hbw HCW.out.below.size
        have hx := byte_le (ns.getD i 0)
        have hy := byte_le (ns.getD i1 0)
        unfold bv at z0 z1 z2
        generalize (ns.getD i 0).toNat = x at *
        generalize (ns.getD i1 0).toNat = y at *
        obtain ⟨a, hxa⟩ : ∃ a, x % 6 = a := ⟨_, rfl⟩
        obtain ⟨c, hyc⟩ : ∃ c, y % 4 = c := ⟨_, rfl⟩
        have ha6 : a < 6 := by omega
        have hc4 : c < 4 := by omega
        have m1 : (x : Int).tmod 6 = (a : Int) := by rw [Int.tmod_eq_emod_of_nonneg (by omega)]; omega
        have m2 : (x : Int) % 6 = (a : Int) := by omega
        have m3 : (y : Int).tmod 4 = (c : Int) := by rw [Int.tmod_eq_emod_of_nonneg (by omega)]; omega
        have m4 : (y : Int) % 4 = (c : Int) := by omega
        have w1 : IntKind.u8.wrap (a : Int) = (a : Int) := by rw [IntKind.wrap_u8]; omega
        have w2 : IntKind.i64.wrap (c : Int) = (c : Int) := IntWalk.i64_in _ (by omega)
        have w3 : IntKind.i64.wrap (i1 : Int) = (i1 : Int) := IntWalk.i64_in _ (by omega)
        have w4 : IntKind.i64.wrap (y : Int) = (y : Int) := IntWalk.i64_in _ (by omega)
        have a6 : a % 6 = a := by omega
        have hi1z : (i : Int) + 1 = (i1 : Int) := by omega
        have hlz : (i1 : Int) < (ns.length : Int) := by omega
        have HI1 := Lib.hid hi1
        clear hi1
        have hlz2 : (i : Int) < (ns.length : Int) := by omega
        have HNM := Lib.hid (fun w => name_any a (by omega) w)
        rw [a6] at HNM
        have HDT := Lib.hid (data_any a c (by omega) (by omega))
        have HY1 : Hid (bb < wr.drew.heap.size ∧ bb < W.heap.size ∧ W.cell? ⟨bb, off + i1, none⟩ = some (.int .u8 (y : Int))) := Lib.hid ⟨hbl, hbw, z2⟩
        have HN2 : Hid (1 < ns.length) := Lib.hid (by have := HI1.out; omega)
        clear z2
        go_wp2
        have hcd := HCW.out.then_ HI.out ((Below.refl _ _).drew)
        have HCD := Lib.hid hcd
        clear hcd HCW
        refine wp_region_plan [(true, 0), (true, 1), (true, 2), (true, 3), (true, 4), (true, 5), (true, 6), (true, 7), (true, 8), (true, 9), (true, 10), (true, 11), (true, 12), (true, 13)] (by kernel_rfl) (by kernel_rfl) (by kernel_rfl) (by kernel_rfl) (by kernel_rfl) ?_
        simp only [planO, List.drop_succ_cons, List.drop_zero]
        refine PlanO.take (v := ?vA0) (by kernel_rfl) ?yA0 ?rA0
        case yA0 => (intro wz hz; go_simp; try with_reducible rfl)
        (try simp only [Act.put, List.setIfInBounds_toArray, List.set_cons_zero, List.set_cons_succ])
        refine PlanO.take (v := ?vA1) (by kernel_rfl) ?yA1 ?rA1
        case yA1 => (intro wz hz; go_simp; try with_reducible rfl)
        (try simp only [Act.put, List.setIfInBounds_toArray, List.set_cons_zero, List.set_cons_succ])
        refine PlanO.take (v := ?vA2) (by kernel_rfl) ?yA2 ?rA2
        case yA2 => (intro wz hz; go_simp; try with_reducible rfl)
        (try simp only [Act.put, List.setIfInBounds_toArray, List.set_cons_zero, List.set_cons_succ])
        refine PlanO.take (v := ?vA3) (by kernel_rfl) ?yA3 ?rA3
        case yA3 => (intro wz hz; have c0 := (hz.cell (p := ⟨bb, off + i, none⟩) hbl).trans z0; go_simp; try with_reducible rfl)
        (try simp only [Act.put, List.setIfInBounds_toArray, List.set_cons_zero, List.set_cons_succ])
        refine PlanO.take (v := ?vA4) (by kernel_rfl) ?yA4 ?rA4
        case yA4 => (intro wz hz; go_simp; try with_reducible rfl)
        (try simp only [Act.put, List.setIfInBounds_toArray, List.set_cons_zero, List.set_cons_succ])
        refine PlanO.take (v := ?vA5) (by kernel_rfl) ?yA5 ?rA5
        case yA5 => (intro wz hz; go_simp; try with_reducible rfl)
        (try simp only [Act.put, List.setIfInBounds_toArray, List.set_cons_zero, List.set_cons_succ])
        refine PlanO.take (v := ?vA6) (by kernel_rfl) ?yA6 ?rA6
        case yA6 => (intro wz hz; go_simp; try with_reducible rfl)
        (try simp only [Act.put, List.setIfInBounds_toArray, List.set_cons_zero, List.set_cons_succ])
        refine PlanO.take (v := ?vA7) (by kernel_rfl) ?yA7 ?rA7
        case yA7 => (intro wz hz; go_simp; try with_reducible rfl)
        (try simp only [Act.put, List.setIfInBounds_toArray, List.set_cons_zero, List.set_cons_succ])
        refine PlanO.take (v := ?vA8) (by kernel_rfl) ?yA8 ?rA8
        case yA8 => (intro wz hz; go_simp; try with_reducible rfl)
        (try simp only [Act.put, List.setIfInBounds_toArray, List.set_cons_zero, List.set_cons_succ])
        refine PlanO.take (v := ?vA9) (by kernel_rfl) ?yA9 ?rA9
        case yA9 => (intro wz hz; have c1 := (hz.cell (p := ⟨bb, off + i1, none⟩) hbl).trans z1; go_simp; try with_reducible rfl)
        (try simp only [Act.put, List.setIfInBounds_toArray, List.set_cons_zero, List.set_cons_succ])
        refine PlanO.take (v := ?vA10) (by kernel_rfl) ?yA10 ?rA10
        case yA10 => (intro wz hz; go_simp; try with_reducible rfl)
        (try simp only [Act.put, List.setIfInBounds_toArray, List.set_cons_zero, List.set_cons_succ])
        refine PlanO.take (v := ?vA11) (by kernel_rfl) ?yA11 ?rA11
        case yA11 => (intro wz hz; go_simp; try with_reducible rfl)
        (try simp only [Act.put, List.setIfInBounds_toArray, List.set_cons_zero, List.set_cons_succ])
        refine PlanO.take (v := ?vA12) (by kernel_rfl) ?yA12 ?rA12
        case yA12 => (intro wz hz; go_simp; try with_reducible rfl)
        (try simp only [Act.put, List.setIfInBounds_toArray, List.set_cons_zero, List.set_cons_succ])
        refine PlanO.take (v := ?vA13) (by kernel_rfl) ?yA13 ?rA13
        case yA13 => (intro wz hz; go_simp; try with_reducible rfl)
        (try simp only [Act.put, List.setIfInBounds_toArray, List.set_cons_zero, List.set_cons_succ])
        refine PlanO.done (NoPanic.normal ?_)
        clear z0 z1
        obtain ⟨wq, hwq⟩ : ∃ wq, wq = wr.drew := ⟨_, rfl⟩
        rw [← hwq] at HCD hbl ⊢
        have HCW := HCD
        clear HCD hwq hbl
        have z3 := (HCW.out.below.cell (p := ⟨bb, off + i1, none⟩) HY1.out.2.1).trans HY1.out.2.2
        by_cases hy128 : 128 ≤ y
        · have hyz : 128 ≤ (y : Int) := by omega
          have HC5 := HCW
          cases hl : (lookC T (nameB a, (c : Int))).isSome with
          | true =>
            have HG := Lib.hid (fun w (h : CaW Ca dataD nn true k W w q p T) => caw_told HI.out h (by omega) ha6 hc4 hl)
            clear hl
            go_upto_region 11 with (first | (go_at_call 12; (with_reducible refine (HNM.out _).mono ?_); rintro e w6 ⟨rfl, hb6⟩; have HC6 := Lib.hid (HCW.out.then_ HI.out hb6); clear hb6) | (go_at_call 11; (with_reducible refine (HG.out _ HC6.out).mono ?_); rintro e w7 ⟨va7, m7, vc7, rfl, hr7, T7, hc7, _⟩; have HC7 := Lib.hid hc7; have HR7 := Lib.hid hr7; clear hr7 hc7))
            go_wp2
            refine wp_region_plan [(true, 0), (true, 1), (true, 2), (true, 3), (true, 4), (true, 5), (false, 6), (true, 7), (true, 8), (true, 9), (true, 10), (true, 11), (true, 12), (true, 13), (true, 14), (true, 15), (true, 16), (true, 17), (true, 18)] (by kernel_rfl) (by kernel_rfl) (by kernel_rfl) (by kernel_rfl) (by kernel_rfl) ?_
            simp only [planO, List.drop_succ_cons, List.drop_zero]
            refine PlanO.take (v := ?vB0) (by kernel_rfl) ?yB0 ?rB0
            case yB0 => (intro wz hz; go_simp; try with_reducible rfl)
            (try simp only [Act.put, List.setIfInBounds_toArray, List.set_cons_zero, List.set_cons_succ])
            refine PlanO.take (v := ?vB1) (by kernel_rfl) ?yB1 ?rB1
            case yB1 => (intro wz hz; go_simp; try with_reducible rfl)
            (try simp only [Act.put, List.setIfInBounds_toArray, List.set_cons_zero, List.set_cons_succ])
            refine PlanO.take (v := ?vB2) (by kernel_rfl) ?yB2 ?rB2
            case yB2 => (intro wz hz; go_simp; try with_reducible rfl)
            (try simp only [Act.put, List.setIfInBounds_toArray, List.set_cons_zero, List.set_cons_succ])
            refine PlanO.take (v := ?vB3) (by kernel_rfl) ?yB3 ?rB3
            case yB3 => (intro wz hz; have hs := str_of (HR7.out.below (Below.trans ((Below.refl _ _).drew) hz) (Nat.le_refl _)); go_simp; try with_reducible rfl)
            (try simp only [Act.put, List.setIfInBounds_toArray, List.set_cons_zero, List.set_cons_succ])
            refine PlanO.take (v := ?vB4) (by kernel_rfl) ?yB4 ?rB4
            case yB4 => (intro wz hz; go_simp; try with_reducible rfl)
            (try simp only [Act.put, List.setIfInBounds_toArray, List.set_cons_zero, List.set_cons_succ])
            refine PlanO.take (v := ?vB5) (by kernel_rfl) ?yB5 ?rB5
            case yB5 => (intro wz hz; go_simp; try with_reducible rfl)
            (try simp only [Act.put, List.setIfInBounds_toArray, List.set_cons_zero, List.set_cons_succ])
            refine PlanO.exec (fun K hK => ?_)
            go_simp
            go_at_call 13
            (with_reducible refine (HDT.out _).mono ?_)
            rintro e w8 ⟨x8, rfl, ho8, hb8⟩
            have HR8 := Lib.hid (OwnB.read ho8)
            have HC8 := Lib.hid (CaW.then_ HI.out (CaW.then_ HI.out HC7.out (Below.refl _ _).drew) hb8)
            have HE8 := Lib.hid hb8
            obtain ⟨a8, c8, rfl, _, _⟩ := HR8.out.form
            clear ho8 hb8
            go_wp2_with fail
            refine hK.out _ _ HE8.out ?_
            clear hK K
            (try simp only [Act.put, List.setIfInBounds_toArray, List.set_cons_zero, List.set_cons_succ])
            refine PlanO.take (v := ?vB7) (by kernel_rfl) ?yB7 ?rB7
            case yB7 => (intro wz hz; have hs := str_of (HR8.out.below hz (Nat.le_refl _)); go_simp; try with_reducible rfl)
            (try simp only [Act.put, List.setIfInBounds_toArray, List.set_cons_zero, List.set_cons_succ])
            refine PlanO.take (v := ?vB8) (by kernel_rfl) ?yB8 ?rB8
            case yB8 => (intro wz hz; go_simp; try with_reducible rfl)
            (try simp only [Act.put, List.setIfInBounds_toArray, List.set_cons_zero, List.set_cons_succ])
            refine PlanO.take (v := ?vB9) (by kernel_rfl) ?yB9 ?rB9
            case yB9 => (intro wz hz; go_simp; try with_reducible rfl)
            (try simp only [Act.put, List.setIfInBounds_toArray, List.set_cons_zero, List.set_cons_succ])
            refine PlanO.take (v := ?vB10) (by kernel_rfl) ?yB10 ?rB10
            case yB10 => (intro wz hz; go_simp; try with_reducible rfl)
            (try simp only [Act.put, List.setIfInBounds_toArray, List.set_cons_zero, List.set_cons_succ])
            refine PlanO.take (v := ?vB11) (by kernel_rfl) ?yB11 ?rB11
            case yB11 => (intro wz hz; go_simp; try with_reducible rfl)
            (try simp only [Act.put, List.setIfInBounds_toArray, List.set_cons_zero, List.set_cons_succ])
            refine PlanO.take (v := ?vB12) (by kernel_rfl) ?yB12 ?rB12
            case yB12 => (intro wz hz; go_simp; try with_reducible rfl)
            (try simp only [Act.put, List.setIfInBounds_toArray, List.set_cons_zero, List.set_cons_succ])
            refine PlanO.take (v := ?vB13) (by kernel_rfl) ?yB13 ?rB13
            case yB13 => (intro wz hz; go_simp; try with_reducible rfl)
            (try simp only [Act.put, List.setIfInBounds_toArray, List.set_cons_zero, List.set_cons_succ])
            refine PlanO.skip (by kernel_rfl) ?_
            (try simp only [Act.put, List.setIfInBounds_toArray, List.set_cons_zero, List.set_cons_succ])
            refine PlanO.skip (by kernel_rfl) ?_
            (try simp only [Act.put, List.setIfInBounds_toArray, List.set_cons_zero, List.set_cons_succ])
            refine PlanO.skip (by kernel_rfl) ?_
            (try simp only [Act.put, List.setIfInBounds_toArray, List.set_cons_zero, List.set_cons_succ])
            refine PlanO.take (v := ?vB17) (by kernel_rfl) ?yB17 ?rB17
            case yB17 => (intro wz hz; go_simp; try with_reducible rfl)
            (try simp only [Act.put, List.setIfInBounds_toArray, List.set_cons_zero, List.set_cons_succ])
            refine PlanO.take (v := ?vB18) (by kernel_rfl) ?yB18 ?rB18
            case yB18 => (intro wz hz; go_simp; try with_reducible rfl)
            (try simp only [Act.put, List.setIfInBounds_toArray, List.set_cons_zero, List.set_cons_succ])
            refine PlanO.done (NoPanic.normal ?_)
            go_wp2
            refine ⟨⟨i + 2, k + 1, T7, by omega, by omega, by go_num, HC8, Lib.hid (fun h => by omega), Lib.hid (fun _ => HN2.out)⟩, by simp only [intOf]; omega⟩
          | false =>
            have HG := Lib.hid (fun w (h : CaW Ca dataD nn true k W w q p T) => caw_untold HI.out h (by omega) ha6 hc4 hl)
            clear hl
            go_upto_region 11 with (first | (go_at_call 12; (with_reducible refine (HNM.out _).mono ?_); rintro e w6 ⟨rfl, hb6⟩; have HC6 := Lib.hid (HCW.out.then_ HI.out hb6); clear hb6) | (go_at_call 11; (with_reducible refine (HG.out _ HC6.out).mono ?_); rintro e w7 ⟨va7, vc7, rfl, hr7, T7, hc7, _⟩; have HC7 := Lib.hid hc7; clear hr7 hc7))
            go_wp2
            refine wp_region_plan [(true, 0), (true, 1), (true, 2), (true, 3), (true, 4), (true, 5), (false, 6), (true, 7), (true, 8), (true, 9), (true, 10), (true, 11), (true, 12), (true, 13), (true, 14), (true, 15), (true, 16), (true, 17), (true, 18)] (by kernel_rfl) (by kernel_rfl) (by kernel_rfl) (by kernel_rfl) (by kernel_rfl) ?_
            simp only [planO, List.drop_succ_cons, List.drop_zero]
            refine PlanO.take (v := ?vC0) (by kernel_rfl) ?yC0 ?rC0
            case yC0 => (intro wz hz; go_simp; try with_reducible rfl)
            (try simp only [Act.put, List.setIfInBounds_toArray, List.set_cons_zero, List.set_cons_succ])
            refine PlanO.take (v := ?vC1) (by kernel_rfl) ?yC1 ?rC1
            case yC1 => (intro wz hz; go_simp; try with_reducible rfl)
            (try simp only [Act.put, List.setIfInBounds_toArray, List.set_cons_zero, List.set_cons_succ])
            refine PlanO.skip (by kernel_rfl) ?_
            (try simp only [Act.put, List.setIfInBounds_toArray, List.set_cons_zero, List.set_cons_succ])
            refine PlanO.skip (by kernel_rfl) ?_
            (try simp only [Act.put, List.setIfInBounds_toArray, List.set_cons_zero, List.set_cons_succ])
            refine PlanO.skip (by kernel_rfl) ?_
            (try simp only [Act.put, List.setIfInBounds_toArray, List.set_cons_zero, List.set_cons_succ])
            refine PlanO.skip (by kernel_rfl) ?_
            (try simp only [Act.put, List.setIfInBounds_toArray, List.set_cons_zero, List.set_cons_succ])
            refine PlanO.skip (by kernel_rfl) ?_
            (try simp only [Act.put, List.setIfInBounds_toArray, List.set_cons_zero, List.set_cons_succ])
            refine PlanO.skip (by kernel_rfl) ?_
            (try simp only [Act.put, List.setIfInBounds_toArray, List.set_cons_zero, List.set_cons_succ])
            refine PlanO.skip (by kernel_rfl) ?_
            (try simp only [Act.put, List.setIfInBounds_toArray, List.set_cons_zero, List.set_cons_succ])
            refine PlanO.take (v := ?vC9) (by kernel_rfl) ?yC9 ?rC9
            case yC9 => (intro wz hz; go_simp; try with_reducible rfl)
            (try simp only [Act.put, List.setIfInBounds_toArray, List.set_cons_zero, List.set_cons_succ])
            refine PlanO.take (v := ?vC10) (by kernel_rfl) ?yC10 ?rC10
            case yC10 => (intro wz hz; go_simp; try with_reducible rfl)
            (try simp only [Act.put, List.setIfInBounds_toArray, List.set_cons_zero, List.set_cons_succ])
            refine PlanO.take (v := ?vC11) (by kernel_rfl) ?yC11 ?rC11
            case yC11 => (intro wz hz; go_simp; try with_reducible rfl)
            (try simp only [Act.put, List.setIfInBounds_toArray, List.set_cons_zero, List.set_cons_succ])
            refine PlanO.take (v := ?vC12) (by kernel_rfl) ?yC12 ?rC12
            case yC12 => (intro wz hz; go_simp; try with_reducible rfl)
            (try simp only [Act.put, List.setIfInBounds_toArray, List.set_cons_zero, List.set_cons_succ])
            refine PlanO.take (v := ?vC13) (by kernel_rfl) ?yC13 ?rC13
            case yC13 => (intro wz hz; go_simp; try with_reducible rfl)
            (try simp only [Act.put, List.setIfInBounds_toArray, List.set_cons_zero, List.set_cons_succ])
            refine PlanO.take (v := ?vC14) (by kernel_rfl) ?yC14 ?rC14
            case yC14 => (intro wz hz; go_simp; try with_reducible rfl)
            (try simp only [Act.put, List.setIfInBounds_toArray, List.set_cons_zero, List.set_cons_succ])
            refine PlanO.take (v := ?vC15) (by kernel_rfl) ?yC15 ?rC15
            case yC15 => (intro wz hz; go_simp; try with_reducible rfl)
            (try simp only [Act.put, List.setIfInBounds_toArray, List.set_cons_zero, List.set_cons_succ])
            refine PlanO.take (v := ?vC16) (by kernel_rfl) ?yC16 ?rC16
            case yC16 => (intro wz hz; go_simp; try with_reducible rfl)
            (try simp only [Act.put, List.setIfInBounds_toArray, List.set_cons_zero, List.set_cons_succ])
            refine PlanO.take (v := ?vC17) (by kernel_rfl) ?yC17 ?rC17
            case yC17 => (intro wz hz; go_simp; try with_reducible rfl)
            (try simp only [Act.put, List.setIfInBounds_toArray, List.set_cons_zero, List.set_cons_succ])
            refine PlanO.take (v := ?vC18) (by kernel_rfl) ?yC18 ?rC18
            case yC18 => (intro wz hz; go_simp; try with_reducible rfl)
            (try simp only [Act.put, List.setIfInBounds_toArray, List.set_cons_zero, List.set_cons_succ])
            refine PlanO.done (NoPanic.normal ?_)
            go_wp2
            refine ⟨⟨i + 2, k + 1, T7, by omega, by omega, by go_num, Lib.hid (HC7.out.then_ HI.out (Below.refl _ _).drew), Lib.hid (fun h => by omega), Lib.hid (fun _ => HN2.out)⟩, by simp only [intOf]; omega⟩
        · have hyz : ¬ 128 ≤ (y : Int) := by omega
          go_upto_region 14 with (first | (go_at_call 12; (with_reducible refine (HNM.out _).mono ?_); rintro e w3 ⟨rfl, hb3⟩; have HC3 := Lib.hid (HCW.out.then_ HI.out hb3); clear hb3) | (go_at_call 13; (with_reducible refine (HDT.out _).mono ?_); rintro e w4 ⟨x4, rfl, ho4, hb4⟩; have HP4 := Lib.hid (caw_putD HI.out HC3.out (by omega) ha6 hc4 x4 hb4 ho4); obtain ⟨a4, c4, rfl, _, _⟩ := (OwnB.read ho4).form; clear ho4 hb4) | (go_at_call 14; (with_reducible refine HP4.out.mono ?_); rintro e w5 ⟨rfl, T5, hc5, ht5⟩; have HC5 := Lib.hid hc5; have HT5 := Lib.hid (fun h => ht5 h (by first | rfl | trivial)); clear hc5 ht5))
          rcases Nat.eq_zero_or_pos nn with hz0 | hz0
          · have hl := look_none (x := (nameB a, (c : Int))) (T := T5) (by have := (HC5.out.few HI.out).1; omega)
            have hnz : ¬ 0 < (nn : Int) := by omega
            have HG := Lib.hid (fun w (h : CaW Ca dataD nn true (k + 1) W w q p T5) => caw_untold HI.out h (by omega) ha6 hc4 hl)
            have HZ0 := Lib.hid hz0
            clear hl hz0
            go_upto_region 15 with (first | (go_at_call 12; (with_reducible refine (HNM.out _).mono ?_); rintro e w6 ⟨rfl, hb6⟩; have HC6 := Lib.hid (HC5.out.then_ HI.out hb6); clear hb6) | (go_at_call 11; (with_reducible refine (HG.out _ HC6.out).mono ?_); rintro e w7 ⟨va7, vc7, rfl, hr7, T7, hc7, _⟩; have HC7 := Lib.hid hc7; clear hr7 hc7))
            have HLF := Lib.hid (fun w (h : CaW Ca dataD nn true (k + 1 + 1) W w q p T7) => caw_few2 HI.out h)
            go_wp2
            refine wp_region_plan [(true, 0), (true, 1), (true, 2), (true, 3), (true, 4), (true, 5), (true, 6), (true, 7), (true, 8), (true, 9), (true, 10), (false, 11), (true, 12), (true, 13), (true, 14), (true, 15), (true, 16), (true, 17), (true, 19), (false, 18), (true, 20), (true, 21)] (by kernel_rfl) (by kernel_rfl) (by kernel_rfl) (by kernel_rfl) (by kernel_rfl) ?_
            simp only [planO, List.drop_succ_cons, List.drop_zero]
            refine PlanO.take (v := ?vD0) (by kernel_rfl) ?yD0 ?rD0
            case yD0 => (intro wz hz; go_simp; try with_reducible rfl)
            (try simp only [Act.put, List.setIfInBounds_toArray, List.set_cons_zero, List.set_cons_succ])
            refine PlanO.take (v := ?vD1) (by kernel_rfl) ?yD1 ?rD1
            case yD1 => (intro wz hz; go_simp; try with_reducible rfl)
            (try simp only [Act.put, List.setIfInBounds_toArray, List.set_cons_zero, List.set_cons_succ])
            refine PlanO.take (v := .bool false) (by kernel_rfl) ?yD2 ?rD2
            case yD2 => (intro wz hz; go_simp; first | with_reducible rfl | exact HZ0.out)
            (try simp only [Act.put, List.setIfInBounds_toArray, List.set_cons_zero, List.set_cons_succ])
            refine PlanO.take (v := .bool false) (by kernel_rfl) ?yD3 ?rD3
            case yD3 => (intro wz hz; go_simp; try with_reducible rfl)
            (try simp only [Act.put, List.setIfInBounds_toArray, List.set_cons_zero, List.set_cons_succ])
            refine PlanO.take (v := .bool false) (by kernel_rfl) ?yD4 ?rD4
            case yD4 => (intro wz hz; go_simp; try with_reducible rfl)
            (try simp only [Act.put, List.setIfInBounds_toArray, List.set_cons_zero, List.set_cons_succ])
            refine PlanO.take (v := ?vD5) (by kernel_rfl) ?yD5 ?rD5
            case yD5 => (intro wz hz; go_simp; try with_reducible rfl)
            (try simp only [Act.put, List.setIfInBounds_toArray, List.set_cons_zero, List.set_cons_succ])
            refine PlanO.take (v := ?vD6) (by kernel_rfl) ?yD6 ?rD6
            case yD6 => (intro wz hz; go_simp; try with_reducible rfl)
            (try simp only [Act.put, List.setIfInBounds_toArray, List.set_cons_zero, List.set_cons_succ])
            refine PlanO.skip (by kernel_rfl) ?_
            (try simp only [Act.put, List.setIfInBounds_toArray, List.set_cons_zero, List.set_cons_succ])
            refine PlanO.skip (by kernel_rfl) ?_
            (try simp only [Act.put, List.setIfInBounds_toArray, List.set_cons_zero, List.set_cons_succ])
            refine PlanO.skip (by kernel_rfl) ?_
            (try simp only [Act.put, List.setIfInBounds_toArray, List.set_cons_zero, List.set_cons_succ])
            refine PlanO.skip (by kernel_rfl) ?_
            (try simp only [Act.put, List.setIfInBounds_toArray, List.set_cons_zero, List.set_cons_succ])
            refine PlanO.skip (by kernel_rfl) ?_
            (try simp only [Act.put, List.setIfInBounds_toArray, List.set_cons_zero, List.set_cons_succ])
            refine PlanO.skip (by kernel_rfl) ?_
            (try simp only [Act.put, List.setIfInBounds_toArray, List.set_cons_zero, List.set_cons_succ])
            refine PlanO.skip (by kernel_rfl) ?_
            (try simp only [Act.put, List.setIfInBounds_toArray, List.set_cons_zero, List.set_cons_succ])
            refine PlanO.take (v := ?vD14) (by kernel_rfl) ?yD14 ?rD14
            case yD14 => (intro wz hz; go_simp; try with_reducible rfl)
            (try simp only [Act.put, List.setIfInBounds_toArray, List.set_cons_zero, List.set_cons_succ])
            refine PlanO.take (v := ?vD15) (by kernel_rfl) ?yD15 ?rD15
            case yD15 => (intro wz hz; go_simp; try with_reducible rfl)
            (try simp only [Act.put, List.setIfInBounds_toArray, List.set_cons_zero, List.set_cons_succ])
            refine PlanO.take (v := ?vD16) (by kernel_rfl) ?yD16 ?rD16
            case yD16 => (intro wz hz; go_simp; try with_reducible rfl)
            (try simp only [Act.put, List.setIfInBounds_toArray, List.set_cons_zero, List.set_cons_succ])
            refine PlanO.take (v := ?vD17) (by kernel_rfl) ?yD17 ?rD17
            case yD17 => (intro wz hz; go_simp; try with_reducible rfl)
            (try simp only [Act.put, List.setIfInBounds_toArray, List.set_cons_zero, List.set_cons_succ])
            refine PlanO.take (v := ?vD19) (by kernel_rfl) ?yD19 ?rD19
            case yD19 => (intro wz hz; go_simp; try with_reducible rfl)
            (try simp only [Act.put, List.setIfInBounds_toArray, List.set_cons_zero, List.set_cons_succ])
            refine PlanO.exec (fun K hK => ?_)
            go_simp
            go_at_call 15
            (with_reducible refine (HLF.out _ (CaW.then_ HI.out HC7.out (Below.refl _ _).drew)).mono ?_)
            rintro e w9 ⟨m, rfl, hm, hb9⟩
            have hmz : ¬ (nn : Int) < (m : Int) := by omega
            have HC9 := Lib.hid (CaW.then_ HI.out (CaW.then_ HI.out HC7.out (Below.refl _ _).drew) hb9)
            have HE9 := Lib.hid hb9
            clear hb9
            go_wp2_with fail
            refine hK.out _ _ HE9.out ?_
            clear hK K
            (try simp only [Act.put, List.setIfInBounds_toArray, List.set_cons_zero, List.set_cons_succ])
            refine PlanO.take (v := ?vD20) (by kernel_rfl) ?yD20 ?rD20
            case yD20 => (intro wz hz; go_simp; try with_reducible rfl)
            (try simp only [Act.put, List.setIfInBounds_toArray, List.set_cons_zero, List.set_cons_succ])
            refine PlanO.take (v := ?vD21) (by kernel_rfl) ?yD21 ?rD21
            case yD21 => (intro wz hz; go_simp; try with_reducible rfl)
            (try simp only [Act.put, List.setIfInBounds_toArray, List.set_cons_zero, List.set_cons_succ])
            refine PlanO.done (NoPanic.normal ?_)
            go_wp2
            refine ⟨⟨i + 2, k + 2, T7, by omega, by omega, by go_num, HC9, Lib.hid (fun h => by omega), Lib.hid (fun _ => HN2.out)⟩, by simp only [intOf]; omega⟩
          · have hl : (lookC T5 (nameB a, (c : Int))).isSome = true := by rw [HT5.out hz0]; rfl
            have hnz : 0 < (nn : Int) := by omega
            have HG := Lib.hid (fun w (h : CaW Ca dataD nn true (k + 1) W w q p T5) => caw_told HI.out h (by omega) ha6 hc4 hl)
            clear hl
            go_upto_region 15 with (first | (go_at_call 12; (with_reducible refine (HNM.out _).mono ?_); rintro e w6 ⟨rfl, hb6⟩; have HC6 := Lib.hid (HC5.out.then_ HI.out hb6); clear hb6) | (go_at_call 11; (with_reducible refine (HG.out _ HC6.out).mono ?_); rintro e w7 ⟨va7, m7, vc7, rfl, hr7, T7, hc7, _⟩; have HC7 := Lib.hid hc7; have HR7 := Lib.hid hr7; clear hr7 hc7))
            have HLF := Lib.hid (fun w (h : CaW Ca dataD nn true (k + 1 + 1) W w q p T7) => caw_few2 HI.out h)
            go_wp2
            refine wp_region_plan [(true, 0), (true, 1), (true, 2), (true, 3), (true, 4), (true, 5), (true, 6), (true, 7), (true, 8), (true, 9), (true, 10), (false, 11), (true, 12), (true, 13), (true, 14), (true, 15), (true, 16), (true, 17), (true, 19), (false, 18), (true, 20), (true, 21)] (by kernel_rfl) (by kernel_rfl) (by kernel_rfl) (by kernel_rfl) (by kernel_rfl) ?_
            simp only [planO, List.drop_succ_cons, List.drop_zero]
            refine PlanO.take (v := ?vE0) (by kernel_rfl) ?yE0 ?rE0
            case yE0 => (intro wz hz; go_simp; try with_reducible rfl)
            (try simp only [Act.put, List.setIfInBounds_toArray, List.set_cons_zero, List.set_cons_succ])
            refine PlanO.take (v := ?vE1) (by kernel_rfl) ?yE1 ?rE1
            case yE1 => (intro wz hz; go_simp; try with_reducible rfl)
            (try simp only [Act.put, List.setIfInBounds_toArray, List.set_cons_zero, List.set_cons_succ])
            refine PlanO.take (v := ?vE2) (by kernel_rfl) ?yE2 ?rE2
            case yE2 => (intro wz hz; go_simp; try with_reducible rfl)
            (try simp only [Act.put, List.setIfInBounds_toArray, List.set_cons_zero, List.set_cons_succ])
            refine PlanO.take (v := ?vE3) (by kernel_rfl) ?yE3 ?rE3
            case yE3 => (intro wz hz; go_simp; try with_reducible rfl)
            (try simp only [Act.put, List.setIfInBounds_toArray, List.set_cons_zero, List.set_cons_succ])
            refine PlanO.take (v := ?vE4) (by kernel_rfl) ?yE4 ?rE4
            case yE4 => (intro wz hz; go_simp; try with_reducible rfl)
            (try simp only [Act.put, List.setIfInBounds_toArray, List.set_cons_zero, List.set_cons_succ])
            refine PlanO.take (v := ?vE5) (by kernel_rfl) ?yE5 ?rE5
            case yE5 => (intro wz hz; go_simp; try with_reducible rfl)
            (try simp only [Act.put, List.setIfInBounds_toArray, List.set_cons_zero, List.set_cons_succ])
            refine PlanO.take (v := ?vE6) (by kernel_rfl) ?yE6 ?rE6
            case yE6 => (intro wz hz; go_simp; try with_reducible rfl)
            (try simp only [Act.put, List.setIfInBounds_toArray, List.set_cons_zero, List.set_cons_succ])
            refine PlanO.take (v := ?vE7) (by kernel_rfl) ?yE7 ?rE7
            case yE7 => (intro wz hz; go_simp; try with_reducible rfl)
            (try simp only [Act.put, List.setIfInBounds_toArray, List.set_cons_zero, List.set_cons_succ])
            refine PlanO.take (v := ?vE8) (by kernel_rfl) ?yE8 ?rE8
            case yE8 => (intro wz hz; have hs := str_of (HR7.out.below (Below.trans ((Below.refl _ _).drew) hz) (Nat.le_refl _)); go_simp; try with_reducible rfl)
            (try simp only [Act.put, List.setIfInBounds_toArray, List.set_cons_zero, List.set_cons_succ])
            refine PlanO.take (v := ?vE9) (by kernel_rfl) ?yE9 ?rE9
            case yE9 => (intro wz hz; go_simp; try with_reducible rfl)
            (try simp only [Act.put, List.setIfInBounds_toArray, List.set_cons_zero, List.set_cons_succ])
            refine PlanO.take (v := ?vE10) (by kernel_rfl) ?yE10 ?rE10
            case yE10 => (intro wz hz; go_simp; try with_reducible rfl)
            (try simp only [Act.put, List.setIfInBounds_toArray, List.set_cons_zero, List.set_cons_succ])
            refine PlanO.exec (fun K hK => ?_)
            go_simp
            go_at_call 13
            (with_reducible refine (HDT.out _).mono ?_)
            rintro e w8 ⟨x8, rfl, ho8, hb8⟩
            have HR8 := Lib.hid (OwnB.read ho8)
            have HC8 := Lib.hid (CaW.then_ HI.out (CaW.then_ HI.out HC7.out (Below.refl _ _).drew) hb8)
            have HE8 := Lib.hid hb8
            obtain ⟨a8, c8, rfl, _, _⟩ := HR8.out.form
            clear ho8 hb8
            go_wp2_with fail
            refine hK.out _ _ HE8.out ?_
            clear hK K
            (try simp only [Act.put, List.setIfInBounds_toArray, List.set_cons_zero, List.set_cons_succ])
            refine PlanO.take (v := ?vE12) (by kernel_rfl) ?yE12 ?rE12
            case yE12 => (intro wz hz; have hs := str_of (HR8.out.below hz (Nat.le_refl _)); go_simp; try with_reducible rfl)
            (try simp only [Act.put, List.setIfInBounds_toArray, List.set_cons_zero, List.set_cons_succ])
            refine PlanO.take (v := ?vE13) (by kernel_rfl) ?yE13 ?rE13
            case yE13 => (intro wz hz; go_simp; try with_reducible rfl)
            (try simp only [Act.put, List.setIfInBounds_toArray, List.set_cons_zero, List.set_cons_succ])
            refine PlanO.take (v := ?vE14) (by kernel_rfl) ?yE14 ?rE14
            case yE14 => (intro wz hz; go_simp; try with_reducible rfl)
            (try simp only [Act.put, List.setIfInBounds_toArray, List.set_cons_zero, List.set_cons_succ])
            refine PlanO.take (v := ?vE15) (by kernel_rfl) ?yE15 ?rE15
            case yE15 => (intro wz hz; go_simp; try with_reducible rfl)
            (try simp only [Act.put, List.setIfInBounds_toArray, List.set_cons_zero, List.set_cons_succ])
            refine PlanO.take (v := ?vE16) (by kernel_rfl) ?yE16 ?rE16
            case yE16 => (intro wz hz; go_simp; try with_reducible rfl)
            (try simp only [Act.put, List.setIfInBounds_toArray, List.set_cons_zero, List.set_cons_succ])
            refine PlanO.take (v := ?vE17) (by kernel_rfl) ?yE17 ?rE17
            case yE17 => (intro wz hz; go_simp; try with_reducible rfl)
            (try simp only [Act.put, List.setIfInBounds_toArray, List.set_cons_zero, List.set_cons_succ])
            refine PlanO.take (v := ?vE19) (by kernel_rfl) ?yE19 ?rE19
            case yE19 => (intro wz hz; go_simp; try with_reducible rfl)
            (try simp only [Act.put, List.setIfInBounds_toArray, List.set_cons_zero, List.set_cons_succ])
            refine PlanO.exec (fun K hK => ?_)
            go_simp
            go_at_call 15
            (with_reducible refine (HLF.out _ HC8.out).mono ?_)
            rintro e w9 ⟨m, rfl, hm, hb9⟩
            have hmz : ¬ (nn : Int) < (m : Int) := by omega
            have HC9 := Lib.hid (CaW.then_ HI.out HC8.out hb9)
            have HE9 := Lib.hid hb9
            clear hb9
            go_wp2_with fail
            refine hK.out _ _ HE9.out ?_
            clear hK K
            (try simp only [Act.put, List.setIfInBounds_toArray, List.set_cons_zero, List.set_cons_succ])
            refine PlanO.take (v := ?vE20) (by kernel_rfl) ?yE20 ?rE20
            case yE20 => (intro wz hz; go_simp; try with_reducible rfl)
            (try simp only [Act.put, List.setIfInBounds_toArray, List.set_cons_zero, List.set_cons_succ])
            refine PlanO.take (v := ?vE21) (by kernel_rfl) ?yE21 ?rE21
            case yE21 => (intro wz hz; go_simp; try with_reducible rfl)
            (try simp only [Act.put, List.setIfInBounds_toArray, List.set_cons_zero, List.set_cons_succ])
            refine PlanO.done (NoPanic.normal ?_)
            go_wp2
            refine ⟨⟨i + 2, k + 2, T7, by omega, by omega, by go_num, HC9, Lib.hid (fun h => by omega), Lib.hid (fun _ => HN2.out)⟩, by simp only [intOf]; omega⟩
      · obtain ⟨i1, hi1⟩ : ∃ i1, i + 1 = i1 := ⟨_, rfl⟩
        have w3 : IntKind.i64.wrap (i1 : Int) = (i1 : Int) := IntWalk.i64_in _ (by omega)
        have hi1z : (i : Int) + 1 = (i1 : Int) := by omega
        have hlz : ¬ (i1 : Int) < (ns.length : Int) := by omega
        clear hi1
        rcases Nat.eq_zero_or_pos nn with hz0 | hz0
        · have hnz : (nn : Int) = 0 := by omega
          have HBW := Lib.hid HCW.out.below
          clear hlt
          subst hz0
          go_wp2_with (go_at_call 8; (refine (HAW.out _).mono ?_); rintro e w9 ⟨rfl, hb9⟩; have HB9 := Lib.hid hb9; clear hb9)
          go_ret
          exact ⟨rfl, belowT HBW.out HB9.out⟩
        · have hnz : ¬ (nn : Int) = 0 := by omega
          by_cases hn1 : 1 < ns.length
          · have hnz1 : 1 < (ns.length : Int) := by omega
            have HBW := Lib.hid HCW.out.below
            clear hlt hz0
            go_wp2_with (go_at_call 8; (refine (HAW.out _).mono ?_); rintro e w9 ⟨rfl, hb9⟩; have HB9 := Lib.hid hb9; clear hb9)
            go_ret
            exact ⟨rfl, belowT HBW.out HB9.out⟩
          · have hnz1 : ¬ 1 < (ns.length : Int) := by omega
            obtain rfl : T = [] := HT0.out (by rcases Nat.eq_zero_or_pos i with h | h; exact h; exact absurd (HN1.out h) hn1)
            have HL := Lib.hid (caw_zero HI.out HCW.out)
            clear hlt hz0
            go_wp2_with fail
            with_reducible refine HL.out.mono ?_
            rintro e w3 ⟨rfl, hc3⟩
            have HC3 := Lib.hid hc3
            clear hc3
            go_wp2_with (go_at_call 8; (refine (HAW.out _).mono ?_); rintro e w9 ⟨rfl, hb9⟩; have HB9 := Lib.hid hb9; clear hb9)
            go_ret
            exact ⟨rfl, belowT HC3.out.below HB9.out⟩
end Go.Proofs.Ytmlijnekidihbaa
