import Derived.Test.YtmlijnekidihbaaMg05
import Derived.OpenShut

/-
  The walk of CacheFalls.
-/
namespace Go.Proofs.Ytmlijnekidihbaa
open Go.RowKit

set_option maxRecDepth 100000 in
set_option maxHeartbeats 4000000 in
theorem cacheFalls_walkC {Dk : (CKey → List UInt8 → Prop) → Bool → Nat → (Nat → Prop) → World → Nat → Prop} {Ca : (CKey → List UInt8 → Prop) → Nat → Bool → Nat → (Nat → Prop) → World → Nat → Nat → List (CKey × List UInt8) → Prop} (hi : CacheC Dk Ca) (a0 : Int) (v1 : Value) (ns : List UInt8) (a2 a3 a4 : Int) (dn : Bool) (a6 : Int) (W : World) (wa0 : (Lit.int .u8 a0).wf = true) (w1 : RdB W v1 ns) (wa2 : (Lit.int .u8 a2).wf = true) (wa3 : (Lit.int .u8 a3).wf = true) (wa4 : (Lit.int .u8 a4).wf = true) (wa6 : (Lit.int .u8 a6).wf = true) :
    Calls Try.prog 4 #[.int .u8 a0, v1, .int .u8 a2, .int .u8 a3, .int .u8 a4, .bool dn, .int .u8 a6] W fun r w' => r = .returned (.bool true) ∧ Below W.heap.size W w' := by
  have HAW := Lib.hid (awake16_any hi)
  have HI := Lib.hid hi
  have n0 := bounds_u8 wa0
  obtain ⟨sl, rfl⟩ : ∃ n : Nat, a0 = (n : Int) := ⟨a0.toNat, by omega⟩
  have n2 := bounds_u8 wa2
  obtain ⟨cr, rfl⟩ : ∃ n : Nat, a2 = (n : Int) := ⟨a2.toNat, by omega⟩
  have n3 := bounds_u8 wa3
  obtain ⟨kp, rfl⟩ : ∃ n : Nat, a3 = (n : Int) := ⟨a3.toNat, by omega⟩
  have n4 := bounds_u8 wa4
  obtain ⟨nm, rfl⟩ : ∃ n : Nat, a4 = (n : Int) := ⟨a4.toNat, by omega⟩
  have n6 := bounds_u8 wa6
  obtain ⟨ag, rfl⟩ : ∃ n : Nat, a6 = (n : Int) := ⟨a6.toNat, by omega⟩
  clear wa0 wa2 wa3 wa4 wa6
  obtain ⟨va, vc, rfl, hc1, hc2⟩ := w1.form
  unfold maxLen at hc2
  have HV0 := Lib.hid w1
  clear w1 hi
  by_cases c1 : 60 < ns.length
  · have d1 : 60 < (ns.length : Int) := by omega
    go_enter Try.func4, Try.ntmps4
    go_wp2_with (go_at_call 8; (refine (HAW.out _).mono ?_); rintro e w9 ⟨rfl, hb9⟩; have HB9 := Lib.hid hb9; clear hb9)
    go_ret
    exact ⟨rfl, HB9.out⟩
  · have d1 : ¬ 60 < (ns.length : Int) := by omega
    obtain ⟨n5, hn5⟩ : ∃ n5, sl % 5 = n5 := ⟨_, rfl⟩
    obtain ⟨c5, hc5⟩ : ∃ c5, cr % 40 = c5 := ⟨_, rfl⟩
    obtain ⟨m6, hm6⟩ : ∃ m6, ag % 6 = m6 := ⟨_, rfl⟩
    obtain ⟨nn, hnn⟩ : ∃ nn, 1 + n5 = nn := ⟨_, rfl⟩
    obtain ⟨mm, hmm⟩ : ∃ mm, 1 + m6 = mm := ⟨_, rfl⟩
    obtain ⟨cc, hcc⟩ : ∃ cc, 1 + c5 = cc := ⟨_, rfl⟩
    obtain ⟨kk, hkk⟩ : ∃ kk, kp * 29 = kk := ⟨_, rfl⟩
    have r1 : (sl : Int).tmod 5 = (n5 : Int) := by rw [Int.tmod_eq_emod_of_nonneg (by omega)]; omega
    have r2 : (sl : Int) % 5 = (n5 : Int) := by omega
    have r3 : (cr : Int).tmod 40 = (c5 : Int) := by rw [Int.tmod_eq_emod_of_nonneg (by omega)]; omega
    have r4 : (cr : Int) % 40 = (c5 : Int) := by omega
    have r5 : (ag : Int).tmod 6 = (m6 : Int) := by rw [Int.tmod_eq_emod_of_nonneg (by omega)]; omega
    have r6 : (ag : Int) % 6 = (m6 : Int) := by omega
    have s1 : 1 + (n5 : Int) = (nn : Int) := by omega
    have s2 : 1 + (c5 : Int) = (cc : Int) := by omega
    have s3 : 1 + (m6 : Int) = (mm : Int) := by omega
    have s4 : (kp : Int) * 29 = (kk : Int) := by omega
    have b1 : nn ≤ 5 := by omega
    have b2 : cc ≤ 40 ∧ 1 ≤ cc := by omega
    have b3 : mm ≤ 6 := by omega
    have b4 : kk ≤ 10000 := by omega
    have u1 : IntKind.i64.wrap (nn : Int) = (nn : Int) := IntWalk.i64_in _ (by omega)
    have u2 : IntKind.i64.wrap (cc : Int) = (cc : Int) := IntWalk.i64_in _ (by omega)
    have u3 : IntKind.i64.wrap (mm : Int) = (mm : Int) := IntWalk.i64_in _ (by omega)
    have u4 : IntKind.i64.wrap (kk : Int) = (kk : Int) := IntWalk.i64_in _ (by omega)
    have HN := Lib.hid (caw_new HI.out dataD (Below.refl W.heap.size W) 1048576 (cc : Int) 0 dn (.slice none 0 0) (by omega) (by omega) (by omega) false (by rw [decide_eq_false (show ¬ (cc : Int) < 1 by omega)]; rfl))
    have HLN := Lib.hid (lim_of (show nn ≤ 64 by omega))
    have HLM := Lib.hid (lim_of (show mm ≤ 64 by omega))
    clear hn5 hc5 hm6 hnn hmm hcc hkk
    go_enter Try.func4, Try.ntmps4
    go_wp2_with (first | (go_at_call 10; (refine HN.out.mono ?_); rintro e w1 ⟨p, rfl, hd⟩; have HD := Lib.hid (caw_fresh HI.out hd (nn : Int) (nat_wf (by omega))); clear hd) | (go_at_call 9; (refine HD.out.mono ?_); rintro e w2 ⟨q, rfl, hc⟩; rw [HLN.out] at hc; have HC := Lib.hid (show CaW Ca dataD nn false 1 W w2 q p [] from hc); clear hc))
    go_loopw [18] (fun x9 wr => ∃ (i k : Nat) (T : List (CKey × List UInt8)), i ≤ ns.length + 1 ∧ k ≤ 1 + i ∧ x9 = .int .i64 (i : Int) ∧ Hid (CaW Ca dataD nn false k W wr q p T)) (fun x9 _ => ns.length + 1 - (intOf x9).toNat)
    case atStart => exact ⟨0, 1, [], Nat.zero_le _, Nat.le_refl _, rfl, HC⟩
    case round =>
      clear HC HN
      obtain ⟨i, k, T, hin, hki, rfl, HCW⟩ := hrel
      by_cases hlt : i + 1 < ns.length
      · obtain ⟨bb, off, cap', hvv, _, _, hbw, hcell⟩ := HV0.out.cells (by intro h; rw [h] at hlt; simp at hlt)
        cases hvv
        have z0 : wr.drew.cell? ⟨bb, off + i, none⟩ = _ := (HCW.out.below.cell (p := ⟨bb, off + i, none⟩) hbw).trans (hcell i (by omega))
        obtain ⟨i1, hi1⟩ : ∃ i1, i + 1 = i1 := ⟨_, rfl⟩
        rw [hi1] at hlt
        have z1 : wr.drew.cell? ⟨bb, off + i1, none⟩ = _ := (HCW.out.below.cell (p := ⟨bb, off + i1, none⟩) hbw).trans (hcell i1 hlt)
        have hbl : bb < wr.drew.heap.size := Nat.lt_of_lt_of_le hbw HCW.out.below.size
        have hx := byte_le (ns.getD i 0)
        have hy := byte_le (ns.getD i1 0)
        unfold bv at z0 z1
        generalize (ns.getD i 0).toNat = x at *
        generalize (ns.getD i1 0).toNat = y at *
        obtain ⟨a, hxa⟩ : ∃ a, x % 6 = a := ⟨_, rfl⟩
        obtain ⟨c, hyc⟩ : ∃ c, y % 4 = c := ⟨_, rfl⟩
        have ha6 : a < 6 := by omega
        have hc4 : c < 4 := by omega
        have m1 : (x : Int).tmod 6 = (a : Int) := by rw [Int.tmod_eq_emod_of_nonneg (by omega)]; omega
        have m2 : (x : Int) % 6 = (a : Int) := by omega
        have m3 : (y : Int).tmod 4 = (c : Int) := by rw [Int.tmod_eq_emod_of_nonneg (by omega)]; omega
        have m4 : (y : Int) % 4 = (c : Int) := by omega
        have w1 : IntKind.u8.wrap (a : Int) = (a : Int) := by rw [IntKind.wrap_u8]; omega
        have w2 : IntKind.i64.wrap (c : Int) = (c : Int) := IntWalk.i64_in _ (by omega)
        have w3 : IntKind.i64.wrap (i1 : Int) = (i1 : Int) := IntWalk.i64_in _ (by omega)
        have w4 : IntKind.i64.wrap (y : Int) = (y : Int) := IntWalk.i64_in _ (by omega)
        have a6 : a % 6 = a := by omega
        have hi1z : (i : Int) + 1 = (i1 : Int) := by omega
        have hlz : (i1 : Int) < (ns.length : Int) := by omega
        have HI1 := Lib.hid hi1
        clear hi1
        have hlz2 : (i : Int) < (ns.length : Int) := by omega
        have HNM := Lib.hid (fun w => name_any a (by omega) w)
        rw [a6] at HNM
        have HDT := Lib.hid (data_any a c (by omega) (by omega))
        go_wp2
        have hcd := HCW.out.then_ HI.out ((Below.refl _ _).drew)
        have HCD := Lib.hid hcd
        clear hcd HCW
        refine wp_region_plan [(true, 0), (true, 1), (true, 2), (true, 3), (true, 4), (true, 5), (true, 6), (true, 7), (true, 8), (true, 9), (true, 10), (true, 11), (true, 12), (true, 13)] (by kernel_rfl) (by kernel_rfl) (by kernel_rfl) (by kernel_rfl) (by kernel_rfl) ?_
        simp only [planO, List.drop_succ_cons, List.drop_zero]
        refine PlanO.take (v := ?vA0) (by kernel_rfl) ?yA0 ?rA0
        case yA0 => (intro wz hz; go_simp; try with_reducible rfl)
        (try simp only [Act.put, List.setIfInBounds_toArray, List.set_cons_zero, List.set_cons_succ])
        refine PlanO.take (v := ?vA1) (by kernel_rfl) ?yA1 ?rA1
        case yA1 => (intro wz hz; go_simp; try with_reducible rfl)
        (try simp only [Act.put, List.setIfInBounds_toArray, List.set_cons_zero, List.set_cons_succ])
        refine PlanO.take (v := ?vA2) (by kernel_rfl) ?yA2 ?rA2
        case yA2 => (intro wz hz; go_simp; try with_reducible rfl)
        (try simp only [Act.put, List.setIfInBounds_toArray, List.set_cons_zero, List.set_cons_succ])
        refine PlanO.take (v := ?vA3) (by kernel_rfl) ?yA3 ?rA3
        case yA3 => (intro wz hz; have c0 := (hz.cell (p := ⟨bb, off + i, none⟩) hbl).trans z0; go_simp; try with_reducible rfl)
        (try simp only [Act.put, List.setIfInBounds_toArray, List.set_cons_zero, List.set_cons_succ])
        refine PlanO.take (v := ?vA4) (by kernel_rfl) ?yA4 ?rA4
        case yA4 => (intro wz hz; go_simp; try with_reducible rfl)
        (try simp only [Act.put, List.setIfInBounds_toArray, List.set_cons_zero, List.set_cons_succ])
        refine PlanO.take (v := ?vA5) (by kernel_rfl) ?yA5 ?rA5
        case yA5 => (intro wz hz; go_simp; try with_reducible rfl)
        (try simp only [Act.put, List.setIfInBounds_toArray, List.set_cons_zero, List.set_cons_succ])
        refine PlanO.take (v := ?vA6) (by kernel_rfl) ?yA6 ?rA6
        case yA6 => (intro wz hz; go_simp; try with_reducible rfl)
        (try simp only [Act.put, List.setIfInBounds_toArray, List.set_cons_zero, List.set_cons_succ])
        refine PlanO.take (v := ?vA7) (by kernel_rfl) ?yA7 ?rA7
        case yA7 => (intro wz hz; go_simp; try with_reducible rfl)
        (try simp only [Act.put, List.setIfInBounds_toArray, List.set_cons_zero, List.set_cons_succ])
        refine PlanO.take (v := ?vA8) (by kernel_rfl) ?yA8 ?rA8
        case yA8 => (intro wz hz; go_simp; try with_reducible rfl)
        (try simp only [Act.put, List.setIfInBounds_toArray, List.set_cons_zero, List.set_cons_succ])
        refine PlanO.take (v := ?vA9) (by kernel_rfl) ?yA9 ?rA9
        case yA9 => (intro wz hz; have c1 := (hz.cell (p := ⟨bb, off + i1, none⟩) hbl).trans z1; go_simp; try with_reducible rfl)
        (try simp only [Act.put, List.setIfInBounds_toArray, List.set_cons_zero, List.set_cons_succ])
        refine PlanO.take (v := ?vA10) (by kernel_rfl) ?yA10 ?rA10
        case yA10 => (intro wz hz; go_simp; try with_reducible rfl)
        (try simp only [Act.put, List.setIfInBounds_toArray, List.set_cons_zero, List.set_cons_succ])
        refine PlanO.take (v := ?vA11) (by kernel_rfl) ?yA11 ?rA11
        case yA11 => (intro wz hz; go_simp; try with_reducible rfl)
        (try simp only [Act.put, List.setIfInBounds_toArray, List.set_cons_zero, List.set_cons_succ])
        refine PlanO.take (v := ?vA12) (by kernel_rfl) ?yA12 ?rA12
        case yA12 => (intro wz hz; go_simp; try with_reducible rfl)
        (try simp only [Act.put, List.setIfInBounds_toArray, List.set_cons_zero, List.set_cons_succ])
        refine PlanO.take (v := ?vA13) (by kernel_rfl) ?yA13 ?rA13
        case yA13 => (intro wz hz; go_simp; try with_reducible rfl)
        (try simp only [Act.put, List.setIfInBounds_toArray, List.set_cons_zero, List.set_cons_succ])
        refine PlanO.done (NoPanic.normal ?_)
        clear z0 z1
        obtain ⟨wq, hwq⟩ : ∃ wq, wq = wr.drew := ⟨_, rfl⟩
        rw [← hwq] at HCD hbl ⊢
        have HCW := HCD
        clear HCD hwq hbl
        go_wp2_with (first | (go_at_call 12; (with_reducible refine (HNM.out _).mono ?_); rintro e w3 ⟨rfl, hb3⟩; have HC3 := Lib.hid (HCW.out.then_ HI.out hb3); clear hb3) | (go_at_call 13; (with_reducible refine (HDT.out _).mono ?_); rintro e w4 ⟨x4, rfl, ho4, hb4⟩; have HP4 := Lib.hid (caw_putD HI.out HC3.out (by omega) ha6 hc4 x4 hb4 ho4); obtain ⟨a4, c4, rfl, _, _⟩ := (OwnB.read ho4).form; clear ho4 hb4) | (go_at_call 14; (with_reducible refine HP4.out.mono ?_); rintro e w5 ⟨rfl, T5, hc5, _⟩; have HC5 := Lib.hid hc5; clear hc5))
        refine ⟨⟨i + 2, k + 1, T5, by omega, by omega, by go_num, HC5⟩, by simp only [intOf]; omega⟩
      · obtain ⟨i1, hi1⟩ : ∃ i1, i + 1 = i1 := ⟨_, rfl⟩
        have w3 : IntKind.i64.wrap (i1 : Int) = (i1 : Int) := IntWalk.i64_in _ (by omega)
        have hi1z : (i : Int) + 1 = (i1 : Int) := by omega
        have hlz : ¬ (i1 : Int) < (ns.length : Int) := by omega
        have HFL := Lib.hid (caw_fall HI.out (HCW.out.disk HI.out) (by omega) (kk : Int) (nm : Int) (by omega) (by omega) (by omega) (by omega))
        have hk62 : k ≤ 62 := by omega
        clear hi1 hlt hki
        go_upto_region 14 with (go_at_call 16; (with_reducible refine HFL.out.mono ?_); rintro e w6 ⟨rfl, ok2, hd6⟩; have HD6 := Lib.hid (caw_open HI.out hd6 (by omega) (mm : Int) (nat_wf (by omega))); clear hd6)
        go_wp2_with (go_at_call 9; (with_reducible refine HD6.out.mono ?_); rintro e w7 ⟨q2, T7, rfl, hc, _⟩; rw [HLM.out] at hc; have HC7 := Lib.hid (show CaW Ca dataD mm ok2 (k + 1 + 1) W w7 q2 p T7 from hc); clear hc)
        clear HCW HFL HD6
        go_loopw [21] (fun x9 wr => ∃ (r k : Nat) (T : List (CKey × List UInt8)), r ≤ 2 ∧ k ≤ 64 + 40 * r ∧ x9 = .int .i64 (r : Int) ∧ Hid (CaW Ca dataD mm ok2 k W wr q2 p T)) (fun x9 _ => 2 - (intOf x9).toNat)
        case atStart => exact ⟨0, k + 1 + 1, T7, Nat.zero_le _, by omega, rfl, HC7⟩
        case round =>
          clear HC7
          obtain ⟨r, k, T, hr2, hkr, rfl, HCW⟩ := hrel
          by_cases hrl : r < 2
          · have hrz : (r : Int) < 2 := by omega
            go_wp2
            go_loopw [22] (fun x9 wr => ∃ (a k : Nat) (T : List (CKey × List UInt8)), a ≤ 6 ∧ k ≤ 64 + 40 * r + 4 * a ∧ x9 = .int .i64 (a : Int) ∧ Hid (CaW Ca dataD mm ok2 k W wr q2 p T)) (fun x9 _ => 6 - (intOf x9).toNat)
            case atStart => exact ⟨0, k, T, Nat.zero_le _, by omega, rfl, HCW⟩
            case round =>
              clear HCW
              obtain ⟨a, k, T, ha6x, hka, rfl, HCW⟩ := hrel
              by_cases ha6 : a < 6
              · have haz : (a : Int) < 6 := by omega
                have wa1 : IntKind.u8.wrap (a : Int) = (a : Int) := by rw [IntKind.wrap_u8]; omega
                have a6 : a % 6 = a := by omega
                have HNM := Lib.hid (fun w => name_any a (by omega) w)
                rw [a6] at HNM
                go_wp2
                go_loopw [23] (fun x9 wr => ∃ (c k : Nat) (T : List (CKey × List UInt8)), c ≤ 4 ∧ k ≤ 64 + 40 * r + 4 * a + c ∧ x9 = .int .i64 (c : Int) ∧ Hid (CaW Ca dataD mm ok2 k W wr q2 p T)) (fun x9 _ => 4 - (intOf x9).toNat)
                case atStart => exact ⟨0, k, T, Nat.zero_le _, by omega, rfl, HCW⟩
                case round =>
                  clear HCW
                  obtain ⟨c, k, T, hc4x, hkc, rfl, HCW⟩ := hrel
                  by_cases hc4 : c < 4
                  · have hcz : (c : Int) < 4 := by omega
                    have HDT := Lib.hid (data_any a c (by omega) (by omega))
                    cases hl : (lookC T (nameB a, (c : Int))).isSome with
                    | true =>
                      have HG := Lib.hid (fun w (h : CaW Ca dataD mm ok2 k W w q2 p T) => caw_told HI.out h (by omega) ha6 hc4 hl)
                      clear hl
                      go_upto_region 25 with (first | (go_at_call 12; (with_reducible refine (HNM.out _).mono ?_); rintro e w6 ⟨rfl, hb6⟩; have HC6 := Lib.hid (HCW.out.then_ HI.out hb6); clear hb6) | (go_at_call 11; (with_reducible refine (HG.out _ HC6.out).mono ?_); rintro e w7 ⟨va7, m7, vc7, rfl, hr7, T7, hc7, _⟩; have HC7 := Lib.hid hc7; have HR7 := Lib.hid hr7; clear hr7 hc7))
                      go_wp2
                      refine wp_region_plan [(true, 0), (true, 1), (true, 2), (true, 3), (true, 4), (true, 5), (true, 6), (false, 7), (true, 8), (true, 9), (true, 10), (true, 11), (true, 12), (true, 13), (true, 14), (true, 15), (true, 16), (true, 17), (true, 18), (true, 19)] (by kernel_rfl) (by kernel_rfl) (by kernel_rfl) (by kernel_rfl) (by kernel_rfl) ?_
                      simp only [planO, List.drop_succ_cons, List.drop_zero]
                      refine PlanO.take (v := ?vB0) (by kernel_rfl) ?yB0 ?rB0
                      case yB0 => (intro wz hz; go_simp; try with_reducible rfl)
                      (try simp only [Act.put, List.setIfInBounds_toArray, List.set_cons_zero, List.set_cons_succ])
                      refine PlanO.take (v := ?vB1) (by kernel_rfl) ?yB1 ?rB1
                      case yB1 => (intro wz hz; go_simp; try with_reducible rfl)
                      (try simp only [Act.put, List.setIfInBounds_toArray, List.set_cons_zero, List.set_cons_succ])
                      refine PlanO.take (v := ?vB2) (by kernel_rfl) ?yB2 ?rB2
                      case yB2 => (intro wz hz; go_simp; try with_reducible rfl)
                      (try simp only [Act.put, List.setIfInBounds_toArray, List.set_cons_zero, List.set_cons_succ])
                      refine PlanO.take (v := ?vB3) (by kernel_rfl) ?yB3 ?rB3
                      case yB3 => (intro wz hz; have hs := str_of (HR7.out.below (Below.trans ((Below.refl _ _).drew) hz) (Nat.le_refl _)); go_simp; try with_reducible rfl)
                      (try simp only [Act.put, List.setIfInBounds_toArray, List.set_cons_zero, List.set_cons_succ])
                      refine PlanO.take (v := ?vB4) (by kernel_rfl) ?yB4 ?rB4
                      case yB4 => (intro wz hz; go_simp; try with_reducible rfl)
                      (try simp only [Act.put, List.setIfInBounds_toArray, List.set_cons_zero, List.set_cons_succ])
                      refine PlanO.take (v := ?vB5) (by kernel_rfl) ?yB5 ?rB5
                      case yB5 => (intro wz hz; go_simp; try with_reducible rfl)
                      (try simp only [Act.put, List.setIfInBounds_toArray, List.set_cons_zero, List.set_cons_succ])
                      refine PlanO.take (v := ?vB6) (by kernel_rfl) ?yB6 ?rB6
                      case yB6 => (intro wz hz; go_simp; try with_reducible rfl)
                      (try simp only [Act.put, List.setIfInBounds_toArray, List.set_cons_zero, List.set_cons_succ])
                      refine PlanO.exec (fun K hK => ?_)
                      go_simp
                      go_at_call 13
                      (with_reducible refine (HDT.out _).mono ?_)
                      rintro e w8 ⟨x8, rfl, ho8, hb8⟩
                      have HR8 := Lib.hid (OwnB.read ho8)
                      have HC8 := Lib.hid (CaW.then_ HI.out (CaW.then_ HI.out HC7.out (Below.refl _ _).drew) hb8)
                      have HE8 := Lib.hid hb8
                      obtain ⟨a8, c8, rfl, _, _⟩ := HR8.out.form
                      clear ho8 hb8
                      go_wp2_with fail
                      refine hK.out _ _ HE8.out ?_
                      clear hK K
                      (try simp only [Act.put, List.setIfInBounds_toArray, List.set_cons_zero, List.set_cons_succ])
                      refine PlanO.take (v := ?vB8) (by kernel_rfl) ?yB8 ?rB8
                      case yB8 => (intro wz hz; have hs := str_of (HR8.out.below hz (Nat.le_refl _)); go_simp; try with_reducible rfl)
                      (try simp only [Act.put, List.setIfInBounds_toArray, List.set_cons_zero, List.set_cons_succ])
                      refine PlanO.take (v := ?vB9) (by kernel_rfl) ?yB9 ?rB9
                      case yB9 => (intro wz hz; go_simp; try with_reducible rfl)
                      (try simp only [Act.put, List.setIfInBounds_toArray, List.set_cons_zero, List.set_cons_succ])
                      refine PlanO.take (v := ?vB10) (by kernel_rfl) ?yB10 ?rB10
                      case yB10 => (intro wz hz; go_simp; try with_reducible rfl)
                      (try simp only [Act.put, List.setIfInBounds_toArray, List.set_cons_zero, List.set_cons_succ])
                      refine PlanO.take (v := ?vB11) (by kernel_rfl) ?yB11 ?rB11
                      case yB11 => (intro wz hz; go_simp; try with_reducible rfl)
                      (try simp only [Act.put, List.setIfInBounds_toArray, List.set_cons_zero, List.set_cons_succ])
                      refine PlanO.take (v := ?vB12) (by kernel_rfl) ?yB12 ?rB12
                      case yB12 => (intro wz hz; go_simp; try with_reducible rfl)
                      (try simp only [Act.put, List.setIfInBounds_toArray, List.set_cons_zero, List.set_cons_succ])
                      refine PlanO.take (v := ?vB13) (by kernel_rfl) ?yB13 ?rB13
                      case yB13 => (intro wz hz; go_simp; try with_reducible rfl)
                      (try simp only [Act.put, List.setIfInBounds_toArray, List.set_cons_zero, List.set_cons_succ])
                      refine PlanO.take (v := ?vB14) (by kernel_rfl) ?yB14 ?rB14
                      case yB14 => (intro wz hz; go_simp; try with_reducible rfl)
                      (try simp only [Act.put, List.setIfInBounds_toArray, List.set_cons_zero, List.set_cons_succ])
                      refine PlanO.skip (by kernel_rfl) ?_
                      (try simp only [Act.put, List.setIfInBounds_toArray, List.set_cons_zero, List.set_cons_succ])
                      refine PlanO.skip (by kernel_rfl) ?_
                      (try simp only [Act.put, List.setIfInBounds_toArray, List.set_cons_zero, List.set_cons_succ])
                      refine PlanO.skip (by kernel_rfl) ?_
                      (try simp only [Act.put, List.setIfInBounds_toArray, List.set_cons_zero, List.set_cons_succ])
                      refine PlanO.take (v := ?vB18) (by kernel_rfl) ?yB18 ?rB18
                      case yB18 => (intro wz hz; go_simp; try with_reducible rfl)
                      (try simp only [Act.put, List.setIfInBounds_toArray, List.set_cons_zero, List.set_cons_succ])
                      refine PlanO.take (v := ?vB19) (by kernel_rfl) ?yB19 ?rB19
                      case yB19 => (intro wz hz; go_simp; try with_reducible rfl)
                      (try simp only [Act.put, List.setIfInBounds_toArray, List.set_cons_zero, List.set_cons_succ])
                      refine PlanO.done (NoPanic.normal ?_)
                      go_wp2
                      refine ⟨⟨c + 1, k + 1, T7, by omega, by omega, by go_num, HC8⟩, by simp only [intOf]; omega⟩
                    | false =>
                      have HG := Lib.hid (fun w (h : CaW Ca dataD mm ok2 k W w q2 p T) => caw_untold HI.out h (by omega) ha6 hc4 hl)
                      clear hl
                      go_upto_region 25 with (first | (go_at_call 12; (with_reducible refine (HNM.out _).mono ?_); rintro e w6 ⟨rfl, hb6⟩; have HC6 := Lib.hid (HCW.out.then_ HI.out hb6); clear hb6) | (go_at_call 11; (with_reducible refine (HG.out _ HC6.out).mono ?_); rintro e w7 ⟨va7, vc7, rfl, hr7, T7, hc7, _⟩; have HC7 := Lib.hid hc7; clear hr7 hc7))
                      go_wp2
                      refine wp_region_plan [(true, 0), (true, 1), (true, 2), (true, 3), (true, 4), (true, 5), (true, 6), (false, 7), (true, 8), (true, 9), (true, 10), (true, 11), (true, 12), (true, 13), (true, 14), (true, 15), (true, 16), (true, 17), (true, 18), (true, 19)] (by kernel_rfl) (by kernel_rfl) (by kernel_rfl) (by kernel_rfl) (by kernel_rfl) ?_
                      simp only [planO, List.drop_succ_cons, List.drop_zero]
                      refine PlanO.take (v := ?vC0) (by kernel_rfl) ?yC0 ?rC0
                      case yC0 => (intro wz hz; go_simp; try with_reducible rfl)
                      (try simp only [Act.put, List.setIfInBounds_toArray, List.set_cons_zero, List.set_cons_succ])
                      refine PlanO.take (v := ?vC1) (by kernel_rfl) ?yC1 ?rC1
                      case yC1 => (intro wz hz; go_simp; try with_reducible rfl)
                      (try simp only [Act.put, List.setIfInBounds_toArray, List.set_cons_zero, List.set_cons_succ])
                      refine PlanO.skip (by kernel_rfl) ?_
                      (try simp only [Act.put, List.setIfInBounds_toArray, List.set_cons_zero, List.set_cons_succ])
                      refine PlanO.skip (by kernel_rfl) ?_
                      (try simp only [Act.put, List.setIfInBounds_toArray, List.set_cons_zero, List.set_cons_succ])
                      refine PlanO.skip (by kernel_rfl) ?_
                      (try simp only [Act.put, List.setIfInBounds_toArray, List.set_cons_zero, List.set_cons_succ])
                      refine PlanO.skip (by kernel_rfl) ?_
                      (try simp only [Act.put, List.setIfInBounds_toArray, List.set_cons_zero, List.set_cons_succ])
                      refine PlanO.skip (by kernel_rfl) ?_
                      (try simp only [Act.put, List.setIfInBounds_toArray, List.set_cons_zero, List.set_cons_succ])
                      refine PlanO.skip (by kernel_rfl) ?_
                      (try simp only [Act.put, List.setIfInBounds_toArray, List.set_cons_zero, List.set_cons_succ])
                      refine PlanO.skip (by kernel_rfl) ?_
                      (try simp only [Act.put, List.setIfInBounds_toArray, List.set_cons_zero, List.set_cons_succ])
                      refine PlanO.skip (by kernel_rfl) ?_
                      (try simp only [Act.put, List.setIfInBounds_toArray, List.set_cons_zero, List.set_cons_succ])
                      refine PlanO.take (v := ?vC10) (by kernel_rfl) ?yC10 ?rC10
                      case yC10 => (intro wz hz; go_simp; try with_reducible rfl)
                      (try simp only [Act.put, List.setIfInBounds_toArray, List.set_cons_zero, List.set_cons_succ])
                      refine PlanO.take (v := ?vC11) (by kernel_rfl) ?yC11 ?rC11
                      case yC11 => (intro wz hz; go_simp; try with_reducible rfl)
                      (try simp only [Act.put, List.setIfInBounds_toArray, List.set_cons_zero, List.set_cons_succ])
                      refine PlanO.take (v := ?vC12) (by kernel_rfl) ?yC12 ?rC12
                      case yC12 => (intro wz hz; go_simp; try with_reducible rfl)
                      (try simp only [Act.put, List.setIfInBounds_toArray, List.set_cons_zero, List.set_cons_succ])
                      refine PlanO.take (v := ?vC13) (by kernel_rfl) ?yC13 ?rC13
                      case yC13 => (intro wz hz; go_simp; try with_reducible rfl)
                      (try simp only [Act.put, List.setIfInBounds_toArray, List.set_cons_zero, List.set_cons_succ])
                      refine PlanO.take (v := ?vC14) (by kernel_rfl) ?yC14 ?rC14
                      case yC14 => (intro wz hz; go_simp; try with_reducible rfl)
                      (try simp only [Act.put, List.setIfInBounds_toArray, List.set_cons_zero, List.set_cons_succ])
                      refine PlanO.take (v := ?vC15) (by kernel_rfl) ?yC15 ?rC15
                      case yC15 => (intro wz hz; go_simp; try with_reducible rfl)
                      (try simp only [Act.put, List.setIfInBounds_toArray, List.set_cons_zero, List.set_cons_succ])
                      refine PlanO.take (v := ?vC16) (by kernel_rfl) ?yC16 ?rC16
                      case yC16 => (intro wz hz; go_simp; try with_reducible rfl)
                      (try simp only [Act.put, List.setIfInBounds_toArray, List.set_cons_zero, List.set_cons_succ])
                      refine PlanO.take (v := ?vC17) (by kernel_rfl) ?yC17 ?rC17
                      case yC17 => (intro wz hz; go_simp; try with_reducible rfl)
                      (try simp only [Act.put, List.setIfInBounds_toArray, List.set_cons_zero, List.set_cons_succ])
                      refine PlanO.take (v := ?vC18) (by kernel_rfl) ?yC18 ?rC18
                      case yC18 => (intro wz hz; go_simp; try with_reducible rfl)
                      (try simp only [Act.put, List.setIfInBounds_toArray, List.set_cons_zero, List.set_cons_succ])
                      refine PlanO.take (v := ?vC19) (by kernel_rfl) ?yC19 ?rC19
                      case yC19 => (intro wz hz; go_simp; try with_reducible rfl)
                      (try simp only [Act.put, List.setIfInBounds_toArray, List.set_cons_zero, List.set_cons_succ])
                      refine PlanO.done (NoPanic.normal ?_)
                      go_wp2
                      refine ⟨⟨c + 1, k + 1, T7, by omega, by omega, by go_num, Lib.hid (HC7.out.then_ HI.out (Below.refl _ _).drew)⟩, by simp only [intOf]; omega⟩
                  · have hcz : ¬ (c : Int) < 4 := by omega
                    go_wp2
                    refine ⟨⟨a + 1, k, T, by omega, by omega, by go_num, HCW⟩, by simp only [intOf]; omega⟩
              · have haz : ¬ (a : Int) < 6 := by omega
                have HLF := Lib.hid (caw_few2 HI.out HCW.out)
                go_wp2_with fail
                with_reducible refine HLF.out.mono ?_
                rintro e w8 ⟨m, rfl, hm, hb8⟩
                have hmd : decide ((mm : Int) < (m : Int)) = false := by simp; omega
                have hmdn : decide (mm < m) = false := by simp; omega
                have HC8 := Lib.hid (HCW.out.then_ HI.out hb8)
                clear hb8
                clear HCW HLF
                have hk88 : k ≤ 64 + 40 * r + 24 := by omega
                go_wp2
                go_loopw [26] (fun x9 wr => ∃ (i k : Nat) (T : List (CKey × List UInt8)), i ≤ ns.length + 1 ∧ i ≤ 7 ∧ k ≤ 64 + 40 * r + 24 + i ∧ x9 = .int .i64 (i : Int) ∧ Hid (CaW Ca dataD mm ok2 k W wr q2 p T)) (fun x9 _ => ns.length + 1 - (intOf x9).toNat)
                case atStart => exact ⟨0, k, T, Nat.zero_le _, Nat.zero_le _, by omega, rfl, HC8⟩
                case round =>
                  clear HC8
                  obtain ⟨i, k, T, hin, hi7, hki, rfl, HCW⟩ := hrel
                  by_cases hlt : i + 1 < ns.length
                  · by_cases hi6 : i < 6
                    · have hi6z : (i : Int) < 6 := by omega
                      obtain ⟨bb, off, cap', hvv, _, _, hbw, hcell⟩ := HV0.out.cells (by intro h; rw [h] at hlt; simp at hlt)
                      cases hvv
                      have z0 : wr.drew.cell? ⟨bb, off + i, none⟩ = _ := (HCW.out.below.cell (p := ⟨bb, off + i, none⟩) hbw).trans (hcell i (by omega))
                      obtain ⟨i1, hi1⟩ : ∃ i1, i + 1 = i1 := ⟨_, rfl⟩
                      rw [hi1] at hlt
                      have z1 : wr.drew.cell? ⟨bb, off + i1, none⟩ = _ := (HCW.out.below.cell (p := ⟨bb, off + i1, none⟩) hbw).trans (hcell i1 hlt)
                      have hbl : bb < wr.drew.heap.size := Nat.lt_of_lt_of_le hbw HCW.out.below.size
                      have hx := byte_le (ns.getD i 0)
                      have hy := byte_le (ns.getD i1 0)
                      unfold bv at z0 z1
                      generalize (ns.getD i 0).toNat = x at *
                      generalize (ns.getD i1 0).toNat = y at *
                      obtain ⟨a, hxa⟩ : ∃ a, x % 6 = a := ⟨_, rfl⟩
                      obtain ⟨c, hyc⟩ : ∃ c, y % 4 = c := ⟨_, rfl⟩
                      have ha6 : a < 6 := by omega
                      have hc4 : c < 4 := by omega
                      have m1 : (x : Int).tmod 6 = (a : Int) := by rw [Int.tmod_eq_emod_of_nonneg (by omega)]; omega
                      have m2 : (x : Int) % 6 = (a : Int) := by omega
                      have m3 : (y : Int).tmod 4 = (c : Int) := by rw [Int.tmod_eq_emod_of_nonneg (by omega)]; omega
                      have m4 : (y : Int) % 4 = (c : Int) := by omega
                      have w1 : IntKind.u8.wrap (a : Int) = (a : Int) := by rw [IntKind.wrap_u8]; omega
                      have w2 : IntKind.i64.wrap (c : Int) = (c : Int) := IntWalk.i64_in _ (by omega)
                      have w3 : IntKind.i64.wrap (i1 : Int) = (i1 : Int) := IntWalk.i64_in _ (by omega)
                      have w4 : IntKind.i64.wrap (y : Int) = (y : Int) := IntWalk.i64_in _ (by omega)
                      have a6 : a % 6 = a := by omega
                      have hi1z : (i : Int) + 1 = (i1 : Int) := by omega
                      have hlz : (i1 : Int) < (ns.length : Int) := by omega
                      have HI1 := Lib.hid hi1
                      clear hi1
                      have hlz2 : (i : Int) < (ns.length : Int) := by omega
                      have HNM := Lib.hid (fun w => name_any a (by omega) w)
                      rw [a6] at HNM
                      have HDT := Lib.hid (data_any a c (by omega) (by omega))
                      go_wp2
                      have hcd := HCW.out.then_ HI.out ((Below.refl _ _).drew)
                      have HCD := Lib.hid hcd
                      clear hcd HCW
                      refine wp_region_two (fun wz => Below wr.drew.heap.size wr.drew wz) (fun _ => True) [(0, 0), (0, 1), (0, 2), (0, 3), (0, 4), (0, 5), (0, 7), (0, 8), (0, 9), (0, 10), (0, 11), (0, 12), (0, 13), (0, 14), (0, 15), (0, 16), (0, 17), (0, 18), (0, 19), (0, 20), (0, 21), (0, 22), (0, 23), (0, 24), (0, 25), (2, 6), (2, 26), (3, 27)] [27] (by kernel_rfl) (by kernel_rfl) (by kernel_rfl) (by kernel_rfl) (by kernel_rfl) (Below.refl _ _) trivial ?_
                      simp only [planT, List.drop_succ_cons, List.drop_zero]
                      refine PlanT.take0 (v := ?vF0) (by kernel_rfl) ?yF0 ?rF0
                      case yF0 => (intro wz hz; go_simp; try with_reducible rfl)
                      (try simp only [Act.put, List.setIfInBounds_toArray, List.set_cons_zero, List.set_cons_succ])
                      refine PlanT.take0 (v := ?vF1) (by kernel_rfl) ?yF1 ?rF1
                      case yF1 => (intro wz hz; go_simp; try with_reducible rfl)
                      (try simp only [Act.put, List.setIfInBounds_toArray, List.set_cons_zero, List.set_cons_succ])
                      refine PlanT.take0 (v := ?vF2) (by kernel_rfl) ?yF2 ?rF2
                      case yF2 => (intro wz hz; go_simp; try with_reducible rfl)
                      (try simp only [Act.put, List.setIfInBounds_toArray, List.set_cons_zero, List.set_cons_succ])
                      refine PlanT.take0 (v := ?vF3) (by kernel_rfl) ?yF3 ?rF3
                      case yF3 => (intro wz hz; go_simp; try with_reducible rfl)
                      (try simp only [Act.put, List.setIfInBounds_toArray, List.set_cons_zero, List.set_cons_succ])
                      refine PlanT.take0 (v := ?vF4) (by kernel_rfl) ?yF4 ?rF4
                      case yF4 => (intro wz hz; have c0 := (hz.cell (p := ⟨bb, off + i, none⟩) hbl).trans z0; go_simp; try with_reducible rfl)
                      (try simp only [Act.put, List.setIfInBounds_toArray, List.set_cons_zero, List.set_cons_succ])
                      refine PlanT.take0 (v := ?vF5) (by kernel_rfl) ?yF5 ?rF5
                      case yF5 => (intro wz hz; go_simp; try with_reducible rfl)
                      (try simp only [Act.put, List.setIfInBounds_toArray, List.set_cons_zero, List.set_cons_succ])
                      refine PlanT.take0 (v := ?vF7) (by kernel_rfl) ?yF7 ?rF7
                      case yF7 => (intro wz hz; go_simp; try with_reducible rfl)
                      (try simp only [Act.put, List.setIfInBounds_toArray, List.set_cons_zero, List.set_cons_succ])
                      refine PlanT.take0 (v := ?vF8) (by kernel_rfl) ?yF8 ?rF8
                      case yF8 => (intro wz hz; go_simp; try with_reducible rfl)
                      (try simp only [Act.put, List.setIfInBounds_toArray, List.set_cons_zero, List.set_cons_succ])
                      refine PlanT.take0 (v := ?vF9) (by kernel_rfl) ?yF9 ?rF9
                      case yF9 => (intro wz hz; go_simp; try with_reducible rfl)
                      (try simp only [Act.put, List.setIfInBounds_toArray, List.set_cons_zero, List.set_cons_succ])
                      refine PlanT.take0 (v := ?vF10) (by kernel_rfl) ?yF10 ?rF10
                      case yF10 => (intro wz hz; go_simp; try with_reducible rfl)
                      (try simp only [Act.put, List.setIfInBounds_toArray, List.set_cons_zero, List.set_cons_succ])
                      refine PlanT.take0 (v := ?vF11) (by kernel_rfl) ?yF11 ?rF11
                      case yF11 => (intro wz hz; have c0 := (hz.cell (p := ⟨bb, off + i1, none⟩) hbl).trans z1; go_simp; try with_reducible rfl)
                      (try simp only [Act.put, List.setIfInBounds_toArray, List.set_cons_zero, List.set_cons_succ])
                      refine PlanT.take0 (v := ?vF12) (by kernel_rfl) ?yF12 ?rF12
                      case yF12 => (intro wz hz; go_simp; try with_reducible rfl)
                      (try simp only [Act.put, List.setIfInBounds_toArray, List.set_cons_zero, List.set_cons_succ])
                      refine PlanT.take0 (v := ?vF13) (by kernel_rfl) ?yF13 ?rF13
                      case yF13 => (intro wz hz; go_simp; try with_reducible rfl)
                      (try simp only [Act.put, List.setIfInBounds_toArray, List.set_cons_zero, List.set_cons_succ])
                      refine PlanT.take0 (v := ?vF14) (by kernel_rfl) ?yF14 ?rF14
                      case yF14 => (intro wz hz; go_simp; try with_reducible rfl)
                      (try simp only [Act.put, List.setIfInBounds_toArray, List.set_cons_zero, List.set_cons_succ])
                      refine PlanT.take0 (v := ?vF15) (by kernel_rfl) ?yF15 ?rF15
                      case yF15 => (intro wz hz; go_simp; try with_reducible rfl)
                      (try simp only [Act.put, List.setIfInBounds_toArray, List.set_cons_zero, List.set_cons_succ])
                      refine PlanT.take0 (v := ?vF16) (by kernel_rfl) ?yF16 ?rF16
                      case yF16 => (intro wz hz; go_simp; try with_reducible rfl)
                      (try simp only [Act.put, List.setIfInBounds_toArray, List.set_cons_zero, List.set_cons_succ])
                      refine PlanT.take0 (v := ?vF17) (by kernel_rfl) ?yF17 ?rF17
                      case yF17 => (intro wz hz; have c0 := (hz.cell (p := ⟨bb, off + i, none⟩) hbl).trans z0; go_simp; try with_reducible rfl)
                      (try simp only [Act.put, List.setIfInBounds_toArray, List.set_cons_zero, List.set_cons_succ])
                      refine PlanT.take0 (v := ?vF18) (by kernel_rfl) ?yF18 ?rF18
                      case yF18 => (intro wz hz; go_simp; try with_reducible rfl)
                      (try simp only [Act.put, List.setIfInBounds_toArray, List.set_cons_zero, List.set_cons_succ])
                      refine PlanT.take0 (v := ?vF19) (by kernel_rfl) ?yF19 ?rF19
                      case yF19 => (intro wz hz; go_simp; try with_reducible rfl)
                      (try simp only [Act.put, List.setIfInBounds_toArray, List.set_cons_zero, List.set_cons_succ])
                      refine PlanT.take0 (v := ?vF20) (by kernel_rfl) ?yF20 ?rF20
                      case yF20 => (intro wz hz; go_simp; try with_reducible rfl)
                      (try simp only [Act.put, List.setIfInBounds_toArray, List.set_cons_zero, List.set_cons_succ])
                      refine PlanT.take0 (v := ?vF21) (by kernel_rfl) ?yF21 ?rF21
                      case yF21 => (intro wz hz; go_simp; try with_reducible rfl)
                      (try simp only [Act.put, List.setIfInBounds_toArray, List.set_cons_zero, List.set_cons_succ])
                      refine PlanT.take0 (v := ?vF22) (by kernel_rfl) ?yF22 ?rF22
                      case yF22 => (intro wz hz; go_simp; try with_reducible rfl)
                      (try simp only [Act.put, List.setIfInBounds_toArray, List.set_cons_zero, List.set_cons_succ])
                      refine PlanT.take0 (v := ?vF23) (by kernel_rfl) ?yF23 ?rF23
                      case yF23 => (intro wz hz; have c0 := (hz.cell (p := ⟨bb, off + i1, none⟩) hbl).trans z1; go_simp; try with_reducible rfl)
                      (try simp only [Act.put, List.setIfInBounds_toArray, List.set_cons_zero, List.set_cons_succ])
                      refine PlanT.take0 (v := ?vF24) (by kernel_rfl) ?yF24 ?rF24
                      case yF24 => (intro wz hz; go_simp; try with_reducible rfl)
                      (try simp only [Act.put, List.setIfInBounds_toArray, List.set_cons_zero, List.set_cons_succ])
                      refine PlanT.take0 (v := ?vF25) (by kernel_rfl) ?yF25 ?rF25
                      case yF25 => (intro wz hz; go_simp; try with_reducible rfl)
                      (try simp only [Act.put, List.setIfInBounds_toArray, List.set_cons_zero, List.set_cons_succ])
                      refine PlanT.exec2 (fun K hK => ⟨by kernel_rfl, ?_⟩)
                      go_simp
                      go_at_call 12
                      (with_reducible refine (HNM.out _).mono ?_)
                      rintro e w3 ⟨rfl, hb3⟩
                      have HC3 := Lib.hid (HCD.out.then_ HI.out hb3)
                      have HB3 := Lib.hid hb3
                      clear hb3
                      go_wp2_with fail
                      refine hK.out _ _ HB3.out trivial ?_
                      clear hK K
                      (try simp only [Act.put, List.setIfInBounds_toArray, List.set_cons_zero, List.set_cons_succ])
                      refine PlanT.exec2 (fun K hK => ⟨by kernel_rfl, ?_⟩)
                      go_simp
                      go_at_call 13
                      (with_reducible refine (HDT.out _).mono ?_)
                      rintro e w4 ⟨x4, rfl, ho4, hb4⟩
                      have HP4 := Lib.hid (caw_putD HI.out HC3.out (by omega) ha6 hc4 x4 hb4 ho4)
                      obtain ⟨a4, c4, rfl, _, _⟩ := (OwnB.read ho4).form
                      have HB4 := Lib.hid (belowT HB3.out hb4)
                      clear ho4 hb4
                      go_wp2_with fail
                      refine hK.out _ _ HB4.out trivial ?_
                      clear hK K
                      (try simp only [Act.put, List.setIfInBounds_toArray, List.set_cons_zero, List.set_cons_succ])
                      refine PlanT.exec3 (fun K hK => ⟨by kernel_rfl, ?_⟩)
                      go_simp
                      go_at_call 14
                      (with_reducible refine HP4.out.mono ?_)
                      rintro e w5 ⟨rfl, T5, hc5, _⟩
                      have HC5 := Lib.hid hc5
                      clear hc5
                      go_wp2_with fail
                      refine hK.out _ _ trivial ?_
                      clear hK K
                      (try simp only [Act.put, List.setIfInBounds_toArray, List.set_cons_zero, List.set_cons_succ])
                      refine PlanT.done (NoPanic.normal ?_)
                      go_wp2
                      refine ⟨⟨i + 2, k + 1, T5, by omega, by omega, by omega, by go_num, HC5⟩, by simp only [intOf]; omega⟩
                    · have hi6z : ¬ (i : Int) < 6 := by omega
                      obtain ⟨i1, hi1⟩ : ∃ i1, i + 1 = i1 := ⟨_, rfl⟩
                      have w3 : IntKind.i64.wrap (i1 : Int) = (i1 : Int) := IntWalk.i64_in _ (by omega)
                      have hi1z : (i : Int) + 1 = (i1 : Int) := by omega
                      have hlz : (i1 : Int) < (ns.length : Int) := by omega
                      clear hi1 hlt
                      go_wp2
                      refine ⟨⟨r + 1, k, T, by omega, by omega, by go_num, HCW⟩, by simp only [intOf]; omega⟩
                  · obtain ⟨i1, hi1⟩ : ∃ i1, i + 1 = i1 := ⟨_, rfl⟩
                    have w3 : IntKind.i64.wrap (i1 : Int) = (i1 : Int) := IntWalk.i64_in _ (by omega)
                    have hi1z : (i : Int) + 1 = (i1 : Int) := by omega
                    have hlz : ¬ (i1 : Int) < (ns.length : Int) := by omega
                    clear hi1 hlt
                    go_wp2
                    refine ⟨⟨r + 1, k, T, by omega, by omega, by go_num, HCW⟩, by simp only [intOf]; omega⟩
          · have hrz : ¬ (r : Int) < 2 := by omega
            have HBW := Lib.hid HCW.out.below
            go_wp2_with (go_at_call 8; (refine (HAW.out _).mono ?_); rintro e w9 ⟨rfl, hb9⟩; have HB9 := Lib.hid hb9; clear hb9)
            go_ret
            exact ⟨rfl, belowT HBW.out HB9.out⟩
end Go.Proofs.Ytmlijnekidihbaa
