/-
  What the document's Rising does, for every list of entries.
-/
import Derived.Test.YteeikmpfgbfeoaaGreatKeyGood
import Derived.Test.YteeikmpfgbfeoaaGreatKeyRefCmp
import Derived.Test.YteeikmpfgbfeoaaGreatRegion
namespace Go.Proofs.YteeikmpfgbfeoaaGreat
open Go.RowKit

set_option maxRecDepth 100000 in
set_option maxHeartbeats 4000000 in
theorem rrising_any (v : Value) (es : List Ent) (w : World) (hv : RdE w v es) :
    Calls Tryz.prog 26 #[v] w fun e w' => e = .returned (.bool (risingB es)) ∧ Below w.heap.size w w' := by
  obtain ⟨a, cap, rfl, hc1, hc2⟩ := hv.form
  unfold maxLen at hc2
  go_enter Tryz.func26, Tryz.ntmps26
  go_wp2
  go_loopw [3] (fun i wr => ∃ k : Nat, k ≤ es.length ∧ i = .int .i64 k ∧ Hid (∀ j, j < k → goodAt es j = true) ∧ Below w.heap.size w wr) (fun i _ => es.length - (intOf i).toNat)
  case atStart => exact ⟨0, Nat.zero_le _, rfl, Lib.hid (fun j h => by omega), Below.refl _ _⟩
  case round =>
    obtain ⟨k, hk, rfl, HG, hb⟩ := hrel
    by_cases hlt : k < es.length
    · obtain ⟨b, off, cap', hve, _, _, hbw, hcells⟩ := (hv.below hb (Nat.le_refl _)).at_ (by intro h; subst h; simp at hlt)
      cases hve
      obtain ⟨d0, d1, d2, d3⟩ := hcells k hlt
      obtain ⟨f1, f2, _, _⟩ := fits_at hv.2 k hlt
      have hmay := rmayE_any (es.getD k Ent.none_).u (es.getD k Ent.none_).s (es.getD k Ent.none_).k (es.getD k Ent.none_).v f1 f2
      have hmb : mayE (es.getD k Ent.none_).u.data.toList (es.getD k Ent.none_).s (es.getD k Ent.none_).k (es.getD k Ent.none_).v.data.toList = (es.getD k Ent.none_).may := rfl
      rw [hmb] at hmay
      clear hmb
      have hlt' : (k : Int) < (es.length : Int) := by omega
      generalize he : es.getD k Ent.none_ = e at *
      cases hmb : e.may with
      | false =>
        have HN : Hid (goodAt es k = false) := Lib.hid (goodAt_no he hmb)
        rw [hmb] at hmay
        obtain ⟨eu, es', ek, ev⟩ := e
        simp only at d0 d1 d2 d3 hmay
        have HM := Lib.hid hmay
        clear he hmay hcells hmb
        go_wp2
        refine wp_region_plan [(true, 0), (true, 1), (true, 2), (true, 3), (false, 4), (true, 5), (true, 6), (true, 7), (true, 8), (true, 9), (true, 10), (true, 11), (true, 12), (true, 13), (true, 14), (true, 15), (true, 16), (true, 17), (true, 18), (true, 19), (true, 20), (false, 21), (true, 22), (true, 23), (true, 24)] (by kernel_rfl) (by kernel_rfl) (by kernel_rfl) (by kernel_rfl) (by kernel_rfl) ?_
        simp only [planO, List.drop_succ_cons, List.drop_zero]
        refine PlanO.take (v := ?va0) (by kernel_rfl) ?ya0 ?ra0
        case ya0 => (intro wz hz; go_simp; try with_reducible rfl)
        (try simp only [Act.put, List.setIfInBounds_toArray, List.set_cons_zero, List.set_cons_succ])
        refine PlanO.take (v := ?va1) (by kernel_rfl) ?ya1 ?ra1
        case ya1 => (intro wz hz; go_simp; try with_reducible rfl)
        (try simp only [Act.put, List.setIfInBounds_toArray, List.set_cons_zero, List.set_cons_succ])
        refine PlanO.take (v := ?va2) (by kernel_rfl) ?ya2 ?ra2
        case ya2 => (intro wz hz; go_simp; try with_reducible rfl)
        (try simp only [Act.put, List.setIfInBounds_toArray, List.set_cons_zero, List.set_cons_succ])
        refine PlanO.take (v := ?va3) (by kernel_rfl) ?ya3 ?ra3
        case ya3 => (intro wz hz; have c0 := Ext.at_ hz d0; have c1 := Ext.at_ hz d1; have c2 := Ext.at_ hz d2; have c3 := Ext.at_ hz d3; go_simp; try with_reducible rfl)
        (try simp only [Act.put, List.setIfInBounds_toArray, List.set_cons_zero, List.set_cons_succ])
        refine PlanO.exec (fun K hK => ?_)
        go_simp
        go_at_call 54
        refine (HM.out _).mono ?_
        rintro e u1 ⟨rfl, hb1⟩
        have hE1 : Ext wr.drew u1 := hb1
        go_wp2_with fail
        refine hK.out _ _ hb1 ?_
        clear hK K
        (try simp only [Act.put, List.setIfInBounds_toArray, List.set_cons_zero, List.set_cons_succ])
        refine PlanO.take (v := ?va5) (by kernel_rfl) ?ya5 ?ra5
        case ya5 => (intro wz hz; go_simp; try with_reducible rfl)
        (try simp only [Act.put, List.setIfInBounds_toArray, List.set_cons_zero, List.set_cons_succ])
        refine PlanO.take (v := ?va6) (by kernel_rfl) ?ya6 ?ra6
        case ya6 => (intro wz hz; go_simp; try with_reducible rfl)
        (try simp only [Act.put, List.setIfInBounds_toArray, List.set_cons_zero, List.set_cons_succ])
        refine PlanO.skip (by kernel_rfl) ?_
        (try simp only [Act.put, List.setIfInBounds_toArray, List.set_cons_zero, List.set_cons_succ])
        refine PlanO.skip (by kernel_rfl) ?_
        (try simp only [Act.put, List.setIfInBounds_toArray, List.set_cons_zero, List.set_cons_succ])
        refine PlanO.skip (by kernel_rfl) ?_
        (try simp only [Act.put, List.setIfInBounds_toArray, List.set_cons_zero, List.set_cons_succ])
        refine PlanO.skip (by kernel_rfl) ?_
        (try simp only [Act.put, List.setIfInBounds_toArray, List.set_cons_zero, List.set_cons_succ])
        refine PlanO.skip (by kernel_rfl) ?_
        (try simp only [Act.put, List.setIfInBounds_toArray, List.set_cons_zero, List.set_cons_succ])
        refine PlanO.skip (by kernel_rfl) ?_
        (try simp only [Act.put, List.setIfInBounds_toArray, List.set_cons_zero, List.set_cons_succ])
        refine PlanO.skip (by kernel_rfl) ?_
        (try simp only [Act.put, List.setIfInBounds_toArray, List.set_cons_zero, List.set_cons_succ])
        refine PlanO.skip (by kernel_rfl) ?_
        (try simp only [Act.put, List.setIfInBounds_toArray, List.set_cons_zero, List.set_cons_succ])
        refine PlanO.skip (by kernel_rfl) ?_
        (try simp only [Act.put, List.setIfInBounds_toArray, List.set_cons_zero, List.set_cons_succ])
        refine PlanO.skip (by kernel_rfl) ?_
        (try simp only [Act.put, List.setIfInBounds_toArray, List.set_cons_zero, List.set_cons_succ])
        refine PlanO.skip (by kernel_rfl) ?_
        (try simp only [Act.put, List.setIfInBounds_toArray, List.set_cons_zero, List.set_cons_succ])
        refine PlanO.skip (by kernel_rfl) ?_
        (try simp only [Act.put, List.setIfInBounds_toArray, List.set_cons_zero, List.set_cons_succ])
        refine PlanO.skip (by kernel_rfl) ?_
        (try simp only [Act.put, List.setIfInBounds_toArray, List.set_cons_zero, List.set_cons_succ])
        refine PlanO.skip (by kernel_rfl) ?_
        (try simp only [Act.put, List.setIfInBounds_toArray, List.set_cons_zero, List.set_cons_succ])
        refine PlanO.skip (by kernel_rfl) ?_
        (try simp only [Act.put, List.setIfInBounds_toArray, List.set_cons_zero, List.set_cons_succ])
        refine PlanO.skip (by kernel_rfl) ?_
        (try simp only [Act.put, List.setIfInBounds_toArray, List.set_cons_zero, List.set_cons_succ])
        refine PlanO.skip (by kernel_rfl) ?_
        (try simp only [Act.put, List.setIfInBounds_toArray, List.set_cons_zero, List.set_cons_succ])
        refine PlanO.take (v := ?va24) (by kernel_rfl) ?ya24 ?ra24
        case ya24 => (intro wz hz; go_simp; try with_reducible rfl)
        (try simp only [Act.put, List.setIfInBounds_toArray, List.set_cons_zero, List.set_cons_succ])
        refine PlanO.done (NoPanic.normal ?_)
        go_wp2
        go_ret
        exact ⟨ret_bool (rising_no hlt HN.out), hb.trans ((below_draw hE1).mono hb.size)⟩
      | true =>
        rw [hmb] at hmay
        by_cases hk0 : k = 0
        · subst hk0
          have HN : Hid (goodAt es 0 = true) := Lib.hid (goodAt_zero he hmb)
          obtain ⟨eu, es', ek, ev⟩ := e
          simp only at d0 d1 d2 d3 hmay
          have HM := Lib.hid hmay
          clear he hmay hcells hmb
          simp only [Nat.zero_mul, Nat.add_zero] at d0 d1 d2 d3
          go_wp2
          refine wp_region_plan [(true, 0), (true, 1), (true, 2), (true, 3), (false, 4), (true, 5), (true, 6), (true, 7), (true, 8), (true, 9), (true, 10), (true, 11), (true, 12), (true, 13), (true, 14), (true, 15), (true, 16), (true, 17), (true, 18), (true, 19), (true, 20), (false, 21), (true, 22), (true, 23), (true, 24)] (by kernel_rfl) (by kernel_rfl) (by kernel_rfl) (by kernel_rfl) (by kernel_rfl) ?_
          simp only [planO, List.drop_succ_cons, List.drop_zero]
          refine PlanO.take (v := ?vb0) (by kernel_rfl) ?yb0 ?rb0
          case yb0 => (intro wz hz; go_simp; try with_reducible rfl)
          (try simp only [Act.put, List.setIfInBounds_toArray, List.set_cons_zero, List.set_cons_succ])
          refine PlanO.take (v := ?vb1) (by kernel_rfl) ?yb1 ?rb1
          case yb1 => (intro wz hz; go_simp; try with_reducible rfl)
          (try simp only [Act.put, List.setIfInBounds_toArray, List.set_cons_zero, List.set_cons_succ])
          refine PlanO.take (v := ?vb2) (by kernel_rfl) ?yb2 ?rb2
          case yb2 => (intro wz hz; go_simp; try with_reducible rfl)
          (try simp only [Act.put, List.setIfInBounds_toArray, List.set_cons_zero, List.set_cons_succ])
          refine PlanO.take (v := ?vb3) (by kernel_rfl) ?yb3 ?rb3
          case yb3 => (intro wz hz; have c0 := Ext.at_ hz d0; have c1 := Ext.at_ hz d1; have c2 := Ext.at_ hz d2; have c3 := Ext.at_ hz d3; go_simp; try with_reducible rfl)
          (try simp only [Act.put, List.setIfInBounds_toArray, List.set_cons_zero, List.set_cons_succ])
          refine PlanO.exec (fun K hK => ?_)
          go_simp
          go_at_call 54
          refine (HM.out _).mono ?_
          rintro e u1 ⟨rfl, hb1⟩
          have hE1 : Ext wr.drew u1 := hb1
          go_wp2_with fail
          refine hK.out _ _ hb1 ?_
          clear hK K
          (try simp only [Act.put, List.setIfInBounds_toArray, List.set_cons_zero, List.set_cons_succ])
          refine PlanO.take (v := ?vb5) (by kernel_rfl) ?yb5 ?rb5
          case yb5 => (intro wz hz; go_simp; try with_reducible rfl)
          (try simp only [Act.put, List.setIfInBounds_toArray, List.set_cons_zero, List.set_cons_succ])
          refine PlanO.take (v := ?vb6) (by kernel_rfl) ?yb6 ?rb6
          case yb6 => (intro wz hz; go_simp; try with_reducible rfl)
          (try simp only [Act.put, List.setIfInBounds_toArray, List.set_cons_zero, List.set_cons_succ])
          refine PlanO.take (v := ?vb7) (by kernel_rfl) ?yb7 ?rb7
          case yb7 => (intro wz hz; go_simp; try with_reducible rfl)
          (try simp only [Act.put, List.setIfInBounds_toArray, List.set_cons_zero, List.set_cons_succ])
          refine PlanO.take (v := ?vb8) (by kernel_rfl) ?yb8 ?rb8
          case yb8 => (intro wz hz; go_simp; try with_reducible rfl)
          (try simp only [Act.put, List.setIfInBounds_toArray, List.set_cons_zero, List.set_cons_succ])
          refine PlanO.take (v := ?vb9) (by kernel_rfl) ?yb9 ?rb9
          case yb9 => (intro wz hz; go_simp; try with_reducible rfl)
          (try simp only [Act.put, List.setIfInBounds_toArray, List.set_cons_zero, List.set_cons_succ])
          refine PlanO.skip (by kernel_rfl) ?_
          (try simp only [Act.put, List.setIfInBounds_toArray, List.set_cons_zero, List.set_cons_succ])
          refine PlanO.skip (by kernel_rfl) ?_
          (try simp only [Act.put, List.setIfInBounds_toArray, List.set_cons_zero, List.set_cons_succ])
          refine PlanO.skip (by kernel_rfl) ?_
          (try simp only [Act.put, List.setIfInBounds_toArray, List.set_cons_zero, List.set_cons_succ])
          refine PlanO.skip (by kernel_rfl) ?_
          (try simp only [Act.put, List.setIfInBounds_toArray, List.set_cons_zero, List.set_cons_succ])
          refine PlanO.skip (by kernel_rfl) ?_
          (try simp only [Act.put, List.setIfInBounds_toArray, List.set_cons_zero, List.set_cons_succ])
          refine PlanO.skip (by kernel_rfl) ?_
          (try simp only [Act.put, List.setIfInBounds_toArray, List.set_cons_zero, List.set_cons_succ])
          refine PlanO.skip (by kernel_rfl) ?_
          (try simp only [Act.put, List.setIfInBounds_toArray, List.set_cons_zero, List.set_cons_succ])
          refine PlanO.skip (by kernel_rfl) ?_
          (try simp only [Act.put, List.setIfInBounds_toArray, List.set_cons_zero, List.set_cons_succ])
          refine PlanO.skip (by kernel_rfl) ?_
          (try simp only [Act.put, List.setIfInBounds_toArray, List.set_cons_zero, List.set_cons_succ])
          refine PlanO.skip (by kernel_rfl) ?_
          (try simp only [Act.put, List.setIfInBounds_toArray, List.set_cons_zero, List.set_cons_succ])
          refine PlanO.skip (by kernel_rfl) ?_
          (try simp only [Act.put, List.setIfInBounds_toArray, List.set_cons_zero, List.set_cons_succ])
          refine PlanO.skip (by kernel_rfl) ?_
          (try simp only [Act.put, List.setIfInBounds_toArray, List.set_cons_zero, List.set_cons_succ])
          refine PlanO.skip (by kernel_rfl) ?_
          (try simp only [Act.put, List.setIfInBounds_toArray, List.set_cons_zero, List.set_cons_succ])
          refine PlanO.take (v := ?vb23) (by kernel_rfl) ?yb23 ?rb23
          case yb23 => (intro wz hz; go_simp; try with_reducible rfl)
          (try simp only [Act.put, List.setIfInBounds_toArray, List.set_cons_zero, List.set_cons_succ])
          refine PlanO.take (v := ?vb24) (by kernel_rfl) ?yb24 ?rb24
          case yb24 => (intro wz hz; go_simp; try with_reducible rfl)
          (try simp only [Act.put, List.setIfInBounds_toArray, List.set_cons_zero, List.set_cons_succ])
          refine PlanO.done (NoPanic.normal ?_)
          go_wp2
          go_roundw
          case rel => exact ⟨1, by omega, by go_num, Lib.hid (good_more HG.out HN.out), hb.trans ((below_draw hE1).mono hb.size)⟩
          case measure => simp [intOf]; omega
        · obtain ⟨m, rfl⟩ : ∃ m, k = m + 1 := ⟨k - 1, by omega⟩
          clear hk0
          obtain ⟨q0, q1, q2, q3⟩ := hcells m (by omega)
          obtain ⟨f3, f4, _, _⟩ := fits_at hv.2 m (by omega)
          have hcmp := rcmp_any (es.getD m Ent.none_).u (es.getD m Ent.none_).s (es.getD m Ent.none_).k e.u e.s e.k 
          have hcb : cmpK (es.getD m Ent.none_).u.data.toList (es.getD m Ent.none_).s (es.getD m Ent.none_).k e.u.data.toList e.s e.k = (es.getD m Ent.none_).cmp e := rfl
          rw [hcb] at hcmp
          clear hcb
          generalize hd : es.getD m Ent.none_ = d at *
          have HN := Lib.hid (goodAt_next he hd hmb)
          generalize hx : d.cmp e = x at *
          obtain ⟨eu, es', ek, ev⟩ := e
          obtain ⟨du, ds', dk, dv⟩ := d
          simp only at d0 d1 d2 d3 q0 q1 q2 q3 hmay hcmp
          have HM := Lib.hid hmay
          have HC := Lib.hid hcmp
          clear he hd hmay hcmp hcells hmb hx
          have hmn : (m : Int) < (es.length : Int) := by omega
          have hmn' : (m : Int) + 1 < (es.length : Int) := by omega
          have hm0 : (0 : Int) ≤ (m : Int) + 1 := by omega
          have hmt : ((m : Int) + 1).toNat = m + 1 := by omega
          have hmw : IntKind.i64.wrap (m : Int) = (m : Int) := IntWalk.i64_in _ (by omega)
          cases hxb : decide (x < 0) with
          | true =>
            have hx0 : ¬ (0 : Int) ≤ x := by simpa using hxb
            have HX := Lib.hid hxb
            clear hxb
            go_wp2
            refine wp_region_plan [(true, 0), (true, 1), (true, 2), (true, 3), (false, 4), (true, 5), (true, 6), (true, 7), (true, 8), (true, 9), (true, 10), (true, 11), (true, 12), (true, 13), (true, 14), (true, 15), (true, 16), (true, 17), (true, 18), (true, 19), (true, 20), (false, 21), (true, 22), (true, 23), (true, 24)] (by kernel_rfl) (by kernel_rfl) (by kernel_rfl) (by kernel_rfl) (by kernel_rfl) ?_
            simp only [planO, List.drop_succ_cons, List.drop_zero]
            refine PlanO.take (v := ?vc0) (by kernel_rfl) ?yc0 ?rc0
            case yc0 => (intro wz hz; go_simp; try with_reducible rfl)
            (try simp only [Act.put, List.setIfInBounds_toArray, List.set_cons_zero, List.set_cons_succ])
            refine PlanO.take (v := ?vc1) (by kernel_rfl) ?yc1 ?rc1
            case yc1 => (intro wz hz; go_simp; try with_reducible rfl)
            (try simp only [Act.put, List.setIfInBounds_toArray, List.set_cons_zero, List.set_cons_succ])
            refine PlanO.take (v := ?vc2) (by kernel_rfl) ?yc2 ?rc2
            case yc2 => (intro wz hz; go_simp; try with_reducible rfl)
            (try simp only [Act.put, List.setIfInBounds_toArray, List.set_cons_zero, List.set_cons_succ])
            refine PlanO.take (v := ?vc3) (by kernel_rfl) ?yc3 ?rc3
            case yc3 => (intro wz hz; have c0 := Ext.at_ hz d0; have c1 := Ext.at_ hz d1; have c2 := Ext.at_ hz d2; have c3 := Ext.at_ hz d3; go_simp; try with_reducible rfl)
            (try simp only [Act.put, List.setIfInBounds_toArray, List.set_cons_zero, List.set_cons_succ])
            refine PlanO.exec (fun K hK => ?_)
            go_simp
            go_at_call 54
            refine (HM.out _).mono ?_
            rintro e u1 ⟨rfl, hb1⟩
            have hE1 : Ext wr.drew u1 := hb1
            go_wp2_with fail
            refine hK.out _ _ hb1 ?_
            clear hK K
            (try simp only [Act.put, List.setIfInBounds_toArray, List.set_cons_zero, List.set_cons_succ])
            refine PlanO.take (v := ?vc5) (by kernel_rfl) ?yc5 ?rc5
            case yc5 => (intro wz hz; go_simp; try with_reducible rfl)
            (try simp only [Act.put, List.setIfInBounds_toArray, List.set_cons_zero, List.set_cons_succ])
            refine PlanO.take (v := ?vc6) (by kernel_rfl) ?yc6 ?rc6
            case yc6 => (intro wz hz; go_simp; try with_reducible rfl)
            (try simp only [Act.put, List.setIfInBounds_toArray, List.set_cons_zero, List.set_cons_succ])
            refine PlanO.take (v := ?vc7) (by kernel_rfl) ?yc7 ?rc7
            case yc7 => (intro wz hz; go_simp; try with_reducible rfl)
            (try simp only [Act.put, List.setIfInBounds_toArray, List.set_cons_zero, List.set_cons_succ])
            refine PlanO.take (v := ?vc8) (by kernel_rfl) ?yc8 ?rc8
            case yc8 => (intro wz hz; go_simp; try with_reducible rfl)
            (try simp only [Act.put, List.setIfInBounds_toArray, List.set_cons_zero, List.set_cons_succ])
            refine PlanO.take (v := ?vc9) (by kernel_rfl) ?yc9 ?rc9
            case yc9 => (intro wz hz; go_simp; try with_reducible rfl)
            (try simp only [Act.put, List.setIfInBounds_toArray, List.set_cons_zero, List.set_cons_succ])
            refine PlanO.take (v := ?vc10) (by kernel_rfl) ?yc10 ?rc10
            case yc10 => (intro wz hz; go_simp; try with_reducible rfl)
            (try simp only [Act.put, List.setIfInBounds_toArray, List.set_cons_zero, List.set_cons_succ])
            refine PlanO.take (v := ?vc11) (by kernel_rfl) ?yc11 ?rc11
            case yc11 => (intro wz hz; go_simp; try with_reducible rfl)
            (try simp only [Act.put, List.setIfInBounds_toArray, List.set_cons_zero, List.set_cons_succ])
            refine PlanO.take (v := ?vc12) (by kernel_rfl) ?yc12 ?rc12
            case yc12 => (intro wz hz; go_simp; try with_reducible rfl)
            (try simp only [Act.put, List.setIfInBounds_toArray, List.set_cons_zero, List.set_cons_succ])
            refine PlanO.take (v := ?vc13) (by kernel_rfl) ?yc13 ?rc13
            case yc13 => (intro wz hz; go_simp; try with_reducible rfl)
            (try simp only [Act.put, List.setIfInBounds_toArray, List.set_cons_zero, List.set_cons_succ])
            refine PlanO.take (v := ?vc14) (by kernel_rfl) ?yc14 ?rc14
            case yc14 => (intro wz hz; go_simp; try with_reducible rfl)
            (try simp only [Act.put, List.setIfInBounds_toArray, List.set_cons_zero, List.set_cons_succ])
            refine PlanO.take (v := ?vc15) (by kernel_rfl) ?yc15 ?rc15
            case yc15 => (intro wz hz; have hw := Ext.trans hE1 hz; have b0 := Ext.at_ hw q0; have b1 := Ext.at_ hw q1; have b2 := Ext.at_ hw q2; have b3 := Ext.at_ hw q3; go_simp; try with_reducible rfl)
            (try simp only [Act.put, List.setIfInBounds_toArray, List.set_cons_zero, List.set_cons_succ])
            refine PlanO.take (v := ?vc16) (by kernel_rfl) ?yc16 ?rc16
            case yc16 => (intro wz hz; go_simp; try with_reducible rfl)
            (try simp only [Act.put, List.setIfInBounds_toArray, List.set_cons_zero, List.set_cons_succ])
            refine PlanO.take (v := ?vc17) (by kernel_rfl) ?yc17 ?rc17
            case yc17 => (intro wz hz; go_simp; try with_reducible rfl)
            (try simp only [Act.put, List.setIfInBounds_toArray, List.set_cons_zero, List.set_cons_succ])
            refine PlanO.take (v := ?vc18) (by kernel_rfl) ?yc18 ?rc18
            case yc18 => (intro wz hz; go_simp; try with_reducible rfl)
            (try simp only [Act.put, List.setIfInBounds_toArray, List.set_cons_zero, List.set_cons_succ])
            refine PlanO.take (v := ?vc19) (by kernel_rfl) ?yc19 ?rc19
            case yc19 => (intro wz hz; go_simp; try with_reducible rfl)
            (try simp only [Act.put, List.setIfInBounds_toArray, List.set_cons_zero, List.set_cons_succ])
            refine PlanO.take (v := ?vc20) (by kernel_rfl) ?yc20 ?rc20
            case yc20 => (intro wz hz; have hw := Ext.trans hE1 hz; have c0 := Ext.at_ hw d0; have c1 := Ext.at_ hw d1; have c2 := Ext.at_ hw d2; have c3 := Ext.at_ hw d3; go_simp; try with_reducible rfl)
            (try simp only [Act.put, List.setIfInBounds_toArray, List.set_cons_zero, List.set_cons_succ])
            refine PlanO.exec (fun K hK => ?_)
            go_simp
            go_at_call 55
            refine (HC.out _).mono ?_
            rintro e u2 ⟨rfl, hb2⟩
            have hE2 : Ext wr.drew u2 := Ext.trans hE1 hb2
            go_wp2_with fail
            refine hK.out _ _ hb2 ?_
            clear hK K
            (try simp only [Act.put, List.setIfInBounds_toArray, List.set_cons_zero, List.set_cons_succ])
            refine PlanO.take (v := ?vc22) (by kernel_rfl) ?yc22 ?rc22
            case yc22 => (intro wz hz; go_simp; try with_reducible rfl)
            (try simp only [Act.put, List.setIfInBounds_toArray, List.set_cons_zero, List.set_cons_succ])
            refine PlanO.take (v := ?vc23) (by kernel_rfl) ?yc23 ?rc23
            case yc23 => (intro wz hz; go_simp; try with_reducible rfl)
            (try simp only [Act.put, List.setIfInBounds_toArray, List.set_cons_zero, List.set_cons_succ])
            refine PlanO.take (v := ?vc24) (by kernel_rfl) ?yc24 ?rc24
            case yc24 => (intro wz hz; go_simp; try with_reducible rfl)
            (try simp only [Act.put, List.setIfInBounds_toArray, List.set_cons_zero, List.set_cons_succ])
            refine PlanO.done (NoPanic.normal ?_)
            clear hmw hmt
            go_wp2
            go_roundw
            case rel => exact ⟨m + 2, by omega, by go_num, Lib.hid (good_more HG.out (HN.out.trans HX.out)), hb.trans ((below_draw hE2).mono hb.size)⟩
            case measure => simp [intOf]; omega
          | false =>
            have hx0 : (0 : Int) ≤ x := by simpa using hxb
            have HX := Lib.hid hxb
            clear hxb
            go_wp2
            refine wp_region_plan [(true, 0), (true, 1), (true, 2), (true, 3), (false, 4), (true, 5), (true, 6), (true, 7), (true, 8), (true, 9), (true, 10), (true, 11), (true, 12), (true, 13), (true, 14), (true, 15), (true, 16), (true, 17), (true, 18), (true, 19), (true, 20), (false, 21), (true, 22), (true, 23), (true, 24)] (by kernel_rfl) (by kernel_rfl) (by kernel_rfl) (by kernel_rfl) (by kernel_rfl) ?_
            simp only [planO, List.drop_succ_cons, List.drop_zero]
            refine PlanO.take (v := ?vd0) (by kernel_rfl) ?yd0 ?rd0
            case yd0 => (intro wz hz; go_simp; try with_reducible rfl)
            (try simp only [Act.put, List.setIfInBounds_toArray, List.set_cons_zero, List.set_cons_succ])
            refine PlanO.take (v := ?vd1) (by kernel_rfl) ?yd1 ?rd1
            case yd1 => (intro wz hz; go_simp; try with_reducible rfl)
            (try simp only [Act.put, List.setIfInBounds_toArray, List.set_cons_zero, List.set_cons_succ])
            refine PlanO.take (v := ?vd2) (by kernel_rfl) ?yd2 ?rd2
            case yd2 => (intro wz hz; go_simp; try with_reducible rfl)
            (try simp only [Act.put, List.setIfInBounds_toArray, List.set_cons_zero, List.set_cons_succ])
            refine PlanO.take (v := ?vd3) (by kernel_rfl) ?yd3 ?rd3
            case yd3 => (intro wz hz; have c0 := Ext.at_ hz d0; have c1 := Ext.at_ hz d1; have c2 := Ext.at_ hz d2; have c3 := Ext.at_ hz d3; go_simp; try with_reducible rfl)
            (try simp only [Act.put, List.setIfInBounds_toArray, List.set_cons_zero, List.set_cons_succ])
            refine PlanO.exec (fun K hK => ?_)
            go_simp
            go_at_call 54
            refine (HM.out _).mono ?_
            rintro e u1 ⟨rfl, hb1⟩
            have hE1 : Ext wr.drew u1 := hb1
            go_wp2_with fail
            refine hK.out _ _ hb1 ?_
            clear hK K
            (try simp only [Act.put, List.setIfInBounds_toArray, List.set_cons_zero, List.set_cons_succ])
            refine PlanO.take (v := ?vd5) (by kernel_rfl) ?yd5 ?rd5
            case yd5 => (intro wz hz; go_simp; try with_reducible rfl)
            (try simp only [Act.put, List.setIfInBounds_toArray, List.set_cons_zero, List.set_cons_succ])
            refine PlanO.take (v := ?vd6) (by kernel_rfl) ?yd6 ?rd6
            case yd6 => (intro wz hz; go_simp; try with_reducible rfl)
            (try simp only [Act.put, List.setIfInBounds_toArray, List.set_cons_zero, List.set_cons_succ])
            refine PlanO.take (v := ?vd7) (by kernel_rfl) ?yd7 ?rd7
            case yd7 => (intro wz hz; go_simp; try with_reducible rfl)
            (try simp only [Act.put, List.setIfInBounds_toArray, List.set_cons_zero, List.set_cons_succ])
            refine PlanO.take (v := ?vd8) (by kernel_rfl) ?yd8 ?rd8
            case yd8 => (intro wz hz; go_simp; try with_reducible rfl)
            (try simp only [Act.put, List.setIfInBounds_toArray, List.set_cons_zero, List.set_cons_succ])
            refine PlanO.take (v := ?vd9) (by kernel_rfl) ?yd9 ?rd9
            case yd9 => (intro wz hz; go_simp; try with_reducible rfl)
            (try simp only [Act.put, List.setIfInBounds_toArray, List.set_cons_zero, List.set_cons_succ])
            refine PlanO.take (v := ?vd10) (by kernel_rfl) ?yd10 ?rd10
            case yd10 => (intro wz hz; go_simp; try with_reducible rfl)
            (try simp only [Act.put, List.setIfInBounds_toArray, List.set_cons_zero, List.set_cons_succ])
            refine PlanO.take (v := ?vd11) (by kernel_rfl) ?yd11 ?rd11
            case yd11 => (intro wz hz; go_simp; try with_reducible rfl)
            (try simp only [Act.put, List.setIfInBounds_toArray, List.set_cons_zero, List.set_cons_succ])
            refine PlanO.take (v := ?vd12) (by kernel_rfl) ?yd12 ?rd12
            case yd12 => (intro wz hz; go_simp; try with_reducible rfl)
            (try simp only [Act.put, List.setIfInBounds_toArray, List.set_cons_zero, List.set_cons_succ])
            refine PlanO.take (v := ?vd13) (by kernel_rfl) ?yd13 ?rd13
            case yd13 => (intro wz hz; go_simp; try with_reducible rfl)
            (try simp only [Act.put, List.setIfInBounds_toArray, List.set_cons_zero, List.set_cons_succ])
            refine PlanO.take (v := ?vd14) (by kernel_rfl) ?yd14 ?rd14
            case yd14 => (intro wz hz; go_simp; try with_reducible rfl)
            (try simp only [Act.put, List.setIfInBounds_toArray, List.set_cons_zero, List.set_cons_succ])
            refine PlanO.take (v := ?vd15) (by kernel_rfl) ?yd15 ?rd15
            case yd15 => (intro wz hz; have hw := Ext.trans hE1 hz; have b0 := Ext.at_ hw q0; have b1 := Ext.at_ hw q1; have b2 := Ext.at_ hw q2; have b3 := Ext.at_ hw q3; go_simp; try with_reducible rfl)
            (try simp only [Act.put, List.setIfInBounds_toArray, List.set_cons_zero, List.set_cons_succ])
            refine PlanO.take (v := ?vd16) (by kernel_rfl) ?yd16 ?rd16
            case yd16 => (intro wz hz; go_simp; try with_reducible rfl)
            (try simp only [Act.put, List.setIfInBounds_toArray, List.set_cons_zero, List.set_cons_succ])
            refine PlanO.take (v := ?vd17) (by kernel_rfl) ?yd17 ?rd17
            case yd17 => (intro wz hz; go_simp; try with_reducible rfl)
            (try simp only [Act.put, List.setIfInBounds_toArray, List.set_cons_zero, List.set_cons_succ])
            refine PlanO.take (v := ?vd18) (by kernel_rfl) ?yd18 ?rd18
            case yd18 => (intro wz hz; go_simp; try with_reducible rfl)
            (try simp only [Act.put, List.setIfInBounds_toArray, List.set_cons_zero, List.set_cons_succ])
            refine PlanO.take (v := ?vd19) (by kernel_rfl) ?yd19 ?rd19
            case yd19 => (intro wz hz; go_simp; try with_reducible rfl)
            (try simp only [Act.put, List.setIfInBounds_toArray, List.set_cons_zero, List.set_cons_succ])
            refine PlanO.take (v := ?vd20) (by kernel_rfl) ?yd20 ?rd20
            case yd20 => (intro wz hz; have hw := Ext.trans hE1 hz; have c0 := Ext.at_ hw d0; have c1 := Ext.at_ hw d1; have c2 := Ext.at_ hw d2; have c3 := Ext.at_ hw d3; go_simp; try with_reducible rfl)
            (try simp only [Act.put, List.setIfInBounds_toArray, List.set_cons_zero, List.set_cons_succ])
            refine PlanO.exec (fun K hK => ?_)
            go_simp
            go_at_call 55
            refine (HC.out _).mono ?_
            rintro e u2 ⟨rfl, hb2⟩
            have hE2 : Ext wr.drew u2 := Ext.trans hE1 hb2
            go_wp2_with fail
            refine hK.out _ _ hb2 ?_
            clear hK K
            (try simp only [Act.put, List.setIfInBounds_toArray, List.set_cons_zero, List.set_cons_succ])
            refine PlanO.take (v := ?vd22) (by kernel_rfl) ?yd22 ?rd22
            case yd22 => (intro wz hz; go_simp; try with_reducible rfl)
            (try simp only [Act.put, List.setIfInBounds_toArray, List.set_cons_zero, List.set_cons_succ])
            refine PlanO.take (v := ?vd23) (by kernel_rfl) ?yd23 ?rd23
            case yd23 => (intro wz hz; go_simp; try with_reducible rfl)
            (try simp only [Act.put, List.setIfInBounds_toArray, List.set_cons_zero, List.set_cons_succ])
            refine PlanO.take (v := ?vd24) (by kernel_rfl) ?yd24 ?rd24
            case yd24 => (intro wz hz; go_simp; try with_reducible rfl)
            (try simp only [Act.put, List.setIfInBounds_toArray, List.set_cons_zero, List.set_cons_succ])
            refine PlanO.done (NoPanic.normal ?_)
            clear hmw hmt
            go_wp2
            go_ret
            exact ⟨ret_bool (rising_no hlt (HN.out.trans HX.out)), hb.trans ((below_draw hE2).mono hb.size)⟩
    · have : k = es.length := by omega
      subst this
      clear hlt
      go_wp2
      go_ret
      exact ⟨ret_bool (rising_yes HG.out), hb⟩
end Go.Proofs.YteeikmpfgbfeoaaGreat
