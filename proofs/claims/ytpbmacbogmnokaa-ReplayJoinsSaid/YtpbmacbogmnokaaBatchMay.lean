/-
  May a batch be told: batch.may and the document's MayBatch, for every batch.
-/
import Derived.Test.YtpbmacbogmnokaaOpsNorm
import Derived.Test.YtpbmacbogmnokaaOpsRNorm
import Derived.Test.YtpbmacbogmnokaaOpsRMay
import Derived.Test.YtpbmacbogmnokaaOpsSame
import Derived.Test.YtpbmacbogmnokaaRegion
import Derived.Deep.Cut
namespace Go.Proofs.Ytpbmacbogmnokaa
open Go.RowKit

/-- A batch as the model's value. -/
abbrev batV (s : Int) (v : Value) : Value := .agg #[.int .i64 s, v]

/-- May it be told? -/
def mayBt (s : Int) (l : List Ope) : Bool := decide (1 ≤ s) && (decide (s ≤ 9007199254740992) && (mayOs l == 0 && sameL l (normL l)))

theorem mayBt_low {s : Int} (l : List Ope) (h : ¬ 1 ≤ s) : false = mayBt s l := by unfold mayBt; simp [h]
theorem mayBt_high {s : Int} (l : List Ope) (h : ¬ s ≤ 9007199254740992) : false = mayBt s l := by unfold mayBt; simp [h]
theorem mayBt_ops {s : Int} {l : List Ope} (h : mayOs l ≠ 0) : false = mayBt s l := by unfold mayBt; simp [h]
theorem mayBt_all {s : Int} {l : List Ope} (h1 : 1 ≤ s) (h2 : s ≤ 9007199254740992) (h3 : mayOs l = 0) : sameL l (normL l) = mayBt s l := by unfold mayBt; simp [h1, h2, h3]
theorem mayBt_true {s : Int} {l : List Ope} (h : mayBt s l = true) : 1 ≤ s ∧ s ≤ 9007199254740992 ∧ mayOs l = 0 ∧ normL l = l := by
  unfold mayBt at h
  simp only [Bool.and_eq_true, decide_eq_true_eq, beq_iff_eq] at h
  exact ⟨h.1, h.2.1, h.2.2.1, ((sameL_iff _ _).1 h.2.2.2).symm⟩
theorem sameL_comm (a b : List Ope) : sameL a b = sameL b a := by
  rw [Bool.eq_iff_iff, sameL_iff, sameL_iff]
  exact eq_comm

theorem lsw {b : Bool} : b = true ∨ b = false := by cases b <;> simp
theorem mayOs_ways (l : List Ope) : mayOs l = 0 ∨ ((mayOs l == 0) = false ∧ mayOs l ≠ 0) := by
  by_cases h : mayOs l = 0
  · exact .inl h
  · exact .inr ⟨by simp [h], h⟩
theorem normL_nonempty {l : List Ope} (h : l ≠ []) : normL l ≠ [] := by
  intro e
  cases l with
  | nil => exact h rfl
  | cons o r =>
    have h1 := normL_look (o :: r) o.key
    rw [e] at h1
    have h2 : lastK (o :: r) o.key = none := h1.symm
    unfold lastK at h2
    rw [look_none] at h2
    exact h2 o (by simp) rfl

set_option maxRecDepth 100000 in
set_option maxHeartbeats 4000000 in
theorem bmayB_any (s : Int) (v : Value) (l : List Ope) (w : World) (hv : RdO w v l) (hn : l.length ≤ 100000) :
    Calls Try.prog 36 #[batV s v] w fun e w' => e = .returned (.bool (mayBt s l)) ∧ Below w.heap.size w w' := by
  obtain ⟨a, cap, rfl, hc1, hc2⟩ := hv.form
  obtain ⟨wB, hwB⟩ : ∃ wB, wB = w.alloc (.cells #[.int .i64 s, .slice a l.length cap] 24) := ⟨_, rfl⟩
  have e0 : wB.cell? ⟨w.heap.size, 0, none⟩ = some (.int .i64 s) := by rw [hwB]; go_simp
  have e1 : wB.cell? ⟨w.heap.size, 1, none⟩ = some (.slice a l.length cap) := by rw [hwB]; go_simp
  have hB : Below w.heap.size w wB := by rw [hwB]; exact (Below.refl _ _).alloc (Nat.le_refl _) _
  have HB := Lib.hid hB
  have HB0 := Lib.hid (show Below w.heap.size w wB.drew from hB.drew)
  have HV := Lib.hid hv
  have HN := Lib.hid hn
  have HWB := Lib.hid hwB
  have hways := mayOs_ways l
  generalize hM : mayOs l = m at hways
  have HMM := Lib.hid hM
  clear hB hv hwB hn hc1 hc2
  go_enter Try.func36, Try.ntmps36
  go_upto_region 1 with (fail)
  rw [← HWB.out]
  clear HWB
  by_cases h1 : 1 ≤ s
  · by_cases h2 : s ≤ 9007199254740992
    · rcases hways with rfl | ⟨h3, h4⟩
      · have HNE : Hid (l ≠ []) := Lib.hid (by rintro rfl; cases hM)
        have HR := Lib.hid (mayBt_all h1 h2 hM)
        refine wp_region_plan [(true, 0), (true, 1), (true, 2), (true, 3), (true, 4), (true, 5), (true, 6), (true, 7), (true, 8), (true, 9), (true, 10), (false, 11), (true, 12), (true, 13), (true, 14), (true, 15), (true, 16), (true, 17), (true, 18), (false, 19), (false, 20), (true, 21), (true, 22)] (by kernel_rfl) (by kernel_rfl) (by kernel_rfl) (by kernel_rfl) (by kernel_rfl) ?_
        simp only [planO, List.drop_succ_cons, List.drop_zero]
        refine PlanO.take (v := ?vd0) (by kernel_rfl) ?yd0 ?rd0
        case yd0 => (intro wz hz; go_simp; try with_reducible rfl)
        (try simp only [Act.put, List.setIfInBounds_toArray, List.set_cons_zero, List.set_cons_succ])
        refine PlanO.take (v := ?vd1) (by kernel_rfl) ?yd1 ?rd1
        case yd1 => (intro wz hz; have c0 := Ext.at_ hz e0; have c1 := Ext.at_ hz e1; go_simp; try with_reducible rfl)
        (try simp only [Act.put, List.setIfInBounds_toArray, List.set_cons_zero, List.set_cons_succ])
        refine PlanO.take (v := ?vd2) (by kernel_rfl) ?yd2 ?rd2
        case yd2 => (intro wz hz; go_simp; try with_reducible rfl)
        (try simp only [Act.put, List.setIfInBounds_toArray, List.set_cons_zero, List.set_cons_succ])
        refine PlanO.take (v := ?vd3) (by kernel_rfl) ?yd3 ?rd3
        case yd3 => (intro wz hz; go_simp; try with_reducible rfl)
        (try simp only [Act.put, List.setIfInBounds_toArray, List.set_cons_zero, List.set_cons_succ])
        refine PlanO.take (v := ?vd4) (by kernel_rfl) ?yd4 ?rd4
        case yd4 => (intro wz hz; go_simp; try with_reducible rfl)
        (try simp only [Act.put, List.setIfInBounds_toArray, List.set_cons_zero, List.set_cons_succ])
        refine PlanO.take (v := ?vd5) (by kernel_rfl) ?yd5 ?rd5
        case yd5 => (intro wz hz; have c0 := Ext.at_ hz e0; have c1 := Ext.at_ hz e1; go_simp; try with_reducible rfl)
        (try simp only [Act.put, List.setIfInBounds_toArray, List.set_cons_zero, List.set_cons_succ])
        refine PlanO.take (v := ?vd6) (by kernel_rfl) ?yd6 ?rd6
        case yd6 => (intro wz hz; go_simp; try with_reducible rfl)
        (try simp only [Act.put, List.setIfInBounds_toArray, List.set_cons_zero, List.set_cons_succ])
        refine PlanO.take (v := ?vd7) (by kernel_rfl) ?yd7 ?rd7
        case yd7 => (intro wz hz; go_simp; try with_reducible rfl)
        (try simp only [Act.put, List.setIfInBounds_toArray, List.set_cons_zero, List.set_cons_succ])
        refine PlanO.take (v := ?vd8) (by kernel_rfl) ?yd8 ?rd8
        case yd8 => (intro wz hz; go_simp; try with_reducible rfl)
        (try simp only [Act.put, List.setIfInBounds_toArray, List.set_cons_zero, List.set_cons_succ])
        refine PlanO.take (v := ?vd9) (by kernel_rfl) ?yd9 ?rd9
        case yd9 => (intro wz hz; go_simp; try with_reducible rfl)
        (try simp only [Act.put, List.setIfInBounds_toArray, List.set_cons_zero, List.set_cons_succ])
        refine PlanO.take (v := ?vd10) (by kernel_rfl) ?yd10 ?rd10
        case yd10 => (intro wz hz; have c0 := Ext.at_ hz e0; have c1 := Ext.at_ hz e1; go_simp; try with_reducible rfl)
        (try simp only [Act.put, List.setIfInBounds_toArray, List.set_cons_zero, List.set_cons_succ])
        refine PlanO.exec (fun K hK => ?_)
        go_simp
        go_at_call 50
        refine (bmay_any _ l _ (HV.out.below HB0.out (Nat.le_refl _))).mono ?_
        rintro e u1 ⟨rfl, hb1⟩
        rw [hM]
        have hE1 : Ext wB.drew u1 := hb1
        go_wp2_with fail
        refine hK.out _ _ hb1 ?_
        clear hK K
        (try simp only [Act.put, List.setIfInBounds_toArray, List.set_cons_zero, List.set_cons_succ])
        refine PlanO.take (v := ?vd12) (by kernel_rfl) ?yd12 ?rd12
        case yd12 => (intro wz hz; go_simp; try with_reducible rfl)
        (try simp only [Act.put, List.setIfInBounds_toArray, List.set_cons_zero, List.set_cons_succ])
        refine PlanO.take (v := ?vd13) (by kernel_rfl) ?yd13 ?rd13
        case yd13 => (intro wz hz; go_simp; try with_reducible rfl)
        (try simp only [Act.put, List.setIfInBounds_toArray, List.set_cons_zero, List.set_cons_succ])
        refine PlanO.take (v := ?vd14) (by kernel_rfl) ?yd14 ?rd14
        case yd14 => (intro wz hz; go_simp; try with_reducible rfl)
        (try simp only [Act.put, List.setIfInBounds_toArray, List.set_cons_zero, List.set_cons_succ])
        refine PlanO.take (v := ?vd15) (by kernel_rfl) ?yd15 ?rd15
        case yd15 => (intro wz hz; go_simp; try with_reducible rfl)
        (try simp only [Act.put, List.setIfInBounds_toArray, List.set_cons_zero, List.set_cons_succ])
        refine PlanO.take (v := ?vd16) (by kernel_rfl) ?yd16 ?rd16
        case yd16 => (intro wz hz; have hw := Ext.trans hE1 hz; have c0 := Ext.at_ hw e0; have c1 := Ext.at_ hw e1; go_simp; try with_reducible rfl)
        (try simp only [Act.put, List.setIfInBounds_toArray, List.set_cons_zero, List.set_cons_succ])
        refine PlanO.take (v := ?vd17) (by kernel_rfl) ?yd17 ?rd17
        case yd17 => (intro wz hz; have hw := Ext.trans hE1 hz; have c0 := Ext.at_ hw e0; have c1 := Ext.at_ hw e1; go_simp; try with_reducible rfl)
        (try simp only [Act.put, List.setIfInBounds_toArray, List.set_cons_zero, List.set_cons_succ])
        refine PlanO.take (v := ?vd18) (by kernel_rfl) ?yd18 ?rd18
        case yd18 => (intro wz hz; have hw := Ext.trans hE1 hz; have c0 := Ext.at_ hw e0; have c1 := Ext.at_ hw e1; go_simp; try with_reducible rfl)
        (try simp only [Act.put, List.setIfInBounds_toArray, List.set_cons_zero, List.set_cons_succ])
        refine PlanO.exec (fun K hK => ?_)
        go_simp
        go_at_call 52
        refine (bnorm_any _ l _ (HV.out.below (HB0.out.trans (hE1.mono HB0.out.size)) (Nat.le_refl _)) HN.out).mono ?_
        rintro e u2 ⟨v2, rfl, ho2, hb2⟩
        have hE2 : Ext wB.drew u2 := Ext.trans hE1 hb2
        have HO2 := Lib.hid ho2
        clear ho2
        go_wp2_with fail
        refine hK.out _ _ hb2 ?_
        clear hK K
        (try simp only [Act.put, List.setIfInBounds_toArray, List.set_cons_zero, List.set_cons_succ])
        refine PlanO.exec (fun K hK => ?_)
        go_simp
        go_at_call 51
        refine (equal_any _ _ l (normL l) _ (HV.out.below (HB0.out.trans (hE2.mono HB0.out.size)) (Nat.le_refl _)) (HO2.out.read (fun o ho => HV.out.2 o (normL_mem ho))) HNE.out (normL_nonempty HNE.out)).mono ?_
        rintro e u3 ⟨rfl, hb3⟩
        have hE3 : Ext wB.drew u3 := Ext.trans hE2 hb3
        go_wp2_with fail
        refine hK.out _ _ hb3 ?_
        clear hK K
        (try simp only [Act.put, List.setIfInBounds_toArray, List.set_cons_zero, List.set_cons_succ])
        refine PlanO.take (v := ?vd21) (by kernel_rfl) ?yd21 ?rd21
        case yd21 => (intro wz hz; go_simp; try with_reducible rfl)
        (try simp only [Act.put, List.setIfInBounds_toArray, List.set_cons_zero, List.set_cons_succ])
        refine PlanO.take (v := ?vd22) (by kernel_rfl) ?yd22 ?rd22
        case yd22 => (intro wz hz; go_simp; try with_reducible rfl)
        (try simp only [Act.put, List.setIfInBounds_toArray, List.set_cons_zero, List.set_cons_succ])
        refine PlanO.done (NoPanic.normal ?_)
        go_wp2
        go_ret
        exact ⟨oret_bool (HR.out), HB.out.trans ((below_draw hE3).mono HB.out.size)⟩
      · have HR := Lib.hid (mayBt_ops (s := s) (show mayOs l ≠ 0 by rw [hM]; exact h4))
        refine wp_region_plan [(true, 0), (true, 1), (true, 2), (true, 3), (true, 4), (true, 5), (true, 6), (true, 7), (true, 8), (true, 9), (true, 10), (false, 11), (true, 12), (true, 13), (true, 14), (true, 15), (true, 16), (true, 17), (true, 18), (false, 19), (false, 20), (true, 21), (true, 22)] (by kernel_rfl) (by kernel_rfl) (by kernel_rfl) (by kernel_rfl) (by kernel_rfl) ?_
        simp only [planO, List.drop_succ_cons, List.drop_zero]
        refine PlanO.take (v := ?vc0) (by kernel_rfl) ?yc0 ?rc0
        case yc0 => (intro wz hz; go_simp; try with_reducible rfl)
        (try simp only [Act.put, List.setIfInBounds_toArray, List.set_cons_zero, List.set_cons_succ])
        refine PlanO.take (v := ?vc1) (by kernel_rfl) ?yc1 ?rc1
        case yc1 => (intro wz hz; have c0 := Ext.at_ hz e0; have c1 := Ext.at_ hz e1; go_simp; try with_reducible rfl)
        (try simp only [Act.put, List.setIfInBounds_toArray, List.set_cons_zero, List.set_cons_succ])
        refine PlanO.take (v := ?vc2) (by kernel_rfl) ?yc2 ?rc2
        case yc2 => (intro wz hz; go_simp; try with_reducible rfl)
        (try simp only [Act.put, List.setIfInBounds_toArray, List.set_cons_zero, List.set_cons_succ])
        refine PlanO.take (v := ?vc3) (by kernel_rfl) ?yc3 ?rc3
        case yc3 => (intro wz hz; go_simp; try with_reducible rfl)
        (try simp only [Act.put, List.setIfInBounds_toArray, List.set_cons_zero, List.set_cons_succ])
        refine PlanO.take (v := ?vc4) (by kernel_rfl) ?yc4 ?rc4
        case yc4 => (intro wz hz; go_simp; try with_reducible rfl)
        (try simp only [Act.put, List.setIfInBounds_toArray, List.set_cons_zero, List.set_cons_succ])
        refine PlanO.take (v := ?vc5) (by kernel_rfl) ?yc5 ?rc5
        case yc5 => (intro wz hz; have c0 := Ext.at_ hz e0; have c1 := Ext.at_ hz e1; go_simp; try with_reducible rfl)
        (try simp only [Act.put, List.setIfInBounds_toArray, List.set_cons_zero, List.set_cons_succ])
        refine PlanO.take (v := ?vc6) (by kernel_rfl) ?yc6 ?rc6
        case yc6 => (intro wz hz; go_simp; try with_reducible rfl)
        (try simp only [Act.put, List.setIfInBounds_toArray, List.set_cons_zero, List.set_cons_succ])
        refine PlanO.take (v := ?vc7) (by kernel_rfl) ?yc7 ?rc7
        case yc7 => (intro wz hz; go_simp; try with_reducible rfl)
        (try simp only [Act.put, List.setIfInBounds_toArray, List.set_cons_zero, List.set_cons_succ])
        refine PlanO.take (v := ?vc8) (by kernel_rfl) ?yc8 ?rc8
        case yc8 => (intro wz hz; go_simp; try with_reducible rfl)
        (try simp only [Act.put, List.setIfInBounds_toArray, List.set_cons_zero, List.set_cons_succ])
        refine PlanO.take (v := ?vc9) (by kernel_rfl) ?yc9 ?rc9
        case yc9 => (intro wz hz; go_simp; try with_reducible rfl)
        (try simp only [Act.put, List.setIfInBounds_toArray, List.set_cons_zero, List.set_cons_succ])
        refine PlanO.take (v := ?vc10) (by kernel_rfl) ?yc10 ?rc10
        case yc10 => (intro wz hz; have c0 := Ext.at_ hz e0; have c1 := Ext.at_ hz e1; go_simp; try with_reducible rfl)
        (try simp only [Act.put, List.setIfInBounds_toArray, List.set_cons_zero, List.set_cons_succ])
        refine PlanO.exec (fun K hK => ?_)
        go_simp
        go_at_call 50
        refine (bmay_any _ l _ (HV.out.below HB0.out (Nat.le_refl _))).mono ?_
        rintro e u1 ⟨rfl, hb1⟩
        rw [hM]
        have hE1 : Ext wB.drew u1 := hb1
        go_wp2_with fail
        refine hK.out _ _ hb1 ?_
        clear hK K
        (try simp only [Act.put, List.setIfInBounds_toArray, List.set_cons_zero, List.set_cons_succ])
        refine PlanO.take (v := ?vc12) (by kernel_rfl) ?yc12 ?rc12
        case yc12 => (intro wz hz; go_simp; try with_reducible rfl)
        (try simp only [Act.put, List.setIfInBounds_toArray, List.set_cons_zero, List.set_cons_succ])
        refine PlanO.take (v := ?vc13) (by kernel_rfl) ?yc13 ?rc13
        case yc13 => (intro wz hz; go_simp; try with_reducible rfl)
        (try simp only [Act.put, List.setIfInBounds_toArray, List.set_cons_zero, List.set_cons_succ])
        refine PlanO.take (v := ?vc14) (by kernel_rfl) ?yc14 ?rc14
        case yc14 => (intro wz hz; go_simp; try with_reducible rfl)
        (try simp only [Act.put, List.setIfInBounds_toArray, List.set_cons_zero, List.set_cons_succ])
        refine PlanO.skip (by kernel_rfl) ?_
        (try simp only [Act.put, List.setIfInBounds_toArray, List.set_cons_zero, List.set_cons_succ])
        refine PlanO.skip (by kernel_rfl) ?_
        (try simp only [Act.put, List.setIfInBounds_toArray, List.set_cons_zero, List.set_cons_succ])
        refine PlanO.skip (by kernel_rfl) ?_
        (try simp only [Act.put, List.setIfInBounds_toArray, List.set_cons_zero, List.set_cons_succ])
        refine PlanO.skip (by kernel_rfl) ?_
        (try simp only [Act.put, List.setIfInBounds_toArray, List.set_cons_zero, List.set_cons_succ])
        refine PlanO.skip (by kernel_rfl) ?_
        (try simp only [Act.put, List.setIfInBounds_toArray, List.set_cons_zero, List.set_cons_succ])
        refine PlanO.skip (by kernel_rfl) ?_
        (try simp only [Act.put, List.setIfInBounds_toArray, List.set_cons_zero, List.set_cons_succ])
        refine PlanO.take (v := ?vc21) (by kernel_rfl) ?yc21 ?rc21
        case yc21 => (intro wz hz; go_simp; try with_reducible rfl)
        (try simp only [Act.put, List.setIfInBounds_toArray, List.set_cons_zero, List.set_cons_succ])
        refine PlanO.take (v := ?vc22) (by kernel_rfl) ?yc22 ?rc22
        case yc22 => (intro wz hz; go_simp; try with_reducible rfl)
        (try simp only [Act.put, List.setIfInBounds_toArray, List.set_cons_zero, List.set_cons_succ])
        refine PlanO.done (NoPanic.normal ?_)
        go_wp2
        go_ret
        exact ⟨oret_bool HR.out, HB.out.trans ((below_draw hE1).mono HB.out.size)⟩
    · have HR := Lib.hid (mayBt_high l h2)
      refine wp_region_plan [(true, 0), (true, 1), (true, 2), (true, 3), (true, 4), (true, 5), (true, 6), (true, 7), (true, 8), (true, 9), (true, 10), (false, 11), (true, 12), (true, 13), (true, 14), (true, 15), (true, 16), (true, 17), (true, 18), (false, 19), (false, 20), (true, 21), (true, 22)] (by kernel_rfl) (by kernel_rfl) (by kernel_rfl) (by kernel_rfl) (by kernel_rfl) ?_
      simp only [planO, List.drop_succ_cons, List.drop_zero]
      refine PlanO.take (v := ?vb0) (by kernel_rfl) ?yb0 ?rb0
      case yb0 => (intro wz hz; go_simp; try with_reducible rfl)
      (try simp only [Act.put, List.setIfInBounds_toArray, List.set_cons_zero, List.set_cons_succ])
      refine PlanO.take (v := ?vb1) (by kernel_rfl) ?yb1 ?rb1
      case yb1 => (intro wz hz; have c0 := Ext.at_ hz e0; have c1 := Ext.at_ hz e1; go_simp; try with_reducible rfl)
      (try simp only [Act.put, List.setIfInBounds_toArray, List.set_cons_zero, List.set_cons_succ])
      refine PlanO.take (v := ?vb2) (by kernel_rfl) ?yb2 ?rb2
      case yb2 => (intro wz hz; go_simp; try with_reducible rfl)
      (try simp only [Act.put, List.setIfInBounds_toArray, List.set_cons_zero, List.set_cons_succ])
      refine PlanO.take (v := ?vb3) (by kernel_rfl) ?yb3 ?rb3
      case yb3 => (intro wz hz; go_simp; try with_reducible rfl)
      (try simp only [Act.put, List.setIfInBounds_toArray, List.set_cons_zero, List.set_cons_succ])
      refine PlanO.take (v := ?vb4) (by kernel_rfl) ?yb4 ?rb4
      case yb4 => (intro wz hz; go_simp; try with_reducible rfl)
      (try simp only [Act.put, List.setIfInBounds_toArray, List.set_cons_zero, List.set_cons_succ])
      refine PlanO.take (v := ?vb5) (by kernel_rfl) ?yb5 ?rb5
      case yb5 => (intro wz hz; have c0 := Ext.at_ hz e0; have c1 := Ext.at_ hz e1; go_simp; try with_reducible rfl)
      (try simp only [Act.put, List.setIfInBounds_toArray, List.set_cons_zero, List.set_cons_succ])
      refine PlanO.take (v := ?vb6) (by kernel_rfl) ?yb6 ?rb6
      case yb6 => (intro wz hz; go_simp; try with_reducible rfl)
      (try simp only [Act.put, List.setIfInBounds_toArray, List.set_cons_zero, List.set_cons_succ])
      refine PlanO.take (v := ?vb7) (by kernel_rfl) ?yb7 ?rb7
      case yb7 => (intro wz hz; go_simp; try with_reducible rfl)
      (try simp only [Act.put, List.setIfInBounds_toArray, List.set_cons_zero, List.set_cons_succ])
      refine PlanO.take (v := ?vb8) (by kernel_rfl) ?yb8 ?rb8
      case yb8 => (intro wz hz; go_simp; try with_reducible rfl)
      (try simp only [Act.put, List.setIfInBounds_toArray, List.set_cons_zero, List.set_cons_succ])
      refine PlanO.skip (by kernel_rfl) ?_
      (try simp only [Act.put, List.setIfInBounds_toArray, List.set_cons_zero, List.set_cons_succ])
      refine PlanO.skip (by kernel_rfl) ?_
      (try simp only [Act.put, List.setIfInBounds_toArray, List.set_cons_zero, List.set_cons_succ])
      refine PlanO.skip (by kernel_rfl) ?_
      (try simp only [Act.put, List.setIfInBounds_toArray, List.set_cons_zero, List.set_cons_succ])
      refine PlanO.skip (by kernel_rfl) ?_
      (try simp only [Act.put, List.setIfInBounds_toArray, List.set_cons_zero, List.set_cons_succ])
      refine PlanO.take (v := ?vb13) (by kernel_rfl) ?yb13 ?rb13
      case yb13 => (intro wz hz; go_simp; try with_reducible rfl)
      (try simp only [Act.put, List.setIfInBounds_toArray, List.set_cons_zero, List.set_cons_succ])
      refine PlanO.take (v := ?vb14) (by kernel_rfl) ?yb14 ?rb14
      case yb14 => (intro wz hz; go_simp; try with_reducible rfl)
      (try simp only [Act.put, List.setIfInBounds_toArray, List.set_cons_zero, List.set_cons_succ])
      refine PlanO.skip (by kernel_rfl) ?_
      (try simp only [Act.put, List.setIfInBounds_toArray, List.set_cons_zero, List.set_cons_succ])
      refine PlanO.skip (by kernel_rfl) ?_
      (try simp only [Act.put, List.setIfInBounds_toArray, List.set_cons_zero, List.set_cons_succ])
      refine PlanO.skip (by kernel_rfl) ?_
      (try simp only [Act.put, List.setIfInBounds_toArray, List.set_cons_zero, List.set_cons_succ])
      refine PlanO.skip (by kernel_rfl) ?_
      (try simp only [Act.put, List.setIfInBounds_toArray, List.set_cons_zero, List.set_cons_succ])
      refine PlanO.skip (by kernel_rfl) ?_
      (try simp only [Act.put, List.setIfInBounds_toArray, List.set_cons_zero, List.set_cons_succ])
      refine PlanO.skip (by kernel_rfl) ?_
      (try simp only [Act.put, List.setIfInBounds_toArray, List.set_cons_zero, List.set_cons_succ])
      refine PlanO.take (v := ?vb21) (by kernel_rfl) ?yb21 ?rb21
      case yb21 => (intro wz hz; go_simp; try with_reducible rfl)
      (try simp only [Act.put, List.setIfInBounds_toArray, List.set_cons_zero, List.set_cons_succ])
      refine PlanO.take (v := ?vb22) (by kernel_rfl) ?yb22 ?rb22
      case yb22 => (intro wz hz; go_simp; try with_reducible rfl)
      (try simp only [Act.put, List.setIfInBounds_toArray, List.set_cons_zero, List.set_cons_succ])
      refine PlanO.done (NoPanic.normal ?_)
      go_wp2
      go_ret
      exact ⟨oret_bool HR.out, HB.out.drew⟩
  · have HR := Lib.hid (mayBt_low l h1)
    refine wp_region_plan [(true, 0), (true, 1), (true, 2), (true, 3), (true, 4), (true, 5), (true, 6), (true, 7), (true, 8), (true, 9), (true, 10), (false, 11), (true, 12), (true, 13), (true, 14), (true, 15), (true, 16), (true, 17), (true, 18), (false, 19), (false, 20), (true, 21), (true, 22)] (by kernel_rfl) (by kernel_rfl) (by kernel_rfl) (by kernel_rfl) (by kernel_rfl) ?_
    simp only [planO, List.drop_succ_cons, List.drop_zero]
    refine PlanO.take (v := ?va0) (by kernel_rfl) ?ya0 ?ra0
    case ya0 => (intro wz hz; go_simp; try with_reducible rfl)
    (try simp only [Act.put, List.setIfInBounds_toArray, List.set_cons_zero, List.set_cons_succ])
    refine PlanO.take (v := ?va1) (by kernel_rfl) ?ya1 ?ra1
    case ya1 => (intro wz hz; have c0 := Ext.at_ hz e0; have c1 := Ext.at_ hz e1; go_simp; try with_reducible rfl)
    (try simp only [Act.put, List.setIfInBounds_toArray, List.set_cons_zero, List.set_cons_succ])
    refine PlanO.take (v := ?va2) (by kernel_rfl) ?ya2 ?ra2
    case ya2 => (intro wz hz; go_simp; try with_reducible rfl)
    (try simp only [Act.put, List.setIfInBounds_toArray, List.set_cons_zero, List.set_cons_succ])
    refine PlanO.take (v := ?va3) (by kernel_rfl) ?ya3 ?ra3
    case ya3 => (intro wz hz; go_simp; try with_reducible rfl)
    (try simp only [Act.put, List.setIfInBounds_toArray, List.set_cons_zero, List.set_cons_succ])
    refine PlanO.skip (by kernel_rfl) ?_
    (try simp only [Act.put, List.setIfInBounds_toArray, List.set_cons_zero, List.set_cons_succ])
    refine PlanO.skip (by kernel_rfl) ?_
    (try simp only [Act.put, List.setIfInBounds_toArray, List.set_cons_zero, List.set_cons_succ])
    refine PlanO.skip (by kernel_rfl) ?_
    (try simp only [Act.put, List.setIfInBounds_toArray, List.set_cons_zero, List.set_cons_succ])
    refine PlanO.take (v := ?va7) (by kernel_rfl) ?ya7 ?ra7
    case ya7 => (intro wz hz; go_simp; try with_reducible rfl)
    (try simp only [Act.put, List.setIfInBounds_toArray, List.set_cons_zero, List.set_cons_succ])
    refine PlanO.take (v := ?va8) (by kernel_rfl) ?ya8 ?ra8
    case ya8 => (intro wz hz; go_simp; try with_reducible rfl)
    (try simp only [Act.put, List.setIfInBounds_toArray, List.set_cons_zero, List.set_cons_succ])
    refine PlanO.skip (by kernel_rfl) ?_
    (try simp only [Act.put, List.setIfInBounds_toArray, List.set_cons_zero, List.set_cons_succ])
    refine PlanO.skip (by kernel_rfl) ?_
    (try simp only [Act.put, List.setIfInBounds_toArray, List.set_cons_zero, List.set_cons_succ])
    refine PlanO.skip (by kernel_rfl) ?_
    (try simp only [Act.put, List.setIfInBounds_toArray, List.set_cons_zero, List.set_cons_succ])
    refine PlanO.skip (by kernel_rfl) ?_
    (try simp only [Act.put, List.setIfInBounds_toArray, List.set_cons_zero, List.set_cons_succ])
    refine PlanO.take (v := ?va13) (by kernel_rfl) ?ya13 ?ra13
    case ya13 => (intro wz hz; go_simp; try with_reducible rfl)
    (try simp only [Act.put, List.setIfInBounds_toArray, List.set_cons_zero, List.set_cons_succ])
    refine PlanO.take (v := ?va14) (by kernel_rfl) ?ya14 ?ra14
    case ya14 => (intro wz hz; go_simp; try with_reducible rfl)
    (try simp only [Act.put, List.setIfInBounds_toArray, List.set_cons_zero, List.set_cons_succ])
    refine PlanO.skip (by kernel_rfl) ?_
    (try simp only [Act.put, List.setIfInBounds_toArray, List.set_cons_zero, List.set_cons_succ])
    refine PlanO.skip (by kernel_rfl) ?_
    (try simp only [Act.put, List.setIfInBounds_toArray, List.set_cons_zero, List.set_cons_succ])
    refine PlanO.skip (by kernel_rfl) ?_
    (try simp only [Act.put, List.setIfInBounds_toArray, List.set_cons_zero, List.set_cons_succ])
    refine PlanO.skip (by kernel_rfl) ?_
    (try simp only [Act.put, List.setIfInBounds_toArray, List.set_cons_zero, List.set_cons_succ])
    refine PlanO.skip (by kernel_rfl) ?_
    (try simp only [Act.put, List.setIfInBounds_toArray, List.set_cons_zero, List.set_cons_succ])
    refine PlanO.skip (by kernel_rfl) ?_
    (try simp only [Act.put, List.setIfInBounds_toArray, List.set_cons_zero, List.set_cons_succ])
    refine PlanO.take (v := ?va21) (by kernel_rfl) ?ya21 ?ra21
    case ya21 => (intro wz hz; go_simp; try with_reducible rfl)
    (try simp only [Act.put, List.setIfInBounds_toArray, List.set_cons_zero, List.set_cons_succ])
    refine PlanO.take (v := ?va22) (by kernel_rfl) ?ya22 ?ra22
    case ya22 => (intro wz hz; go_simp; try with_reducible rfl)
    (try simp only [Act.put, List.setIfInBounds_toArray, List.set_cons_zero, List.set_cons_succ])
    refine PlanO.done (NoPanic.normal ?_)
    go_wp2
    go_ret
    exact ⟨oret_bool HR.out, HB.out.drew⟩

set_option maxRecDepth 100000 in
set_option maxHeartbeats 4000000 in
theorem rmayB_any (s : Int) (v : Value) (l : List Ope) (w : World) (hv : RdO w v l) (hn : l.length ≤ 100000) :
    Calls Try.prog 24 #[batV s v] w fun e w' => e = .returned (.bool (mayBt s l)) ∧ Below w.heap.size w w' := by
  obtain ⟨a, cap, rfl, hc1, hc2⟩ := hv.form
  obtain ⟨wB, hwB⟩ : ∃ wB, wB = w.alloc (.cells #[.int .i64 s, .slice a l.length cap] 24) := ⟨_, rfl⟩
  have e0 : wB.cell? ⟨w.heap.size, 0, none⟩ = some (.int .i64 s) := by rw [hwB]; go_simp
  have e1 : wB.cell? ⟨w.heap.size, 1, none⟩ = some (.slice a l.length cap) := by rw [hwB]; go_simp
  have hB : Below w.heap.size w wB := by rw [hwB]; exact (Below.refl _ _).alloc (Nat.le_refl _) _
  have HB := Lib.hid hB
  have HB0 := Lib.hid (show Below w.heap.size w wB.drew from hB.drew)
  have HV := Lib.hid hv
  have HN := Lib.hid hn
  have HWB := Lib.hid hwB
  have hways := mayOs_ways l
  generalize hM : mayOs l = m at hways
  have HMM := Lib.hid hM
  clear hB hv hwB hn hc1 hc2
  go_enter Try.func24, Try.ntmps24
  go_upto_region 1 with (fail)
  rw [← HWB.out]
  clear HWB
  by_cases h1 : 1 ≤ s
  · by_cases h2 : s ≤ 9007199254740992
    · rcases hways with rfl | ⟨h3, h4⟩
      · have HNE : Hid (l ≠ []) := Lib.hid (by rintro rfl; cases hM)
        have HR := Lib.hid (mayBt_all h1 h2 hM)
        refine wp_region_plan [(true, 0), (true, 1), (true, 2), (true, 3), (true, 4), (true, 5), (true, 6), (true, 7), (true, 8), (true, 9), (true, 10), (false, 11), (true, 12), (true, 13), (true, 14), (true, 15), (true, 16), (true, 18), (true, 19), (false, 17), (false, 20), (true, 21), (true, 22)] (by kernel_rfl) (by kernel_rfl) (by kernel_rfl) (by kernel_rfl) (by kernel_rfl) ?_
        simp only [planO, List.drop_succ_cons, List.drop_zero]
        refine PlanO.take (v := ?vd0) (by kernel_rfl) ?yd0 ?rd0
        case yd0 => (intro wz hz; go_simp; try with_reducible rfl)
        (try simp only [Act.put, List.setIfInBounds_toArray, List.set_cons_zero, List.set_cons_succ])
        refine PlanO.take (v := ?vd1) (by kernel_rfl) ?yd1 ?rd1
        case yd1 => (intro wz hz; have c0 := Ext.at_ hz e0; have c1 := Ext.at_ hz e1; go_simp; try with_reducible rfl)
        (try simp only [Act.put, List.setIfInBounds_toArray, List.set_cons_zero, List.set_cons_succ])
        refine PlanO.take (v := ?vd2) (by kernel_rfl) ?yd2 ?rd2
        case yd2 => (intro wz hz; go_simp; try with_reducible rfl)
        (try simp only [Act.put, List.setIfInBounds_toArray, List.set_cons_zero, List.set_cons_succ])
        refine PlanO.take (v := ?vd3) (by kernel_rfl) ?yd3 ?rd3
        case yd3 => (intro wz hz; go_simp; try with_reducible rfl)
        (try simp only [Act.put, List.setIfInBounds_toArray, List.set_cons_zero, List.set_cons_succ])
        refine PlanO.take (v := ?vd4) (by kernel_rfl) ?yd4 ?rd4
        case yd4 => (intro wz hz; go_simp; try with_reducible rfl)
        (try simp only [Act.put, List.setIfInBounds_toArray, List.set_cons_zero, List.set_cons_succ])
        refine PlanO.take (v := ?vd5) (by kernel_rfl) ?yd5 ?rd5
        case yd5 => (intro wz hz; have c0 := Ext.at_ hz e0; have c1 := Ext.at_ hz e1; go_simp; try with_reducible rfl)
        (try simp only [Act.put, List.setIfInBounds_toArray, List.set_cons_zero, List.set_cons_succ])
        refine PlanO.take (v := ?vd6) (by kernel_rfl) ?yd6 ?rd6
        case yd6 => (intro wz hz; go_simp; try with_reducible rfl)
        (try simp only [Act.put, List.setIfInBounds_toArray, List.set_cons_zero, List.set_cons_succ])
        refine PlanO.take (v := ?vd7) (by kernel_rfl) ?yd7 ?rd7
        case yd7 => (intro wz hz; go_simp; try with_reducible rfl)
        (try simp only [Act.put, List.setIfInBounds_toArray, List.set_cons_zero, List.set_cons_succ])
        refine PlanO.take (v := ?vd8) (by kernel_rfl) ?yd8 ?rd8
        case yd8 => (intro wz hz; go_simp; try with_reducible rfl)
        (try simp only [Act.put, List.setIfInBounds_toArray, List.set_cons_zero, List.set_cons_succ])
        refine PlanO.take (v := ?vd9) (by kernel_rfl) ?yd9 ?rd9
        case yd9 => (intro wz hz; go_simp; try with_reducible rfl)
        (try simp only [Act.put, List.setIfInBounds_toArray, List.set_cons_zero, List.set_cons_succ])
        refine PlanO.take (v := ?vd10) (by kernel_rfl) ?yd10 ?rd10
        case yd10 => (intro wz hz; have c0 := Ext.at_ hz e0; have c1 := Ext.at_ hz e1; go_simp; try with_reducible rfl)
        (try simp only [Act.put, List.setIfInBounds_toArray, List.set_cons_zero, List.set_cons_succ])
        refine PlanO.exec (fun K hK => ?_)
        go_simp
        go_at_call 42
        refine (rmayO_any _ l _ (HV.out.below HB0.out (Nat.le_refl _))).mono ?_
        rintro e u1 ⟨rfl, hb1⟩
        rw [hM]
        have hE1 : Ext wB.drew u1 := hb1
        go_wp2_with fail
        refine hK.out _ _ hb1 ?_
        clear hK K
        (try simp only [Act.put, List.setIfInBounds_toArray, List.set_cons_zero, List.set_cons_succ])
        refine PlanO.take (v := ?vd12) (by kernel_rfl) ?yd12 ?rd12
        case yd12 => (intro wz hz; go_simp; try with_reducible rfl)
        (try simp only [Act.put, List.setIfInBounds_toArray, List.set_cons_zero, List.set_cons_succ])
        refine PlanO.take (v := ?vd13) (by kernel_rfl) ?yd13 ?rd13
        case yd13 => (intro wz hz; go_simp; try with_reducible rfl)
        (try simp only [Act.put, List.setIfInBounds_toArray, List.set_cons_zero, List.set_cons_succ])
        refine PlanO.take (v := ?vd14) (by kernel_rfl) ?yd14 ?rd14
        case yd14 => (intro wz hz; go_simp; try with_reducible rfl)
        (try simp only [Act.put, List.setIfInBounds_toArray, List.set_cons_zero, List.set_cons_succ])
        refine PlanO.take (v := ?vd15) (by kernel_rfl) ?yd15 ?rd15
        case yd15 => (intro wz hz; go_simp; try with_reducible rfl)
        (try simp only [Act.put, List.setIfInBounds_toArray, List.set_cons_zero, List.set_cons_succ])
        refine PlanO.take (v := ?vd16) (by kernel_rfl) ?yd16 ?rd16
        case yd16 => (intro wz hz; have hw := Ext.trans hE1 hz; have c0 := Ext.at_ hw e0; have c1 := Ext.at_ hw e1; go_simp; try with_reducible rfl)
        (try simp only [Act.put, List.setIfInBounds_toArray, List.set_cons_zero, List.set_cons_succ])
        refine PlanO.take (v := ?vd18) (by kernel_rfl) ?yd18 ?rd18
        case yd18 => (intro wz hz; have hw := Ext.trans hE1 hz; have c0 := Ext.at_ hw e0; have c1 := Ext.at_ hw e1; go_simp; try with_reducible rfl)
        (try simp only [Act.put, List.setIfInBounds_toArray, List.set_cons_zero, List.set_cons_succ])
        refine PlanO.take (v := ?vd19) (by kernel_rfl) ?yd19 ?rd19
        case yd19 => (intro wz hz; have hw := Ext.trans hE1 hz; have c0 := Ext.at_ hw e0; have c1 := Ext.at_ hw e1; go_simp; try with_reducible rfl)
        (try simp only [Act.put, List.setIfInBounds_toArray, List.set_cons_zero, List.set_cons_succ])
        refine PlanO.exec (fun K hK => ?_)
        go_simp
        go_at_call 28
        refine (rnorm_any _ l _ (HV.out.below (HB0.out.trans (hE1.mono HB0.out.size)) (Nat.le_refl _)) HN.out).mono ?_
        rintro e u2 ⟨v2, rfl, ho2, hb2⟩
        have hE2 : Ext wB.drew u2 := Ext.trans hE1 hb2
        have HO2 := Lib.hid ho2
        clear ho2
        go_wp2_with fail
        refine hK.out _ _ hb2 ?_
        clear hK K
        (try simp only [Act.put, List.setIfInBounds_toArray, List.set_cons_zero, List.set_cons_succ])
        refine PlanO.exec (fun K hK => ?_)
        go_simp
        go_at_call 35
        refine (rsame_any _ _ (normL l) l _ (HO2.out.read (fun o ho => HV.out.2 o (normL_mem ho))) (HV.out.below (HB0.out.trans (hE2.mono HB0.out.size)) (Nat.le_refl _))).mono ?_
        rintro e u3 ⟨rfl, hb3⟩
        have hE3 : Ext wB.drew u3 := Ext.trans hE2 hb3
        go_wp2_with fail
        refine hK.out _ _ hb3 ?_
        clear hK K
        (try simp only [Act.put, List.setIfInBounds_toArray, List.set_cons_zero, List.set_cons_succ])
        refine PlanO.take (v := ?vd21) (by kernel_rfl) ?yd21 ?rd21
        case yd21 => (intro wz hz; go_simp; try with_reducible rfl)
        (try simp only [Act.put, List.setIfInBounds_toArray, List.set_cons_zero, List.set_cons_succ])
        refine PlanO.take (v := ?vd22) (by kernel_rfl) ?yd22 ?rd22
        case yd22 => (intro wz hz; go_simp; try with_reducible rfl)
        (try simp only [Act.put, List.setIfInBounds_toArray, List.set_cons_zero, List.set_cons_succ])
        refine PlanO.done (NoPanic.normal ?_)
        go_wp2
        go_ret
        exact ⟨oret_bool ((sameL_comm _ _).trans HR.out), HB.out.trans ((below_draw hE3).mono HB.out.size)⟩
      · have HR := Lib.hid (mayBt_ops (s := s) (show mayOs l ≠ 0 by rw [hM]; exact h4))
        refine wp_region_plan [(true, 0), (true, 1), (true, 2), (true, 3), (true, 4), (true, 5), (true, 6), (true, 7), (true, 8), (true, 9), (true, 10), (false, 11), (true, 12), (true, 13), (true, 14), (true, 15), (true, 16), (true, 18), (true, 19), (false, 17), (false, 20), (true, 21), (true, 22)] (by kernel_rfl) (by kernel_rfl) (by kernel_rfl) (by kernel_rfl) (by kernel_rfl) ?_
        simp only [planO, List.drop_succ_cons, List.drop_zero]
        refine PlanO.take (v := ?vc0) (by kernel_rfl) ?yc0 ?rc0
        case yc0 => (intro wz hz; go_simp; try with_reducible rfl)
        (try simp only [Act.put, List.setIfInBounds_toArray, List.set_cons_zero, List.set_cons_succ])
        refine PlanO.take (v := ?vc1) (by kernel_rfl) ?yc1 ?rc1
        case yc1 => (intro wz hz; have c0 := Ext.at_ hz e0; have c1 := Ext.at_ hz e1; go_simp; try with_reducible rfl)
        (try simp only [Act.put, List.setIfInBounds_toArray, List.set_cons_zero, List.set_cons_succ])
        refine PlanO.take (v := ?vc2) (by kernel_rfl) ?yc2 ?rc2
        case yc2 => (intro wz hz; go_simp; try with_reducible rfl)
        (try simp only [Act.put, List.setIfInBounds_toArray, List.set_cons_zero, List.set_cons_succ])
        refine PlanO.take (v := ?vc3) (by kernel_rfl) ?yc3 ?rc3
        case yc3 => (intro wz hz; go_simp; try with_reducible rfl)
        (try simp only [Act.put, List.setIfInBounds_toArray, List.set_cons_zero, List.set_cons_succ])
        refine PlanO.take (v := ?vc4) (by kernel_rfl) ?yc4 ?rc4
        case yc4 => (intro wz hz; go_simp; try with_reducible rfl)
        (try simp only [Act.put, List.setIfInBounds_toArray, List.set_cons_zero, List.set_cons_succ])
        refine PlanO.take (v := ?vc5) (by kernel_rfl) ?yc5 ?rc5
        case yc5 => (intro wz hz; have c0 := Ext.at_ hz e0; have c1 := Ext.at_ hz e1; go_simp; try with_reducible rfl)
        (try simp only [Act.put, List.setIfInBounds_toArray, List.set_cons_zero, List.set_cons_succ])
        refine PlanO.take (v := ?vc6) (by kernel_rfl) ?yc6 ?rc6
        case yc6 => (intro wz hz; go_simp; try with_reducible rfl)
        (try simp only [Act.put, List.setIfInBounds_toArray, List.set_cons_zero, List.set_cons_succ])
        refine PlanO.take (v := ?vc7) (by kernel_rfl) ?yc7 ?rc7
        case yc7 => (intro wz hz; go_simp; try with_reducible rfl)
        (try simp only [Act.put, List.setIfInBounds_toArray, List.set_cons_zero, List.set_cons_succ])
        refine PlanO.take (v := ?vc8) (by kernel_rfl) ?yc8 ?rc8
        case yc8 => (intro wz hz; go_simp; try with_reducible rfl)
        (try simp only [Act.put, List.setIfInBounds_toArray, List.set_cons_zero, List.set_cons_succ])
        refine PlanO.take (v := ?vc9) (by kernel_rfl) ?yc9 ?rc9
        case yc9 => (intro wz hz; go_simp; try with_reducible rfl)
        (try simp only [Act.put, List.setIfInBounds_toArray, List.set_cons_zero, List.set_cons_succ])
        refine PlanO.take (v := ?vc10) (by kernel_rfl) ?yc10 ?rc10
        case yc10 => (intro wz hz; have c0 := Ext.at_ hz e0; have c1 := Ext.at_ hz e1; go_simp; try with_reducible rfl)
        (try simp only [Act.put, List.setIfInBounds_toArray, List.set_cons_zero, List.set_cons_succ])
        refine PlanO.exec (fun K hK => ?_)
        go_simp
        go_at_call 42
        refine (rmayO_any _ l _ (HV.out.below HB0.out (Nat.le_refl _))).mono ?_
        rintro e u1 ⟨rfl, hb1⟩
        rw [hM]
        have hE1 : Ext wB.drew u1 := hb1
        go_wp2_with fail
        refine hK.out _ _ hb1 ?_
        clear hK K
        (try simp only [Act.put, List.setIfInBounds_toArray, List.set_cons_zero, List.set_cons_succ])
        refine PlanO.take (v := ?vc12) (by kernel_rfl) ?yc12 ?rc12
        case yc12 => (intro wz hz; go_simp; try with_reducible rfl)
        (try simp only [Act.put, List.setIfInBounds_toArray, List.set_cons_zero, List.set_cons_succ])
        refine PlanO.take (v := ?vc13) (by kernel_rfl) ?yc13 ?rc13
        case yc13 => (intro wz hz; go_simp; try with_reducible rfl)
        (try simp only [Act.put, List.setIfInBounds_toArray, List.set_cons_zero, List.set_cons_succ])
        refine PlanO.take (v := ?vc14) (by kernel_rfl) ?yc14 ?rc14
        case yc14 => (intro wz hz; go_simp; try with_reducible rfl)
        (try simp only [Act.put, List.setIfInBounds_toArray, List.set_cons_zero, List.set_cons_succ])
        refine PlanO.skip (by kernel_rfl) ?_
        (try simp only [Act.put, List.setIfInBounds_toArray, List.set_cons_zero, List.set_cons_succ])
        refine PlanO.skip (by kernel_rfl) ?_
        (try simp only [Act.put, List.setIfInBounds_toArray, List.set_cons_zero, List.set_cons_succ])
        refine PlanO.skip (by kernel_rfl) ?_
        (try simp only [Act.put, List.setIfInBounds_toArray, List.set_cons_zero, List.set_cons_succ])
        refine PlanO.skip (by kernel_rfl) ?_
        (try simp only [Act.put, List.setIfInBounds_toArray, List.set_cons_zero, List.set_cons_succ])
        refine PlanO.skip (by kernel_rfl) ?_
        (try simp only [Act.put, List.setIfInBounds_toArray, List.set_cons_zero, List.set_cons_succ])
        refine PlanO.skip (by kernel_rfl) ?_
        (try simp only [Act.put, List.setIfInBounds_toArray, List.set_cons_zero, List.set_cons_succ])
        refine PlanO.take (v := ?vc21) (by kernel_rfl) ?yc21 ?rc21
        case yc21 => (intro wz hz; go_simp; try with_reducible rfl)
        (try simp only [Act.put, List.setIfInBounds_toArray, List.set_cons_zero, List.set_cons_succ])
        refine PlanO.take (v := ?vc22) (by kernel_rfl) ?yc22 ?rc22
        case yc22 => (intro wz hz; go_simp; try with_reducible rfl)
        (try simp only [Act.put, List.setIfInBounds_toArray, List.set_cons_zero, List.set_cons_succ])
        refine PlanO.done (NoPanic.normal ?_)
        go_wp2
        go_ret
        exact ⟨oret_bool HR.out, HB.out.trans ((below_draw hE1).mono HB.out.size)⟩
    · have HR := Lib.hid (mayBt_high l h2)
      refine wp_region_plan [(true, 0), (true, 1), (true, 2), (true, 3), (true, 4), (true, 5), (true, 6), (true, 7), (true, 8), (true, 9), (true, 10), (false, 11), (true, 12), (true, 13), (true, 14), (true, 15), (true, 16), (true, 18), (true, 19), (false, 17), (false, 20), (true, 21), (true, 22)] (by kernel_rfl) (by kernel_rfl) (by kernel_rfl) (by kernel_rfl) (by kernel_rfl) ?_
      simp only [planO, List.drop_succ_cons, List.drop_zero]
      refine PlanO.take (v := ?vb0) (by kernel_rfl) ?yb0 ?rb0
      case yb0 => (intro wz hz; go_simp; try with_reducible rfl)
      (try simp only [Act.put, List.setIfInBounds_toArray, List.set_cons_zero, List.set_cons_succ])
      refine PlanO.take (v := ?vb1) (by kernel_rfl) ?yb1 ?rb1
      case yb1 => (intro wz hz; have c0 := Ext.at_ hz e0; have c1 := Ext.at_ hz e1; go_simp; try with_reducible rfl)
      (try simp only [Act.put, List.setIfInBounds_toArray, List.set_cons_zero, List.set_cons_succ])
      refine PlanO.take (v := ?vb2) (by kernel_rfl) ?yb2 ?rb2
      case yb2 => (intro wz hz; go_simp; try with_reducible rfl)
      (try simp only [Act.put, List.setIfInBounds_toArray, List.set_cons_zero, List.set_cons_succ])
      refine PlanO.take (v := ?vb3) (by kernel_rfl) ?yb3 ?rb3
      case yb3 => (intro wz hz; go_simp; try with_reducible rfl)
      (try simp only [Act.put, List.setIfInBounds_toArray, List.set_cons_zero, List.set_cons_succ])
      refine PlanO.take (v := ?vb4) (by kernel_rfl) ?yb4 ?rb4
      case yb4 => (intro wz hz; go_simp; try with_reducible rfl)
      (try simp only [Act.put, List.setIfInBounds_toArray, List.set_cons_zero, List.set_cons_succ])
      refine PlanO.take (v := ?vb5) (by kernel_rfl) ?yb5 ?rb5
      case yb5 => (intro wz hz; have c0 := Ext.at_ hz e0; have c1 := Ext.at_ hz e1; go_simp; try with_reducible rfl)
      (try simp only [Act.put, List.setIfInBounds_toArray, List.set_cons_zero, List.set_cons_succ])
      refine PlanO.take (v := ?vb6) (by kernel_rfl) ?yb6 ?rb6
      case yb6 => (intro wz hz; go_simp; try with_reducible rfl)
      (try simp only [Act.put, List.setIfInBounds_toArray, List.set_cons_zero, List.set_cons_succ])
      refine PlanO.take (v := ?vb7) (by kernel_rfl) ?yb7 ?rb7
      case yb7 => (intro wz hz; go_simp; try with_reducible rfl)
      (try simp only [Act.put, List.setIfInBounds_toArray, List.set_cons_zero, List.set_cons_succ])
      refine PlanO.take (v := ?vb8) (by kernel_rfl) ?yb8 ?rb8
      case yb8 => (intro wz hz; go_simp; try with_reducible rfl)
      (try simp only [Act.put, List.setIfInBounds_toArray, List.set_cons_zero, List.set_cons_succ])
      refine PlanO.skip (by kernel_rfl) ?_
      (try simp only [Act.put, List.setIfInBounds_toArray, List.set_cons_zero, List.set_cons_succ])
      refine PlanO.skip (by kernel_rfl) ?_
      (try simp only [Act.put, List.setIfInBounds_toArray, List.set_cons_zero, List.set_cons_succ])
      refine PlanO.skip (by kernel_rfl) ?_
      (try simp only [Act.put, List.setIfInBounds_toArray, List.set_cons_zero, List.set_cons_succ])
      refine PlanO.skip (by kernel_rfl) ?_
      (try simp only [Act.put, List.setIfInBounds_toArray, List.set_cons_zero, List.set_cons_succ])
      refine PlanO.take (v := ?vb13) (by kernel_rfl) ?yb13 ?rb13
      case yb13 => (intro wz hz; go_simp; try with_reducible rfl)
      (try simp only [Act.put, List.setIfInBounds_toArray, List.set_cons_zero, List.set_cons_succ])
      refine PlanO.take (v := ?vb14) (by kernel_rfl) ?yb14 ?rb14
      case yb14 => (intro wz hz; go_simp; try with_reducible rfl)
      (try simp only [Act.put, List.setIfInBounds_toArray, List.set_cons_zero, List.set_cons_succ])
      refine PlanO.skip (by kernel_rfl) ?_
      (try simp only [Act.put, List.setIfInBounds_toArray, List.set_cons_zero, List.set_cons_succ])
      refine PlanO.skip (by kernel_rfl) ?_
      (try simp only [Act.put, List.setIfInBounds_toArray, List.set_cons_zero, List.set_cons_succ])
      refine PlanO.skip (by kernel_rfl) ?_
      (try simp only [Act.put, List.setIfInBounds_toArray, List.set_cons_zero, List.set_cons_succ])
      refine PlanO.skip (by kernel_rfl) ?_
      (try simp only [Act.put, List.setIfInBounds_toArray, List.set_cons_zero, List.set_cons_succ])
      refine PlanO.skip (by kernel_rfl) ?_
      (try simp only [Act.put, List.setIfInBounds_toArray, List.set_cons_zero, List.set_cons_succ])
      refine PlanO.skip (by kernel_rfl) ?_
      (try simp only [Act.put, List.setIfInBounds_toArray, List.set_cons_zero, List.set_cons_succ])
      refine PlanO.take (v := ?vb21) (by kernel_rfl) ?yb21 ?rb21
      case yb21 => (intro wz hz; go_simp; try with_reducible rfl)
      (try simp only [Act.put, List.setIfInBounds_toArray, List.set_cons_zero, List.set_cons_succ])
      refine PlanO.take (v := ?vb22) (by kernel_rfl) ?yb22 ?rb22
      case yb22 => (intro wz hz; go_simp; try with_reducible rfl)
      (try simp only [Act.put, List.setIfInBounds_toArray, List.set_cons_zero, List.set_cons_succ])
      refine PlanO.done (NoPanic.normal ?_)
      go_wp2
      go_ret
      exact ⟨oret_bool HR.out, HB.out.drew⟩
  · have HR := Lib.hid (mayBt_low l h1)
    refine wp_region_plan [(true, 0), (true, 1), (true, 2), (true, 3), (true, 4), (true, 5), (true, 6), (true, 7), (true, 8), (true, 9), (true, 10), (false, 11), (true, 12), (true, 13), (true, 14), (true, 15), (true, 16), (true, 18), (true, 19), (false, 17), (false, 20), (true, 21), (true, 22)] (by kernel_rfl) (by kernel_rfl) (by kernel_rfl) (by kernel_rfl) (by kernel_rfl) ?_
    simp only [planO, List.drop_succ_cons, List.drop_zero]
    refine PlanO.take (v := ?va0) (by kernel_rfl) ?ya0 ?ra0
    case ya0 => (intro wz hz; go_simp; try with_reducible rfl)
    (try simp only [Act.put, List.setIfInBounds_toArray, List.set_cons_zero, List.set_cons_succ])
    refine PlanO.take (v := ?va1) (by kernel_rfl) ?ya1 ?ra1
    case ya1 => (intro wz hz; have c0 := Ext.at_ hz e0; have c1 := Ext.at_ hz e1; go_simp; try with_reducible rfl)
    (try simp only [Act.put, List.setIfInBounds_toArray, List.set_cons_zero, List.set_cons_succ])
    refine PlanO.take (v := ?va2) (by kernel_rfl) ?ya2 ?ra2
    case ya2 => (intro wz hz; go_simp; try with_reducible rfl)
    (try simp only [Act.put, List.setIfInBounds_toArray, List.set_cons_zero, List.set_cons_succ])
    refine PlanO.take (v := ?va3) (by kernel_rfl) ?ya3 ?ra3
    case ya3 => (intro wz hz; go_simp; try with_reducible rfl)
    (try simp only [Act.put, List.setIfInBounds_toArray, List.set_cons_zero, List.set_cons_succ])
    refine PlanO.skip (by kernel_rfl) ?_
    (try simp only [Act.put, List.setIfInBounds_toArray, List.set_cons_zero, List.set_cons_succ])
    refine PlanO.skip (by kernel_rfl) ?_
    (try simp only [Act.put, List.setIfInBounds_toArray, List.set_cons_zero, List.set_cons_succ])
    refine PlanO.skip (by kernel_rfl) ?_
    (try simp only [Act.put, List.setIfInBounds_toArray, List.set_cons_zero, List.set_cons_succ])
    refine PlanO.take (v := ?va7) (by kernel_rfl) ?ya7 ?ra7
    case ya7 => (intro wz hz; go_simp; try with_reducible rfl)
    (try simp only [Act.put, List.setIfInBounds_toArray, List.set_cons_zero, List.set_cons_succ])
    refine PlanO.take (v := ?va8) (by kernel_rfl) ?ya8 ?ra8
    case ya8 => (intro wz hz; go_simp; try with_reducible rfl)
    (try simp only [Act.put, List.setIfInBounds_toArray, List.set_cons_zero, List.set_cons_succ])
    refine PlanO.skip (by kernel_rfl) ?_
    (try simp only [Act.put, List.setIfInBounds_toArray, List.set_cons_zero, List.set_cons_succ])
    refine PlanO.skip (by kernel_rfl) ?_
    (try simp only [Act.put, List.setIfInBounds_toArray, List.set_cons_zero, List.set_cons_succ])
    refine PlanO.skip (by kernel_rfl) ?_
    (try simp only [Act.put, List.setIfInBounds_toArray, List.set_cons_zero, List.set_cons_succ])
    refine PlanO.skip (by kernel_rfl) ?_
    (try simp only [Act.put, List.setIfInBounds_toArray, List.set_cons_zero, List.set_cons_succ])
    refine PlanO.take (v := ?va13) (by kernel_rfl) ?ya13 ?ra13
    case ya13 => (intro wz hz; go_simp; try with_reducible rfl)
    (try simp only [Act.put, List.setIfInBounds_toArray, List.set_cons_zero, List.set_cons_succ])
    refine PlanO.take (v := ?va14) (by kernel_rfl) ?ya14 ?ra14
    case ya14 => (intro wz hz; go_simp; try with_reducible rfl)
    (try simp only [Act.put, List.setIfInBounds_toArray, List.set_cons_zero, List.set_cons_succ])
    refine PlanO.skip (by kernel_rfl) ?_
    (try simp only [Act.put, List.setIfInBounds_toArray, List.set_cons_zero, List.set_cons_succ])
    refine PlanO.skip (by kernel_rfl) ?_
    (try simp only [Act.put, List.setIfInBounds_toArray, List.set_cons_zero, List.set_cons_succ])
    refine PlanO.skip (by kernel_rfl) ?_
    (try simp only [Act.put, List.setIfInBounds_toArray, List.set_cons_zero, List.set_cons_succ])
    refine PlanO.skip (by kernel_rfl) ?_
    (try simp only [Act.put, List.setIfInBounds_toArray, List.set_cons_zero, List.set_cons_succ])
    refine PlanO.skip (by kernel_rfl) ?_
    (try simp only [Act.put, List.setIfInBounds_toArray, List.set_cons_zero, List.set_cons_succ])
    refine PlanO.skip (by kernel_rfl) ?_
    (try simp only [Act.put, List.setIfInBounds_toArray, List.set_cons_zero, List.set_cons_succ])
    refine PlanO.take (v := ?va21) (by kernel_rfl) ?ya21 ?ra21
    case ya21 => (intro wz hz; go_simp; try with_reducible rfl)
    (try simp only [Act.put, List.setIfInBounds_toArray, List.set_cons_zero, List.set_cons_succ])
    refine PlanO.take (v := ?va22) (by kernel_rfl) ?ya22 ?ra22
    case ya22 => (intro wz hz; go_simp; try with_reducible rfl)
    (try simp only [Act.put, List.setIfInBounds_toArray, List.set_cons_zero, List.set_cons_succ])
    refine PlanO.done (NoPanic.normal ?_)
    go_wp2
    go_ret
    exact ⟨oret_bool HR.out, HB.out.drew⟩
end Go.Proofs.Ytpbmacbogmnokaa
