/-
  The walk of the statement KeyOrder.
-/
import Derived.Test.YtmeddhjhdjgagaaAwake2
import Derived.Test.YtmeddhjhdjgagaaKeyRefCmp
import Derived.Test.YtmeddhjhdjgagaaRegion
import Derived.Test.YtmeddhjhdjgagaaOpen
import Derived.Deep.Cut
namespace Go.Proofs.Ytmeddhjhdjgagaa
open Go.ChangeShapes Go.WideShapes Go.ChangeAt Go.RowKit

theorem if_eqs (l1 l2 : List UInt8) (s1 s2 k1 k2 : Int) (wz : World) :
    (if l1 = l2 then if s1 = s2 then if k1 = k2 then Result.ok (Next.value (Value.bool true)) wz else Result.ok (Next.value (Value.bool false)) wz else Result.ok (Next.value (Value.bool false)) wz
      else Result.ok (Next.value (Value.bool false)) wz) = Result.ok (Next.value (Value.bool (l1 == l2 && (s1 == s2 && k1 == k2)))) wz := by
  by_cases h1 : l1 = l2 <;> by_cases h2 : s1 = s2 <;> by_cases h3 : k1 = k2 <;> simp [h1, h2, h3]

theorem order_1 {x y z : Int} (hx : Sgn x) (hy : Sgn y) (h : Three x y z) : (decide (0 < x) || decide (0 < y) || decide (z ≤ 0)) = true := by
  unfold Sgn Three at *
  simp only [Bool.or_eq_true, decide_eq_true_eq]
  omega
theorem order_2 {x y z : Int} (hx : Sgn x) (hy : Sgn y) (h : Three x y z) : (decide (x < 0) || decide (y < 0) || decide (0 ≤ z)) = true := by
  unfold Sgn Three at *
  simp only [Bool.or_eq_true, decide_eq_true_eq]
  omega
theorem order_3 (l1 l2 : List UInt8) (s1 k1 s2 k2 : Int) : (!Op.bytesLess l1 l2 || cmpK l1 s1 k1 l2 s2 k2 == -1) = true := by
  rw [less_cmp]
  by_cases h : cmpL l1 l2 = -1
  · have : cmpK l1 s1 k1 l2 s2 k2 = -1 := by unfold cmpK lex; rw [h]; rfl
    rw [this]; simp
  · have : (cmpL l1 l2 == -1) = false := by simpa using h
    rw [this]; rfl
theorem order_4 (l1 l2 : List UInt8) (s1 k1 s2 k2 : Int) : ((!l1 == l2) || decide (s1 ≤ s2) || cmpK l1 s1 k1 l2 s2 k2 == -1) = true := by
  by_cases h : l1 = l2
  · by_cases h2 : s1 ≤ s2
    · simp [h2]
    · have e : cmpK l1 s1 k1 l2 s2 k2 = -1 := by
        unfold cmpK lex cmpZ
        rw [(cmpL_zero l1 l2).2 h, if_pos rfl]
        (repeat' split) <;> omega
      rw [e]; simp
  · have : (l1 == l2) = false := by simpa using h
    rw [this]; rfl

set_option maxRecDepth 100000 in
set_option maxHeartbeats 8000000 in
set_option linter.unusedSimpArgs false in
theorem keyOrder_near (u1 : ByteArray) (s1 k1 : Int) (u2 : ByteArray) (s2 k2 : Int) (u3 : ByteArray) (s3 k3 : Int) (W : World)
    (g1 : ¬ (500 : Int) < (u1.size : Int)) (g2 : ¬ (500 : Int) < (u2.size : Int)) (g3 : ¬ (500 : Int) < (u3.size : Int)) :
    Calls Try.prog 4 #[keyV u1 s1 k1, keyV u2 s2 k2, keyV u3 s3 k3] W fun e w' => e = .returned (.bool true) ∧ Below W.heap.size W w' := by
  have hu1 : u1.size ≤ maxLen := by unfold maxLen; omega
  have hu2 : u2.size ≤ maxLen := by unfold maxLen; omega
  have hu3 : u3.size ≤ maxLen := by unfold maxLen; omega
  have c1 := cmp_any u1 s1 k1 u2 s2 k2 hu1 hu2
  have c2 := cmp_any u2 s2 k2 u3 s3 k3 hu2 hu3
  have c3 := cmp_any u1 s1 k1 u3 s3 k3 hu1 hu3
  have c4 := cmp_any u2 s2 k2 u1 s1 k1 hu2 hu1
  rw [cmpK_turn u1.data.toList s1 k1 u2.data.toList s2 k2] at c4
  have sx := cmpK_sgn u1.data.toList s1 k1 u2.data.toList s2 k2
  have sy := cmpK_sgn u2.data.toList s2 k2 u3.data.toList s3 k3
  have th := cmpK_three u1.data.toList s1 k1 u2.data.toList s2 k2 u3.data.toList s3 k3
  have o1 := order_1 sx sy th
  have o2 := order_2 sx sy th
  have o3 := order_3 u1.data.toList u2.data.toList s1 k1 s2 k2
  have o4 := order_4 u1.data.toList u2.data.toList s1 k1 s2 k2
  have z0 := cmpK_zero u1.data.toList s1 k1 u2.data.toList s2 k2
  generalize cmpK u1.data.toList s1 k1 u2.data.toList s2 k2 = x at *
  generalize cmpK u2.data.toList s2 k2 u3.data.toList s3 k3 = y at *
  generalize cmpK u1.data.toList s1 k1 u3.data.toList s3 k3 = z at *
  have o0 : ((x == 0) == (u1.data.toList == u2.data.toList && (s1 == s2 && k1 == k2))) = true := by
    rw [beq_iff_eq, Bool.eq_iff_iff]
    simp only [beq_iff_eq, Bool.and_eq_true]
    exact z0
  have sn : -x = -x := rfl
  have hneg : IntKind.i64.wrap (-x) = -x := IntWalk.i64_in _ (by unfold Sgn at sx; omega)
  rw [← toList_data u1, ← toList_data u2] at o0 o3 o4
  have C1 := Lib.hid c1
  have C2 := Lib.hid c2
  have C3 := Lib.hid c3
  have C4 := Lib.hid c4
  clear c1 c2 c3 c4 sx sy th z0 sn
  generalize heq : (u1.toList == u2.toList && (s1 == s2 && k1 == k2)) = eqab at *
  generalize hpx : decide (0 < x) = px at *
  generalize hpy : decide (0 < y) = py at *
  generalize hqz : decide (z ≤ 0) = qz at *
  generalize hnx : decide (x < 0) = nx at *
  generalize hny : decide (y < 0) = ny at *
  generalize hrz : decide (0 ≤ z) = rz at *
  generalize hge : (!Op.bytesLess u1.toList u2.toList) = ge at *
  generalize hne : (!u1.toList == u2.toList) = ne at *
  generalize hle : decide (s1 ≤ s2) = le at *
  generalize hxm : (x == -1) = xm at *
  have G0 := Lib.hid o0
  have G1 := Lib.hid o1
  have G2 := Lib.hid o2
  have G3 := Lib.hid o3
  have G4 := Lib.hid o4
  clear o0 o1 o2 o3 o4
  go_enter Try.func4, Try.ntmps4
  go_wp2
  obtain ⟨wB, hwB⟩ : ∃ wB, wB = ((W.alloc (.cells #[.string u1, .int .i64 s1, .int .i64 k1] 23)).alloc (.cells #[.string u2, .int .i64 s2, .int .i64 k2] 23)).alloc (.cells #[.string u3, .int .i64 s3, .int .i64 k3] 23) := ⟨_, rfl⟩
  rw [← hwB]
  have d00 : wB.cell? ⟨W.heap.size, 0, none⟩ = some (.string u1) := by rw [hwB]; go_simp
  have d01 : wB.cell? ⟨W.heap.size, 1, none⟩ = some (.int .i64 s1) := by rw [hwB]; go_simp
  have d02 : wB.cell? ⟨W.heap.size, 2, none⟩ = some (.int .i64 k1) := by rw [hwB]; go_simp
  have d10 : wB.cell? ⟨W.heap.size + 1, 0, none⟩ = some (.string u2) := by rw [hwB]; go_simp
  have d11 : wB.cell? ⟨W.heap.size + 1, 1, none⟩ = some (.int .i64 s2) := by rw [hwB]; go_simp
  have d12 : wB.cell? ⟨W.heap.size + 1, 2, none⟩ = some (.int .i64 k2) := by rw [hwB]; go_simp
  have d20 : wB.cell? ⟨W.heap.size + 2, 0, none⟩ = some (.string u3) := by rw [hwB]; go_simp
  have d21 : wB.cell? ⟨W.heap.size + 2, 1, none⟩ = some (.int .i64 s3) := by rw [hwB]; go_simp
  have d22 : wB.cell? ⟨W.heap.size + 2, 2, none⟩ = some (.int .i64 k3) := by rw [hwB]; go_simp
  have hB : Below W.heap.size W wB := by rw [hwB]; exact (((Below.refl _ _).alloc (Nat.le_refl _) _).alloc (by simp) _).alloc (by simp; omega) _
  clear hwB
  refine wp_region_plan [(true, 0), (true, 1), (true, 3), (true, 4), (true, 6), (true, 7), (false, 2), (false, 5), (false, 8), (true, 9), (true, 10), (true, 11)] (by kernel_rfl) (by kernel_rfl) (by kernel_rfl) (by kernel_rfl) (by kernel_rfl) ?_
  simp only [planO, List.drop_succ_cons, List.drop_zero]
  refine PlanO.take (v := ?va0) (by kernel_rfl) ?ya0 ?ra0
  case ya0 => (intro wz hz; have c00 := Ext.at_ hz d00; have c01 := Ext.at_ hz d01; have c02 := Ext.at_ hz d02; go_simp; try with_reducible rfl)
  (try simp only [Act.put, List.setIfInBounds_toArray, List.set_cons_zero, List.set_cons_succ])
  refine PlanO.take (v := ?va1) (by kernel_rfl) ?ya1 ?ra1
  case ya1 => (intro wz hz; have c10 := Ext.at_ hz d10; have c11 := Ext.at_ hz d11; have c12 := Ext.at_ hz d12; go_simp; try with_reducible rfl)
  (try simp only [Act.put, List.setIfInBounds_toArray, List.set_cons_zero, List.set_cons_succ])
  refine PlanO.take (v := ?va3) (by kernel_rfl) ?ya3 ?ra3
  case ya3 => (intro wz hz; have c10 := Ext.at_ hz d10; have c11 := Ext.at_ hz d11; have c12 := Ext.at_ hz d12; go_simp; try with_reducible rfl)
  (try simp only [Act.put, List.setIfInBounds_toArray, List.set_cons_zero, List.set_cons_succ])
  refine PlanO.take (v := ?va4) (by kernel_rfl) ?ya4 ?ra4
  case ya4 => (intro wz hz; have c20 := Ext.at_ hz d20; have c21 := Ext.at_ hz d21; have c22 := Ext.at_ hz d22; go_simp; try with_reducible rfl)
  (try simp only [Act.put, List.setIfInBounds_toArray, List.set_cons_zero, List.set_cons_succ])
  refine PlanO.take (v := ?va6) (by kernel_rfl) ?ya6 ?ra6
  case ya6 => (intro wz hz; have c00 := Ext.at_ hz d00; have c01 := Ext.at_ hz d01; have c02 := Ext.at_ hz d02; go_simp; try with_reducible rfl)
  (try simp only [Act.put, List.setIfInBounds_toArray, List.set_cons_zero, List.set_cons_succ])
  refine PlanO.take (v := ?va7) (by kernel_rfl) ?ya7 ?ra7
  case ya7 => (intro wz hz; have c20 := Ext.at_ hz d20; have c21 := Ext.at_ hz d21; have c22 := Ext.at_ hz d22; go_simp; try with_reducible rfl)
  (try simp only [Act.put, List.setIfInBounds_toArray, List.set_cons_zero, List.set_cons_succ])
  refine PlanO.exec (fun K hK => ?_)
  go_simp
  go_at_call 13
  refine (C1.out _).mono ?_
  rintro e v1 ⟨rfl, hb1⟩
  have hE1 : Ext wB.drew v1 := hb1
  go_wp2_with fail
  refine hK.out _ _ hb1 ?_
  clear hK K
  (try simp only [Act.put, List.setIfInBounds_toArray, List.set_cons_zero, List.set_cons_succ])
  refine PlanO.exec (fun K hK => ?_)
  go_simp
  go_at_call 13
  refine (C2.out _).mono ?_
  rintro e v2 ⟨rfl, hb2⟩
  have hE2 : Ext wB.drew v2 := Ext.trans hE1 hb2
  go_wp2_with fail
  refine hK.out _ _ hb2 ?_
  clear hK K
  (try simp only [Act.put, List.setIfInBounds_toArray, List.set_cons_zero, List.set_cons_succ])
  refine PlanO.exec (fun K hK => ?_)
  go_simp
  go_at_call 13
  refine (C3.out _).mono ?_
  rintro e v3 ⟨rfl, hb3⟩
  have hE3 : Ext wB.drew v3 := Ext.trans hE2 hb3
  go_wp2_with fail
  refine hK.out _ _ hb3 ?_
  clear hK K
  (try simp only [Act.put, List.setIfInBounds_toArray, List.set_cons_zero, List.set_cons_succ])
  refine PlanO.take (v := ?va9) (by kernel_rfl) ?ya9 ?ra9
  case ya9 => (intro wz hz; go_simp; try with_reducible rfl)
  (try simp only [Act.put, List.setIfInBounds_toArray, List.set_cons_zero, List.set_cons_succ])
  refine PlanO.take (v := ?va10) (by kernel_rfl) ?ya10 ?ra10
  case ya10 => (intro wz hz; go_simp; try with_reducible rfl)
  (try simp only [Act.put, List.setIfInBounds_toArray, List.set_cons_zero, List.set_cons_succ])
  refine PlanO.take (v := ?va11) (by kernel_rfl) ?ya11 ?ra11
  case ya11 => (intro wz hz; go_simp; try with_reducible rfl)
  (try simp only [Act.put, List.setIfInBounds_toArray, List.set_cons_zero, List.set_cons_succ])
  refine PlanO.done (NoPanic.normal ?_)
  go_upto_region 4 with (fail)
  have f00 := Ext.at_ (w := wB.drew) hE3 d00
  have f01 := Ext.at_ (w := wB.drew) hE3 d01
  have f02 := Ext.at_ (w := wB.drew) hE3 d02
  have f10 := Ext.at_ (w := wB.drew) hE3 d10
  have f11 := Ext.at_ (w := wB.drew) hE3 d11
  have f12 := Ext.at_ (w := wB.drew) hE3 d12
  have f20 := Ext.at_ (w := wB.drew) hE3 d20
  have f21 := Ext.at_ (w := wB.drew) hE3 d21
  have f22 := Ext.at_ (w := wB.drew) hE3 d22
  clear d00 d01 d02 d10 d11 d12 d20 d21 d22
  refine wp_region_lit ?_
  refine wpList_take (v := ?vb0) (by kernel_rfl) ?yb0 ?rb0
  case yb0 => (go_simp; try with_reducible rfl)
  (try simp only [Act.put, List.setIfInBounds_toArray, List.set_cons_zero, List.set_cons_succ])
  refine wpList_take (v := ?vb1) (by kernel_rfl) ?yb1 ?rb1
  case yb1 => (go_simp; try with_reducible rfl)
  (try simp only [Act.put, List.setIfInBounds_toArray, List.set_cons_zero, List.set_cons_succ])
  refine wpList_exec (fun K hK => ?_)
  go_simp
  go_at_call 13
  refine (C4.out _).mono ?_
  rintro e v4 ⟨rfl, hb4⟩
  replace f00 := Ext.at_ hb4 f00
  replace f01 := Ext.at_ hb4 f01
  replace f02 := Ext.at_ hb4 f02
  replace f10 := Ext.at_ hb4 f10
  replace f11 := Ext.at_ hb4 f11
  replace f12 := Ext.at_ hb4 f12
  replace f20 := Ext.at_ hb4 f20
  replace f21 := Ext.at_ hb4 f21
  replace f22 := Ext.at_ hb4 f22
  go_wp2_with fail
  refine hK.out _ _ ?_
  clear hK K
  (try simp only [Act.put, List.setIfInBounds_toArray, List.set_cons_zero, List.set_cons_succ])
  refine wpList_take (v := ?vb3) (by kernel_rfl) ?yb3 ?rb3
  case yb3 => (go_simp; try with_reducible rfl)
  (try simp only [Act.put, List.setIfInBounds_toArray, List.set_cons_zero, List.set_cons_succ])
  refine wpList_take (v := ?vb4) (by kernel_rfl) ?yb4 ?rb4
  case yb4 => (go_simp; try with_reducible rfl)
  (try simp only [Act.put, List.setIfInBounds_toArray, List.set_cons_zero, List.set_cons_succ])
  refine wpList_take (v := ?vb5) (by kernel_rfl) ?yb5 ?rb5
  case yb5 => (go_simp; try with_reducible rfl)
  (try simp only [Act.put, List.setIfInBounds_toArray, List.set_cons_zero, List.set_cons_succ])
  refine wpList_take (v := ?vb6) (by kernel_rfl) ?yb6 ?rb6
  case yb6 => (go_simp; try with_reducible rfl)
  (try simp only [Act.put, List.setIfInBounds_toArray, List.set_cons_zero, List.set_cons_succ])
  refine wpList_take (v := ?vb7) (by kernel_rfl) ?yb7 ?rb7
  case yb7 => (go_simp; try with_reducible rfl)
  (try simp only [Act.put, List.setIfInBounds_toArray, List.set_cons_zero, List.set_cons_succ])
  refine wpList_take (v := ?vb8) (by kernel_rfl) ?yb8 ?rb8
  case yb8 => (go_simp; try with_reducible rfl)
  (try simp only [Act.put, List.setIfInBounds_toArray, List.set_cons_zero, List.set_cons_succ])
  refine wpList_take (v := ?vb9) (by kernel_rfl) ?yb9 ?rb9
  case yb9 => (go_simp; try with_reducible rfl)
  (try simp only [Act.put, List.setIfInBounds_toArray, List.set_cons_zero, List.set_cons_succ])
  refine wpList_take (v := ?vb10) (by kernel_rfl) ?yb10 ?rb10
  case yb10 => (go_simp; try with_reducible rfl)
  (try simp only [Act.put, List.setIfInBounds_toArray, List.set_cons_zero, List.set_cons_succ])
  refine wpList_take (v := .bool eqab) (by kernel_rfl) ?yb11 ?rb11
  case yb11 => (go_simp; rw [← heq]; exact if_eqs _ _ _ _ _ _ _)
  (try simp only [Act.put, List.setIfInBounds_toArray, List.set_cons_zero, List.set_cons_succ])
  refine wpList_take (v := .bool true) (by kernel_rfl) ?yb12 ?rb12
  case yb12 => (have hg := G0.out; go_simp; try with_reducible rfl)
  (try simp only [Act.put, List.setIfInBounds_toArray, List.set_cons_zero, List.set_cons_succ])
  refine wpList_take (v := ?vb13) (by kernel_rfl) ?yb13 ?rb13
  case yb13 => (go_simp; try with_reducible rfl)
  (try simp only [Act.put, List.setIfInBounds_toArray, List.set_cons_zero, List.set_cons_succ])
  refine wpList_take (v := ?vb14) (by kernel_rfl) ?yb14 ?rb14
  case yb14 => (go_simp; try with_reducible rfl)
  (try simp only [Act.put, List.setIfInBounds_toArray, List.set_cons_zero, List.set_cons_succ])
  refine wpList_take (v := ?vb15) (by kernel_rfl) ?yb15 ?rb15
  case yb15 => (go_simp; try with_reducible rfl)
  (try simp only [Act.put, List.setIfInBounds_toArray, List.set_cons_zero, List.set_cons_succ])
  refine wpList_take (v := .bool px) (by kernel_rfl) ?yb16 ?rb16
  case yb16 => (go_simp; try with_reducible rfl)
  (try simp only [Act.put, List.setIfInBounds_toArray, List.set_cons_zero, List.set_cons_succ])
  refine wpList_take (v := ?vb17) (by kernel_rfl) ?yb17 ?rb17
  case yb17 => (go_simp; try with_reducible rfl)
  (try simp only [Act.put, List.setIfInBounds_toArray, List.set_cons_zero, List.set_cons_succ])
  refine wpList_takeIf (v := .int .i64 y) (!px) ?wb18 ?yb18 ?rb18
  case wb18 => (cases px <;> kernel_rfl)
  case yb18 => (intro hgc; (try simp only [hgc, gv_true]); go_simp; try with_reducible rfl)
  (try simp only [Act.put, List.setIfInBounds_toArray, List.set_cons_zero, List.set_cons_succ])
  refine wpList_takeIf (v := .bool py) (!px) ?wb19 ?yb19 ?rb19
  case wb19 => (cases px <;> kernel_rfl)
  case yb19 => (intro hgc; (try simp only [hgc, gv_true]); go_simp; try with_reducible rfl)
  (try simp only [Act.put, List.setIfInBounds_toArray, List.set_cons_zero, List.set_cons_succ])
  refine wpList_take (v := .bool (px || py)) (by kernel_rfl) ?yb20 ?rb20
  case yb20 => ((cases px <;> (simp only [gv, Bool.not_true, Bool.not_false, Bool.or_true, Bool.or_false, Bool.true_or, Bool.false_or, Bool.or_self, cond_true, cond_false]; go_simp)))
  (try simp only [Act.put, List.setIfInBounds_toArray, List.set_cons_zero, List.set_cons_succ])
  refine wpList_take (v := ?vb21) (by kernel_rfl) ?yb21 ?rb21
  case yb21 => (go_simp; try with_reducible rfl)
  (try simp only [Act.put, List.setIfInBounds_toArray, List.set_cons_zero, List.set_cons_succ])
  refine wpList_takeIf (v := .int .i64 z) (!(px || py)) ?wb22 ?yb22 ?rb22
  case wb22 => (cases px <;> cases py <;> kernel_rfl)
  case yb22 => (intro hgc; (try simp only [hgc, gv_true]); go_simp; try with_reducible rfl)
  (try simp only [Act.put, List.setIfInBounds_toArray, List.set_cons_zero, List.set_cons_succ])
  refine wpList_takeIf (v := .bool qz) (!(px || py)) ?wb23 ?yb23 ?rb23
  case wb23 => (cases px <;> cases py <;> kernel_rfl)
  case yb23 => (intro hgc; (try simp only [hgc, gv_true]); go_simp; try with_reducible rfl)
  (try simp only [Act.put, List.setIfInBounds_toArray, List.set_cons_zero, List.set_cons_succ])
  refine wpList_take (v := .bool (px || py || qz)) (by kernel_rfl) ?yb24 ?rb24
  case yb24 => ((cases px <;> cases py <;> (simp only [gv, Bool.not_true, Bool.not_false, Bool.or_true, Bool.or_false, Bool.true_or, Bool.false_or, Bool.or_self, cond_true, cond_false]; go_simp)))
  (try simp only [Act.put, List.setIfInBounds_toArray, List.set_cons_zero, List.set_cons_succ])
  refine wpList_take (v := .bool true) (by kernel_rfl) ?yb25 ?rb25
  case yb25 => (have hg := G1.out; go_simp; try with_reducible rfl)
  (try simp only [Act.put, List.setIfInBounds_toArray, List.set_cons_zero, List.set_cons_succ])
  refine wpList_take (v := ?vb26) (by kernel_rfl) ?yb26 ?rb26
  case yb26 => (go_simp; try with_reducible rfl)
  (try simp only [Act.put, List.setIfInBounds_toArray, List.set_cons_zero, List.set_cons_succ])
  refine wpList_take (v := ?vb27) (by kernel_rfl) ?yb27 ?rb27
  case yb27 => (go_simp; try with_reducible rfl)
  (try simp only [Act.put, List.setIfInBounds_toArray, List.set_cons_zero, List.set_cons_succ])
  refine wpList_take (v := .bool nx) (by kernel_rfl) ?yb28 ?rb28
  case yb28 => (go_simp; try with_reducible rfl)
  (try simp only [Act.put, List.setIfInBounds_toArray, List.set_cons_zero, List.set_cons_succ])
  refine wpList_take (v := ?vb29) (by kernel_rfl) ?yb29 ?rb29
  case yb29 => (go_simp; try with_reducible rfl)
  (try simp only [Act.put, List.setIfInBounds_toArray, List.set_cons_zero, List.set_cons_succ])
  refine wpList_takeIf (v := .int .i64 y) (!nx) ?wb30 ?yb30 ?rb30
  case wb30 => (cases nx <;> kernel_rfl)
  case yb30 => (intro hgc; (try simp only [hgc, gv_true]); go_simp; try with_reducible rfl)
  (try simp only [Act.put, List.setIfInBounds_toArray, List.set_cons_zero, List.set_cons_succ])
  refine wpList_takeIf (v := .bool ny) (!nx) ?wb31 ?yb31 ?rb31
  case wb31 => (cases nx <;> kernel_rfl)
  case yb31 => (intro hgc; (try simp only [hgc, gv_true]); go_simp; try with_reducible rfl)
  (try simp only [Act.put, List.setIfInBounds_toArray, List.set_cons_zero, List.set_cons_succ])
  refine wpList_take (v := .bool (nx || ny)) (by kernel_rfl) ?yb32 ?rb32
  case yb32 => ((cases nx <;> (simp only [gv, Bool.not_true, Bool.not_false, Bool.or_true, Bool.or_false, Bool.true_or, Bool.false_or, Bool.or_self, cond_true, cond_false]; go_simp)))
  (try simp only [Act.put, List.setIfInBounds_toArray, List.set_cons_zero, List.set_cons_succ])
  refine wpList_take (v := ?vb33) (by kernel_rfl) ?yb33 ?rb33
  case yb33 => (go_simp; try with_reducible rfl)
  (try simp only [Act.put, List.setIfInBounds_toArray, List.set_cons_zero, List.set_cons_succ])
  refine wpList_takeIf (v := .int .i64 z) (!(nx || ny)) ?wb34 ?yb34 ?rb34
  case wb34 => (cases nx <;> cases ny <;> kernel_rfl)
  case yb34 => (intro hgc; (try simp only [hgc, gv_true]); go_simp; try with_reducible rfl)
  (try simp only [Act.put, List.setIfInBounds_toArray, List.set_cons_zero, List.set_cons_succ])
  refine wpList_takeIf (v := .bool rz) (!(nx || ny)) ?wb35 ?yb35 ?rb35
  case wb35 => (cases nx <;> cases ny <;> kernel_rfl)
  case yb35 => (intro hgc; (try simp only [hgc, gv_true]); go_simp; try with_reducible rfl)
  (try simp only [Act.put, List.setIfInBounds_toArray, List.set_cons_zero, List.set_cons_succ])
  refine wpList_take (v := .bool (nx || ny || rz)) (by kernel_rfl) ?yb36 ?rb36
  case yb36 => ((cases nx <;> cases ny <;> (simp only [gv, Bool.not_true, Bool.not_false, Bool.or_true, Bool.or_false, Bool.true_or, Bool.false_or, Bool.or_self, cond_true, cond_false]; go_simp)))
  (try simp only [Act.put, List.setIfInBounds_toArray, List.set_cons_zero, List.set_cons_succ])
  refine wpList_take (v := .bool true) (by kernel_rfl) ?yb37 ?rb37
  case yb37 => (have hg := G2.out; go_simp; try with_reducible rfl)
  (try simp only [Act.put, List.setIfInBounds_toArray, List.set_cons_zero, List.set_cons_succ])
  refine wpList_take (v := ?vb38) (by kernel_rfl) ?yb38 ?rb38
  case yb38 => (go_simp; try with_reducible rfl)
  (try simp only [Act.put, List.setIfInBounds_toArray, List.set_cons_zero, List.set_cons_succ])
  refine wpList_take (v := ?vb39) (by kernel_rfl) ?yb39 ?rb39
  case yb39 => (go_simp; try with_reducible rfl)
  (try simp only [Act.put, List.setIfInBounds_toArray, List.set_cons_zero, List.set_cons_succ])
  refine wpList_take (v := ?vb40) (by kernel_rfl) ?yb40 ?rb40
  case yb40 => (go_simp; try with_reducible rfl)
  (try simp only [Act.put, List.setIfInBounds_toArray, List.set_cons_zero, List.set_cons_succ])
  refine wpList_take (v := ?vb41) (by kernel_rfl) ?yb41 ?rb41
  case yb41 => (go_simp; try with_reducible rfl)
  (try simp only [Act.put, List.setIfInBounds_toArray, List.set_cons_zero, List.set_cons_succ])
  refine wpList_take (v := ?vb42) (by kernel_rfl) ?yb42 ?rb42
  case yb42 => (go_simp; try with_reducible rfl)
  (try simp only [Act.put, List.setIfInBounds_toArray, List.set_cons_zero, List.set_cons_succ])
  refine wpList_take (v := .bool ge) (by kernel_rfl) ?yb43 ?rb43
  case yb43 => (go_simp; try with_reducible rfl)
  (try simp only [Act.put, List.setIfInBounds_toArray, List.set_cons_zero, List.set_cons_succ])
  refine wpList_take (v := ?vb44) (by kernel_rfl) ?yb44 ?rb44
  case yb44 => (go_simp; try with_reducible rfl)
  (try simp only [Act.put, List.setIfInBounds_toArray, List.set_cons_zero, List.set_cons_succ])
  refine wpList_takeIf (v := .int .i64 x) (!ge) ?wb45 ?yb45 ?rb45
  case wb45 => (cases ge <;> kernel_rfl)
  case yb45 => (intro hgc; (try simp only [hgc, gv_true]); go_simp; try with_reducible rfl)
  (try simp only [Act.put, List.setIfInBounds_toArray, List.set_cons_zero, List.set_cons_succ])
  refine wpList_takeIf (v := .bool xm) (!ge) ?wb46 ?yb46 ?rb46
  case wb46 => (cases ge <;> kernel_rfl)
  case yb46 => (intro hgc; (try simp only [hgc, gv_true]); go_simp; try with_reducible rfl)
  (try simp only [Act.put, List.setIfInBounds_toArray, List.set_cons_zero, List.set_cons_succ])
  refine wpList_take (v := .bool (ge || xm)) (by kernel_rfl) ?yb47 ?rb47
  case yb47 => ((cases ge <;> (simp only [gv, Bool.not_true, Bool.not_false, Bool.or_true, Bool.or_false, Bool.true_or, Bool.false_or, Bool.or_self, cond_true, cond_false]; go_simp)))
  (try simp only [Act.put, List.setIfInBounds_toArray, List.set_cons_zero, List.set_cons_succ])
  refine wpList_take (v := .bool true) (by kernel_rfl) ?yb48 ?rb48
  case yb48 => (have hg := G3.out; go_simp; try with_reducible rfl)
  (try simp only [Act.put, List.setIfInBounds_toArray, List.set_cons_zero, List.set_cons_succ])
  refine wpList_take (v := ?vb49) (by kernel_rfl) ?yb49 ?rb49
  case yb49 => (go_simp; try with_reducible rfl)
  (try simp only [Act.put, List.setIfInBounds_toArray, List.set_cons_zero, List.set_cons_succ])
  refine wpList_take (v := ?vb50) (by kernel_rfl) ?yb50 ?rb50
  case yb50 => (go_simp; try with_reducible rfl)
  (try simp only [Act.put, List.setIfInBounds_toArray, List.set_cons_zero, List.set_cons_succ])
  refine wpList_take (v := ?vb51) (by kernel_rfl) ?yb51 ?rb51
  case yb51 => (go_simp; try with_reducible rfl)
  (try simp only [Act.put, List.setIfInBounds_toArray, List.set_cons_zero, List.set_cons_succ])
  refine wpList_take (v := ?vb52) (by kernel_rfl) ?yb52 ?rb52
  case yb52 => (go_simp; try with_reducible rfl)
  (try simp only [Act.put, List.setIfInBounds_toArray, List.set_cons_zero, List.set_cons_succ])
  refine wpList_take (v := ?vb53) (by kernel_rfl) ?yb53 ?rb53
  case yb53 => (go_simp; try with_reducible rfl)
  (try simp only [Act.put, List.setIfInBounds_toArray, List.set_cons_zero, List.set_cons_succ])
  refine wpList_take (v := .bool ne) (by kernel_rfl) ?yb54 ?rb54
  case yb54 => (go_simp; try with_reducible rfl)
  (try simp only [Act.put, List.setIfInBounds_toArray, List.set_cons_zero, List.set_cons_succ])
  refine wpList_take (v := ?vb55) (by kernel_rfl) ?yb55 ?rb55
  case yb55 => (go_simp; try with_reducible rfl)
  (try simp only [Act.put, List.setIfInBounds_toArray, List.set_cons_zero, List.set_cons_succ])
  refine wpList_takeIf (v := .pointer (some ⟨W.heap.size, 1, none⟩)) (!ne) ?wb56 ?yb56 ?rb56
  case wb56 => (cases ne <;> kernel_rfl)
  case yb56 => (intro hgc; (try simp only [hgc, gv_true]); go_simp; try with_reducible rfl)
  (try simp only [Act.put, List.setIfInBounds_toArray, List.set_cons_zero, List.set_cons_succ])
  refine wpList_takeIf (v := .int .i64 s1) (!ne) ?wb57 ?yb57 ?rb57
  case wb57 => (cases ne <;> kernel_rfl)
  case yb57 => (intro hgc; (try simp only [hgc, gv_true]); go_simp; try with_reducible rfl)
  (try simp only [Act.put, List.setIfInBounds_toArray, List.set_cons_zero, List.set_cons_succ])
  refine wpList_takeIf (v := .pointer (some ⟨W.heap.size + 1, 1, none⟩)) (!ne) ?wb58 ?yb58 ?rb58
  case wb58 => (cases ne <;> kernel_rfl)
  case yb58 => (intro hgc; (try simp only [hgc, gv_true]); go_simp; try with_reducible rfl)
  (try simp only [Act.put, List.setIfInBounds_toArray, List.set_cons_zero, List.set_cons_succ])
  refine wpList_takeIf (v := .int .i64 s2) (!ne) ?wb59 ?yb59 ?rb59
  case wb59 => (cases ne <;> kernel_rfl)
  case yb59 => (intro hgc; (try simp only [hgc, gv_true]); go_simp; try with_reducible rfl)
  (try simp only [Act.put, List.setIfInBounds_toArray, List.set_cons_zero, List.set_cons_succ])
  refine wpList_takeIf (v := .bool le) (!ne) ?wb60 ?yb60 ?rb60
  case wb60 => (cases ne <;> kernel_rfl)
  case yb60 => (intro hgc; (try simp only [hgc, gv_true]); go_simp; try with_reducible rfl)
  (try simp only [Act.put, List.setIfInBounds_toArray, List.set_cons_zero, List.set_cons_succ])
  refine wpList_take (v := .bool (ne || le)) (by kernel_rfl) ?yb61 ?rb61
  case yb61 => ((cases ne <;> (simp only [gv, Bool.not_true, Bool.not_false, Bool.or_true, Bool.or_false, Bool.true_or, Bool.false_or, Bool.or_self, cond_true, cond_false]; go_simp)))
  (try simp only [Act.put, List.setIfInBounds_toArray, List.set_cons_zero, List.set_cons_succ])
  refine wpList_take (v := ?vb62) (by kernel_rfl) ?yb62 ?rb62
  case yb62 => (go_simp; try with_reducible rfl)
  (try simp only [Act.put, List.setIfInBounds_toArray, List.set_cons_zero, List.set_cons_succ])
  refine wpList_takeIf (v := .int .i64 x) (!(ne || le)) ?wb63 ?yb63 ?rb63
  case wb63 => (cases ne <;> cases le <;> kernel_rfl)
  case yb63 => (intro hgc; (try simp only [hgc, gv_true]); go_simp; try with_reducible rfl)
  (try simp only [Act.put, List.setIfInBounds_toArray, List.set_cons_zero, List.set_cons_succ])
  refine wpList_takeIf (v := .bool xm) (!(ne || le)) ?wb64 ?yb64 ?rb64
  case wb64 => (cases ne <;> cases le <;> kernel_rfl)
  case yb64 => (intro hgc; (try simp only [hgc, gv_true]); go_simp; try with_reducible rfl)
  (try simp only [Act.put, List.setIfInBounds_toArray, List.set_cons_zero, List.set_cons_succ])
  refine wpList_take (v := .bool (ne || le || xm)) (by kernel_rfl) ?yb65 ?rb65
  case yb65 => ((cases ne <;> cases le <;> (simp only [gv, Bool.not_true, Bool.not_false, Bool.or_true, Bool.or_false, Bool.true_or, Bool.false_or, Bool.or_self, cond_true, cond_false]; go_simp)))
  (try simp only [Act.put, List.setIfInBounds_toArray, List.set_cons_zero, List.set_cons_succ])
  refine wpList_take (v := .bool true) (by kernel_rfl) ?yb66 ?rb66
  case yb66 => (have hg := G4.out; go_simp; try with_reducible rfl)
  (try simp only [Act.put, List.setIfInBounds_toArray, List.set_cons_zero, List.set_cons_succ])
  refine wpList_take (v := ?vb67) (by kernel_rfl) ?yb67 ?rb67
  case yb67 => (go_simp; try with_reducible rfl)
  (try simp only [Act.put, List.setIfInBounds_toArray, List.set_cons_zero, List.set_cons_succ])
  refine wpList_exec (fun K hK => ?_)
  go_simp
  go_at_call 6
  refine (awake2_any _).mono ?_
  rintro e v5 ⟨rfl, hb5⟩
  go_wp2_with fail
  refine hK.out _ _ ?_
  clear hK K
  (try simp only [Act.put, List.setIfInBounds_toArray, List.set_cons_zero, List.set_cons_succ])
  refine wpList_take (v := ?vb69) (by kernel_rfl) ?yb69 ?rb69
  case yb69 => (go_simp; try with_reducible rfl)
  (try simp only [Act.put, List.setIfInBounds_toArray, List.set_cons_zero, List.set_cons_succ])
  refine wpList_take (v := ?vb70) (by kernel_rfl) ?yb70 ?rb70
  case yb70 => (go_simp; try with_reducible rfl)
  (try simp only [Act.put, List.setIfInBounds_toArray, List.set_cons_zero, List.set_cons_succ])
  refine wpList_nil ?_
  go_wp2
  go_ret
  exact ⟨rfl, ((hB.trans ((below_draw hE3).mono hB.size)).trans (hb4.mono (Nat.le_trans hB.size (below_draw hE3).size))).trans (hb5.mono (Nat.le_trans (Nat.le_trans hB.size (below_draw hE3).size) hb4.size))⟩

set_option maxRecDepth 100000 in
theorem keyOrder_walk (u1 : ByteArray) (s1 k1 : Int) (u2 : ByteArray) (s2 k2 : Int) (u3 : ByteArray) (s3 k3 : Int) (W : World)
    (_hu1 : u1.size ≤ maxLen) (_ : (Lit.int .i64 s1).wf = true) (_ : (Lit.int .i64 k1).wf = true) (_hu2 : u2.size ≤ maxLen) (_ : (Lit.int .i64 s2).wf = true) (_ : (Lit.int .i64 k2).wf = true) (_hu3 : u3.size ≤ maxLen) (_ : (Lit.int .i64 s3).wf = true) (_ : (Lit.int .i64 k3).wf = true) :
    Calls Try.prog 4 #[keyV u1 s1 k1, keyV u2 s2 k2, keyV u3 s3 k3] W fun e w' => e = .returned (.bool true) ∧ Below W.heap.size W w' := by
  by_cases g1 : (500 : Int) < (u1.size : Int)
  · go_enter Try.func4, Try.ntmps4
    go_wp2_with fail
    refine (awake2_any _).mono ?_
    rintro e w2 ⟨rfl, hb2⟩
    go_wp2
    go_ret
    exact ⟨rfl, ((((Below.refl _ _).alloc (Nat.le_refl _) _).alloc (by simp) _).alloc (by simp; omega) _).trans (hb2.mono (by simp; omega))⟩
  by_cases g2 : (500 : Int) < (u2.size : Int)
  · go_enter Try.func4, Try.ntmps4
    go_wp2_with fail
    refine (awake2_any _).mono ?_
    rintro e w2 ⟨rfl, hb2⟩
    go_wp2
    go_ret
    exact ⟨rfl, ((((Below.refl _ _).alloc (Nat.le_refl _) _).alloc (by simp) _).alloc (by simp; omega) _).trans (hb2.mono (by simp; omega))⟩
  by_cases g3 : (500 : Int) < (u3.size : Int)
  · go_enter Try.func4, Try.ntmps4
    go_wp2_with fail
    refine (awake2_any _).mono ?_
    rintro e w2 ⟨rfl, hb2⟩
    go_wp2
    go_ret
    exact ⟨rfl, ((((Below.refl _ _).alloc (Nat.le_refl _) _).alloc (by simp) _).alloc (by simp; omega) _).trans (hb2.mono (by simp; omega))⟩
  exact keyOrder_near u1 s1 k1 u2 s2 k2 u3 s3 k3 W g1 g2 g3
end Go.Proofs.Ytmeddhjhdjgagaa
