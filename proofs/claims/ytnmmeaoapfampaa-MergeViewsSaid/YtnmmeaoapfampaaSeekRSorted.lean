/-
  Entries in order, each key once, as the document sorts them.
-/
import Derived.Test.YtnmmeaoapfampaaSeekMath
import Derived.Test.YtnmmeaoapfampaaMemRAdd
import Derived.Test.YtnmmeaoapfampaaRegion
import Derived.Deep.Cut
namespace Go.Proofs.Ytnmmeaoapfampaa
open Go.RowKit

theorem sorted_done {w' : World} {B B' : Nat} {v : Value} {X : Ent} {O : List Ent} {k : Nat} (hk : k ≤ O.length) (hi : sIns X O = O.take k ++ [X] ++ O.drop k) (hB : B' ≤ B) (ho : w'.ownsRow B 38 4 v (k + 1 + (O.length - k)) ((O.take k).flatMap Ent.cells ++ (X.cells ++ (O.drop k).flatMap Ent.cells))) : OwnE w' B' v (sIns X O) := by
  unfold OwnE
  have hl : (sIns X O).length = k + 1 + (O.length - k) := by rw [hi]; simp; omega
  have hc : (sIns X O).flatMap Ent.cells = (O.take k).flatMap Ent.cells ++ (X.cells ++ (O.drop k).flatMap Ent.cells) := by rw [hi, List.flatMap_append, List.flatMap_append]; simp
  rw [hl, hc]
  exact own_base ho fun j hj => Nat.le_trans hB (World.ownsRow.lt ho j hj).1

theorem sins_new {e : Ent} {L : List Ent} {k : Nat} (hk : k ≤ L.length) (h1 : ∀ j, j < k → (L.getD j Ent.none_).cmp e < 0) (h2 : k < L.length → ¬ (L.getD k Ent.none_).cmp e < 0 ∧ (L.getD k Ent.none_).cmp e ≠ 0) : sIns e L = L.take k ++ [e] ++ L.drop k := by
  obtain ⟨c1, c2⟩ := cutE hk h1 fun h => (h2 h).1
  have hin : isIn e L = false := by
    unfold isIn
    rw [c2]
    split
    · rfl
    · rename_i x r hx
      have hlt : k < L.length := by
        rcases Nat.lt_or_ge k L.length with h | h
        · exact h
        · rw [List.drop_of_length_le h] at hx; cases hx
      have hx2 : L.getD k Ent.none_ = x := by
        rw [List.drop_eq_getElem_cons hlt] at hx
        simp only [List.getD, List.getElem?_eq_getElem hlt, Option.getD_some]
        injection hx
      have := (h2 hlt).2
      rw [hx2] at this
      simpa using this
  unfold sIns insE
  rw [hin, c1, c2]
  simp
theorem sins_old {e : Ent} {L : List Ent} {k : Nat} (hk : k < L.length) (h1 : ∀ j, j < k → (L.getD j Ent.none_).cmp e < 0) (h2 : (L.getD k Ent.none_).cmp e = 0) : sIns e L = L := by
  obtain ⟨c1, c2⟩ := cutE (Nat.le_of_lt hk) h1 fun _ => by omega
  have hin : isIn e L = true := by
    unfold isIn
    rw [c2, List.drop_eq_getElem_cons hk]
    have : L.getD k Ent.none_ = L[k] := by simp [List.getD, hk]
    rw [this] at h2
    simpa using h2
  unfold sIns
  rw [hin]; rfl

set_option maxRecDepth 100000 in
set_option maxHeartbeats 1000000 in
theorem rsorted_any (v : Value) (es : List Ent) (w : World) (hv : RdE w v es) (hl : es.length ≤ 100000) :
    Calls Try.prog 23 #[v] w fun e w' => ∃ x, e = .returned x ∧ OwnE w' w.heap.size x (sortE es) ∧ Below w.heap.size w w' := by
  have HV := Lib.hid hv
  obtain ⟨va, vc, rfl, hc1, hc2⟩ := hv.form
  unfold maxLen at hc2
  clear hv
  go_enter Try.func23, Try.ntmps23
  go_wp2
  go_loopw [3, 4] (fun o x wr => ∃ i : Nat, i ≤ es.length ∧ x = .int .i64 (i : Int) ∧ Hid (OwnE wr w.heap.size o (sortE (es.take i))) ∧ Hid (Below w.heap.size w wr)) (fun _ x _ => es.length - (intOf x).toNat)
  case atStart => exact ⟨0, Nat.zero_le _, rfl, Lib.hid (World.ownsRow_nil _ _ _ _), Lib.hid (Below.refl _ _)⟩
  case round =>
    obtain ⟨i, hi, rfl, HO, HB⟩ := hrel
    obtain ⟨wa, hwa⟩ : ∃ wa, wa = wr := ⟨_, rfl⟩
    subst hwa
    by_cases hlti : i < es.length
    · obtain ⟨_, _, hva, hone⟩ := HV.out.one
      cases hva
      obtain ⟨eb, eo, rfl, heb, c0, c1, c2, c3, hXf⟩ := hone i hlti
      have hli : (i : Int) < (es.length : Int) := by omega
      have HST := Lib.hid (sort_take hlti)
      have hol := sort_len (es.take i)
      rw [List.length_take] at hol
      generalize sortE (es.take i) = O at *
      obtain ⟨X, hX⟩ : ∃ X, es.getD i Ent.none_ = X := ⟨_, rfl⟩
      rw [hX] at c0 c1 c2 c3 hXf HST
      have HEC : Hid (∀ wz, Below wa.heap.size wa wz → wz.cell? ⟨eb, eo + i * 4, none⟩ = some (.string X.u) ∧ wz.cell? ⟨eb, eo + i * 4 + 1, none⟩ = some (.int .i64 X.s) ∧ wz.cell? ⟨eb, eo + i * 4 + 2, none⟩ = some (.int .i64 X.k) ∧ wz.cell? ⟨eb, eo + i * 4 + 3, none⟩ = some (.string X.v)) := Lib.hid fun wz hz => by
        have hb := HB.out.trans (hz.mono HB.out.size)
        exact ⟨(hb.cell (p := ⟨eb, eo + i * 4, none⟩) heb).trans c0, (hb.cell (p := ⟨eb, eo + i * 4 + 1, none⟩) heb).trans c1, (hb.cell (p := ⟨eb, eo + i * 4 + 2, none⟩) heb).trans c2, (hb.cell (p := ⟨eb, eo + i * 4 + 3, none⟩) heb).trans c3⟩
      clear hX hone c0 c1 c2 c3 heb
      obtain ⟨oa, oc, hoa, ho1, ho2⟩ := HO.out.form
      subst hoa
      unfold maxLen at ho2
      go_wp2
      go_loopw [5] (fun y wr => ∃ k : Nat, k ≤ O.length ∧ y = .int .i64 (k : Int) ∧ Hid (∀ j, j < k → (O.getD j Ent.none_).cmp X < 0) ∧ Hid (Below wa.heap.size wa wr)) (fun y _ => O.length - (intOf y).toNat)
      case atStart => exact ⟨0, Nat.zero_le _, rfl, Lib.hid (fun j h => by omega), Lib.hid (Below.refl _ _)⟩
      case round =>
        obtain ⟨k, hk, rfl, HK, HBZ⟩ := hrel
        by_cases hlt : k < O.length
        · obtain ⟨xg, hva, hxg, x0, x1, x2, _⟩ := own_ent (own_base (HO.out.below HBZ.out) fun _ _ => Nat.zero_le _ : OwnE wr 0 (.slice oa O.length oc) O) hlt
          subst hva
          obtain ⟨e0, e1, e2, _⟩ := HEC.out wr HBZ.out
          have hC := rcmp_any (O.getD k Ent.none_).u (O.getD k Ent.none_).s (O.getD k Ent.none_).k X.u X.s X.k
          have hcc : cmpK (O.getD k Ent.none_).u.data.toList (O.getD k Ent.none_).s (O.getD k Ent.none_).k X.u.data.toList X.s X.k = (O.getD k Ent.none_).cmp X := rfl
          rw [hcc] at hC
          have HZ := Lib.hid (cmp_zero (O.getD k Ent.none_) X)
          have HMORE := Lib.hid (@ent_more O X k HK.out)
          have HNEW := Lib.hid (fun h1 h2 => @sins_new X O k hk HK.out (fun _ => ⟨h1, h2⟩))
          have HOLD := Lib.hid (@sins_old X O k hlt HK.out)
          have hltz : (k : Int) < (O.length : Int) := by omega
          generalize (O.getD k Ent.none_).cmp X = c at *
          generalize O.getD k Ent.none_ = Y at *
          obtain ⟨yu, ys, yk, yv⟩ := Y
          simp only at x0 x1 x2 hC HZ
          have HC := Lib.hid hC
          clear hC hcc
          by_cases hneg : c < 0
          · have HN := Lib.hid (HMORE.out hneg)
            clear HMORE HNEW HOLD HZ
            go_upto_region 6 with (fail)
            refine wp_region_plan [(true, 0), (true, 1), (true, 2), (true, 3), (true, 4), (true, 5), (true, 6), (true, 7), (true, 8), (true, 9), (true, 10), (true, 11), (true, 12), (true, 13), (true, 14), (false, 15), (true, 16), (true, 17)] (by kernel_rfl) (by kernel_rfl) (by kernel_rfl) (by kernel_rfl) (by kernel_rfl) ?_
            simp only [planO, List.drop_succ_cons, List.drop_zero]
            refine PlanO.take (v := ?va0) (by kernel_rfl) ?ya0 ?ra0
            case ya0 => (intro wz hz; go_simp; try with_reducible rfl)
            (try simp only [Act.put, List.setIfInBounds_toArray, List.set_cons_zero, List.set_cons_succ])
            refine PlanO.take (v := ?va1) (by kernel_rfl) ?ya1 ?ra1
            case ya1 => (intro wz hz; go_simp; try with_reducible rfl)
            (try simp only [Act.put, List.setIfInBounds_toArray, List.set_cons_zero, List.set_cons_succ])
            refine PlanO.take (v := ?va2) (by kernel_rfl) ?ya2 ?ra2
            case ya2 => (intro wz hz; go_simp; try with_reducible rfl)
            (try simp only [Act.put, List.setIfInBounds_toArray, List.set_cons_zero, List.set_cons_succ])
            refine PlanO.take (v := .bool true) (by kernel_rfl) ?ya3 ?ra3
            case ya3 => (intro wz hz; go_simp; try simp [hlt])
            (try simp only [Act.put, List.setIfInBounds_toArray, List.set_cons_zero, List.set_cons_succ])
            refine PlanO.take (v := .bool true) (by kernel_rfl) ?ya4 ?ra4
            case ya4 => (intro wz hz; go_simp; try simp [hlt])
            (try simp only [Act.put, List.setIfInBounds_toArray, List.set_cons_zero, List.set_cons_succ])
            refine PlanO.take (v := ?va5) (by kernel_rfl) ?ya5 ?ra5
            case ya5 => (intro wz hz; go_simp; try with_reducible rfl)
            (try simp only [Act.put, List.setIfInBounds_toArray, List.set_cons_zero, List.set_cons_succ])
            refine PlanO.take (v := ?va6) (by kernel_rfl) ?ya6 ?ra6
            case ya6 => (intro wz hz; go_simp; try with_reducible rfl)
            (try simp only [Act.put, List.setIfInBounds_toArray, List.set_cons_zero, List.set_cons_succ])
            refine PlanO.take (v := ?va7) (by kernel_rfl) ?ya7 ?ra7
            case ya7 => (intro wz hz; go_simp; try with_reducible rfl)
            (try simp only [Act.put, List.setIfInBounds_toArray, List.set_cons_zero, List.set_cons_succ])
            refine PlanO.take (v := ?va8) (by kernel_rfl) ?ya8 ?ra8
            case ya8 => (intro wz hz; go_simp; try with_reducible rfl)
            (try simp only [Act.put, List.setIfInBounds_toArray, List.set_cons_zero, List.set_cons_succ])
            refine PlanO.take (v := ?va9) (by kernel_rfl) ?ya9 ?ra9
            case ya9 => (intro wz hz; have d0 := Ext.at_ hz x0; have d1 := Ext.at_ hz x1; have d2 := Ext.at_ hz x2; go_simp; try with_reducible rfl)
            (try simp only [Act.put, List.setIfInBounds_toArray, List.set_cons_zero, List.set_cons_succ])
            refine PlanO.take (v := ?va10) (by kernel_rfl) ?ya10 ?ra10
            case ya10 => (intro wz hz; go_simp; try with_reducible rfl)
            (try simp only [Act.put, List.setIfInBounds_toArray, List.set_cons_zero, List.set_cons_succ])
            refine PlanO.take (v := ?va11) (by kernel_rfl) ?ya11 ?ra11
            case ya11 => (intro wz hz; go_simp; try with_reducible rfl)
            (try simp only [Act.put, List.setIfInBounds_toArray, List.set_cons_zero, List.set_cons_succ])
            refine PlanO.take (v := ?va12) (by kernel_rfl) ?ya12 ?ra12
            case ya12 => (intro wz hz; go_simp; try with_reducible rfl)
            (try simp only [Act.put, List.setIfInBounds_toArray, List.set_cons_zero, List.set_cons_succ])
            refine PlanO.take (v := ?va13) (by kernel_rfl) ?ya13 ?ra13
            case ya13 => (intro wz hz; go_simp; try with_reducible rfl)
            (try simp only [Act.put, List.setIfInBounds_toArray, List.set_cons_zero, List.set_cons_succ])
            refine PlanO.take (v := ?va14) (by kernel_rfl) ?ya14 ?ra14
            case ya14 => (intro wz hz; have c0 := Ext.at_ hz e0; have c1 := Ext.at_ hz e1; have c2 := Ext.at_ hz e2; go_simp; try with_reducible rfl)
            (try simp only [Act.put, List.setIfInBounds_toArray, List.set_cons_zero, List.set_cons_succ])
            refine PlanO.exec (fun K hK => ?_)
            go_simp
            go_at_call 24
            refine (HC.out _).mono ?_
            rintro r u1 ⟨rfl, hb3⟩
            have hE1 : Ext wr.drew u1 := hb3
            go_wp2_with fail
            refine hK.out _ _ hb3 ?_
            clear hK K
            (try simp only [Act.put, List.setIfInBounds_toArray, List.set_cons_zero, List.set_cons_succ])
            refine PlanO.take (v := .bool true) (by kernel_rfl) ?ya16 ?ra16
            case ya16 => (intro wz hz; go_simp; try simp; try omega)
            (try simp only [Act.put, List.setIfInBounds_toArray, List.set_cons_zero, List.set_cons_succ])
            refine PlanO.take (v := .bool true) (by kernel_rfl) ?ya17 ?ra17
            case ya17 => (intro wz hz; go_simp; try with_reducible rfl)
            (try simp only [Act.put, List.setIfInBounds_toArray, List.set_cons_zero, List.set_cons_succ])
            refine PlanO.done (NoPanic.normal ?_)
            have HBU := Lib.hid (HBZ.out.drew.trans (hb3.mono HBZ.out.drew.size))
            clear hb3
            go_wp2
            exact ⟨⟨k + 1, hlt, by go_num, HN, HBU⟩, by simp [intOf]; omega⟩
          · have hneg' : 0 ≤ c := by omega
            by_cases heq : c = 0
            · obtain ⟨y1, y2, y3⟩ := HZ.out.1 heq
              have y1 : yu = X.u := y1
              have y2 : ys = X.s := y2
              have y3 : yk = X.k := y3
              subst yu ys yk
              have HN := Lib.hid (HOLD.out heq)
              clear HMORE HNEW HOLD HZ
              go_upto_region 6 with (fail)
              refine wp_region_plan [(true, 0), (true, 1), (true, 2), (true, 3), (true, 4), (true, 5), (true, 6), (true, 7), (true, 8), (true, 9), (true, 10), (true, 11), (true, 12), (true, 13), (true, 14), (false, 15), (true, 16), (true, 17)] (by kernel_rfl) (by kernel_rfl) (by kernel_rfl) (by kernel_rfl) (by kernel_rfl) ?_
              simp only [planO, List.drop_succ_cons, List.drop_zero]
              refine PlanO.take (v := ?vb0) (by kernel_rfl) ?yb0 ?rb0
              case yb0 => (intro wz hz; go_simp; try with_reducible rfl)
              (try simp only [Act.put, List.setIfInBounds_toArray, List.set_cons_zero, List.set_cons_succ])
              refine PlanO.take (v := ?vb1) (by kernel_rfl) ?yb1 ?rb1
              case yb1 => (intro wz hz; go_simp; try with_reducible rfl)
              (try simp only [Act.put, List.setIfInBounds_toArray, List.set_cons_zero, List.set_cons_succ])
              refine PlanO.take (v := ?vb2) (by kernel_rfl) ?yb2 ?rb2
              case yb2 => (intro wz hz; go_simp; try with_reducible rfl)
              (try simp only [Act.put, List.setIfInBounds_toArray, List.set_cons_zero, List.set_cons_succ])
              refine PlanO.take (v := .bool true) (by kernel_rfl) ?yb3 ?rb3
              case yb3 => (intro wz hz; go_simp; try simp [hlt])
              (try simp only [Act.put, List.setIfInBounds_toArray, List.set_cons_zero, List.set_cons_succ])
              refine PlanO.take (v := .bool true) (by kernel_rfl) ?yb4 ?rb4
              case yb4 => (intro wz hz; go_simp; try simp [hlt])
              (try simp only [Act.put, List.setIfInBounds_toArray, List.set_cons_zero, List.set_cons_succ])
              refine PlanO.take (v := ?vb5) (by kernel_rfl) ?yb5 ?rb5
              case yb5 => (intro wz hz; go_simp; try with_reducible rfl)
              (try simp only [Act.put, List.setIfInBounds_toArray, List.set_cons_zero, List.set_cons_succ])
              refine PlanO.take (v := ?vb6) (by kernel_rfl) ?yb6 ?rb6
              case yb6 => (intro wz hz; go_simp; try with_reducible rfl)
              (try simp only [Act.put, List.setIfInBounds_toArray, List.set_cons_zero, List.set_cons_succ])
              refine PlanO.take (v := ?vb7) (by kernel_rfl) ?yb7 ?rb7
              case yb7 => (intro wz hz; go_simp; try with_reducible rfl)
              (try simp only [Act.put, List.setIfInBounds_toArray, List.set_cons_zero, List.set_cons_succ])
              refine PlanO.take (v := ?vb8) (by kernel_rfl) ?yb8 ?rb8
              case yb8 => (intro wz hz; go_simp; try with_reducible rfl)
              (try simp only [Act.put, List.setIfInBounds_toArray, List.set_cons_zero, List.set_cons_succ])
              refine PlanO.take (v := ?vb9) (by kernel_rfl) ?yb9 ?rb9
              case yb9 => (intro wz hz; have d0 := Ext.at_ hz x0; have d1 := Ext.at_ hz x1; have d2 := Ext.at_ hz x2; go_simp; try with_reducible rfl)
              (try simp only [Act.put, List.setIfInBounds_toArray, List.set_cons_zero, List.set_cons_succ])
              refine PlanO.take (v := ?vb10) (by kernel_rfl) ?yb10 ?rb10
              case yb10 => (intro wz hz; go_simp; try with_reducible rfl)
              (try simp only [Act.put, List.setIfInBounds_toArray, List.set_cons_zero, List.set_cons_succ])
              refine PlanO.take (v := ?vb11) (by kernel_rfl) ?yb11 ?rb11
              case yb11 => (intro wz hz; go_simp; try with_reducible rfl)
              (try simp only [Act.put, List.setIfInBounds_toArray, List.set_cons_zero, List.set_cons_succ])
              refine PlanO.take (v := ?vb12) (by kernel_rfl) ?yb12 ?rb12
              case yb12 => (intro wz hz; go_simp; try with_reducible rfl)
              (try simp only [Act.put, List.setIfInBounds_toArray, List.set_cons_zero, List.set_cons_succ])
              refine PlanO.take (v := ?vb13) (by kernel_rfl) ?yb13 ?rb13
              case yb13 => (intro wz hz; go_simp; try with_reducible rfl)
              (try simp only [Act.put, List.setIfInBounds_toArray, List.set_cons_zero, List.set_cons_succ])
              refine PlanO.take (v := ?vb14) (by kernel_rfl) ?yb14 ?rb14
              case yb14 => (intro wz hz; have c0 := Ext.at_ hz e0; have c1 := Ext.at_ hz e1; have c2 := Ext.at_ hz e2; go_simp; try with_reducible rfl)
              (try simp only [Act.put, List.setIfInBounds_toArray, List.set_cons_zero, List.set_cons_succ])
              refine PlanO.exec (fun K hK => ?_)
              go_simp
              go_at_call 24
              refine (HC.out _).mono ?_
              rintro r u1 ⟨rfl, hb3⟩
              have hE1 : Ext wr.drew u1 := hb3
              go_wp2_with fail
              refine hK.out _ _ hb3 ?_
              clear hK K
              (try simp only [Act.put, List.setIfInBounds_toArray, List.set_cons_zero, List.set_cons_succ])
              refine PlanO.take (v := .bool false) (by kernel_rfl) ?yb16 ?rb16
              case yb16 => (intro wz hz; go_simp; try simp; try omega)
              (try simp only [Act.put, List.setIfInBounds_toArray, List.set_cons_zero, List.set_cons_succ])
              refine PlanO.take (v := .bool false) (by kernel_rfl) ?yb17 ?rb17
              case yb17 => (intro wz hz; go_simp; try with_reducible rfl)
              (try simp only [Act.put, List.setIfInBounds_toArray, List.set_cons_zero, List.set_cons_succ])
              refine PlanO.done (NoPanic.normal ?_)
              have HBU := Lib.hid (HBZ.out.drew.trans (hb3.mono HBZ.out.drew.size))
              replace x0 := (hb3.cell (p := ⟨xg, k * 4, none⟩) hxg).trans x0
              replace x1 := (hb3.cell (p := ⟨xg, k * 4 + 1, none⟩) hxg).trans x1
              replace x2 := (hb3.cell (p := ⟨xg, k * 4 + 2, none⟩) hxg).trans x2
              obtain ⟨e0', e1', e2', _⟩ := HEC.out u1 HBU.out
              replace e0 := e0'
              replace e1 := e1'
              replace e2 := e2'
              clear hb3 e0' e1' e2'
              go_upto_region 8 with (fail)
              refine wp_region_plan [(true, 0), (true, 1), (true, 2), (true, 3), (true, 4), (true, 5), (true, 6), (true, 7), (true, 8), (true, 9), (true, 10), (true, 11), (true, 12), (true, 13), (true, 14), (true, 15), (true, 16)] (by kernel_rfl) (by kernel_rfl) (by kernel_rfl) (by kernel_rfl) (by kernel_rfl) ?_
              simp only [planO, List.drop_succ_cons, List.drop_zero]
              refine PlanO.take (v := ?vc0) (by kernel_rfl) ?yc0 ?rc0
              case yc0 => (intro wz hz; go_simp; try with_reducible rfl)
              (try simp only [Act.put, List.setIfInBounds_toArray, List.set_cons_zero, List.set_cons_succ])
              refine PlanO.take (v := ?vc1) (by kernel_rfl) ?yc1 ?rc1
              case yc1 => (intro wz hz; go_simp; try with_reducible rfl)
              (try simp only [Act.put, List.setIfInBounds_toArray, List.set_cons_zero, List.set_cons_succ])
              refine PlanO.take (v := ?vc2) (by kernel_rfl) ?yc2 ?rc2
              case yc2 => (intro wz hz; go_simp; try with_reducible rfl)
              (try simp only [Act.put, List.setIfInBounds_toArray, List.set_cons_zero, List.set_cons_succ])
              refine PlanO.take (v := .bool true) (by kernel_rfl) ?yc3 ?rc3
              case yc3 => (intro wz hz; go_simp; try simp [hlt])
              (try simp only [Act.put, List.setIfInBounds_toArray, List.set_cons_zero, List.set_cons_succ])
              refine PlanO.take (v := .bool true) (by kernel_rfl) ?yc4 ?rc4
              case yc4 => (intro wz hz; go_simp; try simp [hlt])
              (try simp only [Act.put, List.setIfInBounds_toArray, List.set_cons_zero, List.set_cons_succ])
              refine PlanO.take (v := ?vc5) (by kernel_rfl) ?yc5 ?rc5
              case yc5 => (intro wz hz; go_simp; try with_reducible rfl)
              (try simp only [Act.put, List.setIfInBounds_toArray, List.set_cons_zero, List.set_cons_succ])
              refine PlanO.take (v := ?vc6) (by kernel_rfl) ?yc6 ?rc6
              case yc6 => (intro wz hz; go_simp; try with_reducible rfl)
              (try simp only [Act.put, List.setIfInBounds_toArray, List.set_cons_zero, List.set_cons_succ])
              refine PlanO.take (v := ?vc7) (by kernel_rfl) ?yc7 ?rc7
              case yc7 => (intro wz hz; go_simp; try with_reducible rfl)
              (try simp only [Act.put, List.setIfInBounds_toArray, List.set_cons_zero, List.set_cons_succ])
              refine PlanO.take (v := ?vc8) (by kernel_rfl) ?yc8 ?rc8
              case yc8 => (intro wz hz; go_simp; try with_reducible rfl)
              (try simp only [Act.put, List.setIfInBounds_toArray, List.set_cons_zero, List.set_cons_succ])
              refine PlanO.take (v := ?vc9) (by kernel_rfl) ?yc9 ?rc9
              case yc9 => (intro wz hz; have d0 := Ext.at_ hz x0; have d1 := Ext.at_ hz x1; have d2 := Ext.at_ hz x2; go_simp; try with_reducible rfl)
              (try simp only [Act.put, List.setIfInBounds_toArray, List.set_cons_zero, List.set_cons_succ])
              refine PlanO.take (v := ?vc10) (by kernel_rfl) ?yc10 ?rc10
              case yc10 => (intro wz hz; go_simp; try with_reducible rfl)
              (try simp only [Act.put, List.setIfInBounds_toArray, List.set_cons_zero, List.set_cons_succ])
              refine PlanO.take (v := ?vc11) (by kernel_rfl) ?yc11 ?rc11
              case yc11 => (intro wz hz; go_simp; try with_reducible rfl)
              (try simp only [Act.put, List.setIfInBounds_toArray, List.set_cons_zero, List.set_cons_succ])
              refine PlanO.take (v := ?vc12) (by kernel_rfl) ?yc12 ?rc12
              case yc12 => (intro wz hz; go_simp; try with_reducible rfl)
              (try simp only [Act.put, List.setIfInBounds_toArray, List.set_cons_zero, List.set_cons_succ])
              refine PlanO.take (v := ?vc13) (by kernel_rfl) ?yc13 ?rc13
              case yc13 => (intro wz hz; go_simp; try with_reducible rfl)
              (try simp only [Act.put, List.setIfInBounds_toArray, List.set_cons_zero, List.set_cons_succ])
              refine PlanO.take (v := ?vc14) (by kernel_rfl) ?yc14 ?rc14
              case yc14 => (intro wz hz; have c0 := Ext.at_ hz e0; have c1 := Ext.at_ hz e1; have c2 := Ext.at_ hz e2; go_simp; try with_reducible rfl)
              (try simp only [Act.put, List.setIfInBounds_toArray, List.set_cons_zero, List.set_cons_succ])
              refine PlanO.take (v := .bool true) (by kernel_rfl) ?yc15 ?rc15
              case yc15 => (intro wz hz; go_simp; try with_reducible rfl)
              (try simp only [Act.put, List.setIfInBounds_toArray, List.set_cons_zero, List.set_cons_succ])
              refine PlanO.take (v := .bool true) (by kernel_rfl) ?yc16 ?rc16
              case yc16 => (intro wz hz; go_simp; try with_reducible rfl)
              (try simp only [Act.put, List.setIfInBounds_toArray, List.set_cons_zero, List.set_cons_succ])
              refine PlanO.done (NoPanic.normal ?_)
              go_wp2
              exact ⟨⟨i + 1, hlti, by go_num, Lib.hid (by rw [HST.out, HN.out]; exact (HO.out.below HBU.out).below (Below.refl _ _).drew), Lib.hid (HB.out.trans (HBU.out.drew.mono HB.out.size))⟩, by simp [intOf]; omega⟩
            · obtain hins := HNEW.out (by omega) heq
              have hne : ¬ (yu.toList = X.u.toList ∧ ys = X.s ∧ yk = X.k) := fun h => heq (HZ.out.2 ⟨by
                have := h.1
                rw [toList_data, toList_data] at this
                exact ByteArray.ext (Array.toList_inj.1 this), h.2.1, h.2.2⟩)
              have HNE := Lib.hid hne
              have HINS := Lib.hid (show k ≤ O.length ∧ sIns X O = O.take k ++ [X] ++ O.drop k from ⟨hk, hins⟩)
              clear HMORE HNEW HOLD HZ hins hne heq
              go_upto_region 6 with (fail)
              refine wp_region_plan [(true, 0), (true, 1), (true, 2), (true, 3), (true, 4), (true, 5), (true, 6), (true, 7), (true, 8), (true, 9), (true, 10), (true, 11), (true, 12), (true, 13), (true, 14), (false, 15), (true, 16), (true, 17)] (by kernel_rfl) (by kernel_rfl) (by kernel_rfl) (by kernel_rfl) (by kernel_rfl) ?_
              simp only [planO, List.drop_succ_cons, List.drop_zero]
              refine PlanO.take (v := ?vd0) (by kernel_rfl) ?yd0 ?rd0
              case yd0 => (intro wz hz; go_simp; try with_reducible rfl)
              (try simp only [Act.put, List.setIfInBounds_toArray, List.set_cons_zero, List.set_cons_succ])
              refine PlanO.take (v := ?vd1) (by kernel_rfl) ?yd1 ?rd1
              case yd1 => (intro wz hz; go_simp; try with_reducible rfl)
              (try simp only [Act.put, List.setIfInBounds_toArray, List.set_cons_zero, List.set_cons_succ])
              refine PlanO.take (v := ?vd2) (by kernel_rfl) ?yd2 ?rd2
              case yd2 => (intro wz hz; go_simp; try with_reducible rfl)
              (try simp only [Act.put, List.setIfInBounds_toArray, List.set_cons_zero, List.set_cons_succ])
              refine PlanO.take (v := .bool true) (by kernel_rfl) ?yd3 ?rd3
              case yd3 => (intro wz hz; go_simp; try simp [hlt])
              (try simp only [Act.put, List.setIfInBounds_toArray, List.set_cons_zero, List.set_cons_succ])
              refine PlanO.take (v := .bool true) (by kernel_rfl) ?yd4 ?rd4
              case yd4 => (intro wz hz; go_simp; try simp [hlt])
              (try simp only [Act.put, List.setIfInBounds_toArray, List.set_cons_zero, List.set_cons_succ])
              refine PlanO.take (v := ?vd5) (by kernel_rfl) ?yd5 ?rd5
              case yd5 => (intro wz hz; go_simp; try with_reducible rfl)
              (try simp only [Act.put, List.setIfInBounds_toArray, List.set_cons_zero, List.set_cons_succ])
              refine PlanO.take (v := ?vd6) (by kernel_rfl) ?yd6 ?rd6
              case yd6 => (intro wz hz; go_simp; try with_reducible rfl)
              (try simp only [Act.put, List.setIfInBounds_toArray, List.set_cons_zero, List.set_cons_succ])
              refine PlanO.take (v := ?vd7) (by kernel_rfl) ?yd7 ?rd7
              case yd7 => (intro wz hz; go_simp; try with_reducible rfl)
              (try simp only [Act.put, List.setIfInBounds_toArray, List.set_cons_zero, List.set_cons_succ])
              refine PlanO.take (v := ?vd8) (by kernel_rfl) ?yd8 ?rd8
              case yd8 => (intro wz hz; go_simp; try with_reducible rfl)
              (try simp only [Act.put, List.setIfInBounds_toArray, List.set_cons_zero, List.set_cons_succ])
              refine PlanO.take (v := ?vd9) (by kernel_rfl) ?yd9 ?rd9
              case yd9 => (intro wz hz; have d0 := Ext.at_ hz x0; have d1 := Ext.at_ hz x1; have d2 := Ext.at_ hz x2; go_simp; try with_reducible rfl)
              (try simp only [Act.put, List.setIfInBounds_toArray, List.set_cons_zero, List.set_cons_succ])
              refine PlanO.take (v := ?vd10) (by kernel_rfl) ?yd10 ?rd10
              case yd10 => (intro wz hz; go_simp; try with_reducible rfl)
              (try simp only [Act.put, List.setIfInBounds_toArray, List.set_cons_zero, List.set_cons_succ])
              refine PlanO.take (v := ?vd11) (by kernel_rfl) ?yd11 ?rd11
              case yd11 => (intro wz hz; go_simp; try with_reducible rfl)
              (try simp only [Act.put, List.setIfInBounds_toArray, List.set_cons_zero, List.set_cons_succ])
              refine PlanO.take (v := ?vd12) (by kernel_rfl) ?yd12 ?rd12
              case yd12 => (intro wz hz; go_simp; try with_reducible rfl)
              (try simp only [Act.put, List.setIfInBounds_toArray, List.set_cons_zero, List.set_cons_succ])
              refine PlanO.take (v := ?vd13) (by kernel_rfl) ?yd13 ?rd13
              case yd13 => (intro wz hz; go_simp; try with_reducible rfl)
              (try simp only [Act.put, List.setIfInBounds_toArray, List.set_cons_zero, List.set_cons_succ])
              refine PlanO.take (v := ?vd14) (by kernel_rfl) ?yd14 ?rd14
              case yd14 => (intro wz hz; have c0 := Ext.at_ hz e0; have c1 := Ext.at_ hz e1; have c2 := Ext.at_ hz e2; go_simp; try with_reducible rfl)
              (try simp only [Act.put, List.setIfInBounds_toArray, List.set_cons_zero, List.set_cons_succ])
              refine PlanO.exec (fun K hK => ?_)
              go_simp
              go_at_call 24
              refine (HC.out _).mono ?_
              rintro r u1 ⟨rfl, hb3⟩
              have hE1 : Ext wr.drew u1 := hb3
              go_wp2_with fail
              refine hK.out _ _ hb3 ?_
              clear hK K
              (try simp only [Act.put, List.setIfInBounds_toArray, List.set_cons_zero, List.set_cons_succ])
              refine PlanO.take (v := .bool false) (by kernel_rfl) ?yd16 ?rd16
              case yd16 => (intro wz hz; go_simp; try simp; try omega)
              (try simp only [Act.put, List.setIfInBounds_toArray, List.set_cons_zero, List.set_cons_succ])
              refine PlanO.take (v := .bool false) (by kernel_rfl) ?yd17 ?rd17
              case yd17 => (intro wz hz; go_simp; try with_reducible rfl)
              (try simp only [Act.put, List.setIfInBounds_toArray, List.set_cons_zero, List.set_cons_succ])
              refine PlanO.done (NoPanic.normal ?_)
              have HBU := Lib.hid (HBZ.out.drew.trans (hb3.mono HBZ.out.drew.size))
              replace x0 := (hb3.cell (p := ⟨xg, k * 4, none⟩) hxg).trans x0
              replace x1 := (hb3.cell (p := ⟨xg, k * 4 + 1, none⟩) hxg).trans x1
              replace x2 := (hb3.cell (p := ⟨xg, k * 4 + 2, none⟩) hxg).trans x2
              obtain ⟨e0', e1', e2', _⟩ := HEC.out u1 HBU.out
              replace e0 := e0'
              replace e1 := e1'
              replace e2 := e2'
              clear hb3 e0' e1' e2'
              go_upto_region 8 with (fail)
              refine wp_region_plan [(true, 0), (true, 1), (true, 2), (true, 3), (true, 4), (true, 5), (true, 6), (true, 7), (true, 8), (true, 9), (true, 10), (true, 11), (true, 12), (true, 13), (true, 14), (true, 15), (true, 16)] (by kernel_rfl) (by kernel_rfl) (by kernel_rfl) (by kernel_rfl) (by kernel_rfl) ?_
              simp only [planO, List.drop_succ_cons, List.drop_zero]
              refine PlanO.take (v := ?ve0) (by kernel_rfl) ?ye0 ?re0
              case ye0 => (intro wz hz; go_simp; try with_reducible rfl)
              (try simp only [Act.put, List.setIfInBounds_toArray, List.set_cons_zero, List.set_cons_succ])
              refine PlanO.take (v := ?ve1) (by kernel_rfl) ?ye1 ?re1
              case ye1 => (intro wz hz; go_simp; try with_reducible rfl)
              (try simp only [Act.put, List.setIfInBounds_toArray, List.set_cons_zero, List.set_cons_succ])
              refine PlanO.take (v := ?ve2) (by kernel_rfl) ?ye2 ?re2
              case ye2 => (intro wz hz; go_simp; try with_reducible rfl)
              (try simp only [Act.put, List.setIfInBounds_toArray, List.set_cons_zero, List.set_cons_succ])
              refine PlanO.take (v := .bool true) (by kernel_rfl) ?ye3 ?re3
              case ye3 => (intro wz hz; go_simp; try simp [hlt])
              (try simp only [Act.put, List.setIfInBounds_toArray, List.set_cons_zero, List.set_cons_succ])
              refine PlanO.take (v := .bool true) (by kernel_rfl) ?ye4 ?re4
              case ye4 => (intro wz hz; go_simp; try simp [hlt])
              (try simp only [Act.put, List.setIfInBounds_toArray, List.set_cons_zero, List.set_cons_succ])
              refine PlanO.take (v := ?ve5) (by kernel_rfl) ?ye5 ?re5
              case ye5 => (intro wz hz; go_simp; try with_reducible rfl)
              (try simp only [Act.put, List.setIfInBounds_toArray, List.set_cons_zero, List.set_cons_succ])
              refine PlanO.take (v := ?ve6) (by kernel_rfl) ?ye6 ?re6
              case ye6 => (intro wz hz; go_simp; try with_reducible rfl)
              (try simp only [Act.put, List.setIfInBounds_toArray, List.set_cons_zero, List.set_cons_succ])
              refine PlanO.take (v := ?ve7) (by kernel_rfl) ?ye7 ?re7
              case ye7 => (intro wz hz; go_simp; try with_reducible rfl)
              (try simp only [Act.put, List.setIfInBounds_toArray, List.set_cons_zero, List.set_cons_succ])
              refine PlanO.take (v := ?ve8) (by kernel_rfl) ?ye8 ?re8
              case ye8 => (intro wz hz; go_simp; try with_reducible rfl)
              (try simp only [Act.put, List.setIfInBounds_toArray, List.set_cons_zero, List.set_cons_succ])
              refine PlanO.take (v := ?ve9) (by kernel_rfl) ?ye9 ?re9
              case ye9 => (intro wz hz; have d0 := Ext.at_ hz x0; have d1 := Ext.at_ hz x1; have d2 := Ext.at_ hz x2; go_simp; try with_reducible rfl)
              (try simp only [Act.put, List.setIfInBounds_toArray, List.set_cons_zero, List.set_cons_succ])
              refine PlanO.take (v := ?ve10) (by kernel_rfl) ?ye10 ?re10
              case ye10 => (intro wz hz; go_simp; try with_reducible rfl)
              (try simp only [Act.put, List.setIfInBounds_toArray, List.set_cons_zero, List.set_cons_succ])
              refine PlanO.take (v := ?ve11) (by kernel_rfl) ?ye11 ?re11
              case ye11 => (intro wz hz; go_simp; try with_reducible rfl)
              (try simp only [Act.put, List.setIfInBounds_toArray, List.set_cons_zero, List.set_cons_succ])
              refine PlanO.take (v := ?ve12) (by kernel_rfl) ?ye12 ?re12
              case ye12 => (intro wz hz; go_simp; try with_reducible rfl)
              (try simp only [Act.put, List.setIfInBounds_toArray, List.set_cons_zero, List.set_cons_succ])
              refine PlanO.take (v := ?ve13) (by kernel_rfl) ?ye13 ?re13
              case ye13 => (intro wz hz; go_simp; try with_reducible rfl)
              (try simp only [Act.put, List.setIfInBounds_toArray, List.set_cons_zero, List.set_cons_succ])
              refine PlanO.take (v := ?ve14) (by kernel_rfl) ?ye14 ?re14
              case ye14 => (intro wz hz; have c0 := Ext.at_ hz e0; have c1 := Ext.at_ hz e1; have c2 := Ext.at_ hz e2; go_simp; try with_reducible rfl)
              (try simp only [Act.put, List.setIfInBounds_toArray, List.set_cons_zero, List.set_cons_succ])
              refine PlanO.take (v := .bool false) (by kernel_rfl) ?ye15 ?re15
              case ye15 => (intro wz hz; go_simp; exact fun a b c => HNE.out ⟨a, b, c⟩)
              (try simp only [Act.put, List.setIfInBounds_toArray, List.set_cons_zero, List.set_cons_succ])
              refine PlanO.take (v := .bool false) (by kernel_rfl) ?ye16 ?re16
              case ye16 => (intro wz hz; go_simp; try with_reducible rfl)
              (try simp only [Act.put, List.setIfInBounds_toArray, List.set_cons_zero, List.set_cons_succ])
              refine PlanO.done (NoPanic.normal ?_)
              clear x0 x1 x2 e0 e1 e2 hltz
              obtain ⟨wS, hwS⟩ : ∃ wS, wS = u1.drew := ⟨_, rfl⟩
              rw [← hwS]
              have HBS := Lib.hid (show Below wa.heap.size wa wS by rw [hwS]; exact HBU.out.drew)
              have HOS := Lib.hid (HO.out.below HBS.out)
              have HES := Lib.hid (HEC.out wS HBS.out)
              clear hwS
              go_wp2_with (at_builtin; refine wpList_append_rd rfl (.tmp 50) (.tmp 53) 25 rfl wS.heap.size 38 4 48 (.agg #[.string ⟨#[]⟩, .int .i64 0, .int .i64 0, .string ⟨#[]⟩]) Try.underlying25 info_ent rfl (by decide) (.slice (some ⟨wS.heap.size, 0, none⟩) 0 0) _ 0 k [] ((O.take k).flatMap Ent.cells) rfl rfl (made_E wS) ?rdMA (entFlat_one _) ?bbMA ?l1MA ?l2MA ?kkMA)
              case rdMA => exact (entFront (Rd.below (rd_of_own HOS.out) ((Below.refl _ _).alloc (Nat.le_refl _) (.cells #[] 38)) (Nat.le_refl _)) k hk)
              case bbMA => simp
              case l1MA => omega
              case l2MA => (unfold maxLen; omega)
              case kkMA =>
                intro vPA wPA hown hBk
                have hb' := hBk wS.heap.size wS (Nat.le_refl _) ((Below.refl _ _).alloc (Nat.le_refl _) _)
                have HOPA := Lib.hid (show wPA.ownsRow wS.heap.size 38 4 vPA k ((O.take k).flatMap Ent.cells) by simpa using hown)
                have HBPA := Lib.hid hb'
                obtain ⟨g0, g1, g2, g3⟩ := HEC.out wPA (HBS.out.trans (hb'.mono HBS.out.size))
                clear hown hBk hb'
                go_wp2_with (at_builtin; refine wpList_append_rd rfl (.tmp 55) (.tmp 60) 25 rfl wS.heap.size 38 4 48 (.agg #[.string ⟨#[]⟩, .int .i64 0, .int .i64 0, .string ⟨#[]⟩]) Try.underlying25 info_ent rfl (by decide) vPA _ k 1 ((O.take k).flatMap Ent.cells) ([X].flatMap Ent.cells) rfl rfl (World.ownsRow.alloc HOPA.out _) ?rdMB (entFlat_one _) ?bbMB ?l1MB ?l2MB ?kkMB)
                case rdMB => exact one_entry _ X
                case bbMB => (have := HBPA.out.size; simp; omega)
                case l1MB => omega
                case l2MB => (unfold maxLen; omega)
                case kkMB =>
                  intro vPB wPB hown hBk
                  have hb' := hBk wS.heap.size wS (Nat.le_refl _) (HBPA.out.alloc HBPA.out.size _)
                  have HOPB := Lib.hid hown
                  have HBPB := Lib.hid hb'
                  clear hown hBk hb' g0 g1 g2 g3
                  go_wp2_with (at_builtin; refine wpList_append_rd rfl (.tmp 62) (.tmp 65) 25 rfl wS.heap.size 38 4 48 (.agg #[.string ⟨#[]⟩, .int .i64 0, .int .i64 0, .string ⟨#[]⟩]) Try.underlying25 info_ent rfl (by decide) vPB _ (k + 1) (O.length - k) ((O.take k).flatMap Ent.cells ++ [X].flatMap Ent.cells) ((O.drop k).flatMap Ent.cells) rfl rfl (HOPB.out) ?rdMC (entFlat_one _) ?bbMC ?l1MC ?l2MC ?kkMC)
                  case rdMC => (have := entRest (Rd.below (rd_of_own HOS.out) HBPB.out (Nat.le_refl _)) k hk; rw [Nat.zero_add] at this; exact this)
                  case bbMC => exact HBPB.out.size
                  case l1MC => omega
                  case l2MC => (unfold maxLen; omega)
                  case kkMC =>
                    intro vPC wPC hown hBk
                    have HBPC := Lib.hid (HBS.out.trans ((hBk wS.heap.size wS (Nat.le_refl _) HBPB.out).mono HBS.out.size))
                    have HFIN := Lib.hid (sorted_done HINS.out.1 HINS.out.2 (Nat.le_trans HB.out.size HBS.out.size) hown)
                    clear hown hBk
                    go_wp2
                    exact ⟨⟨i + 1, hlti, by go_num, Lib.hid (by rw [HST.out]; exact HFIN.out), Lib.hid (HB.out.trans (HBPC.out.mono HB.out.size))⟩, by simp [intOf]; omega⟩
        · have hltz : ¬ (k : Int) < (O.length : Int) := by omega
          have HINS := Lib.hid (show k ≤ O.length ∧ sIns X O = O.take k ++ [X] ++ O.drop k from ⟨hk, sins_new hk HK.out (fun h => absurd h hlt)⟩)
          go_upto_region 6 with (fail)
          refine wp_region_plan [(true, 0), (true, 1), (true, 2), (true, 3), (true, 4), (true, 5), (true, 6), (true, 7), (true, 8), (true, 9), (true, 10), (true, 11), (true, 12), (true, 13), (true, 14), (false, 15), (true, 16), (true, 17)] (by kernel_rfl) (by kernel_rfl) (by kernel_rfl) (by kernel_rfl) (by kernel_rfl) ?_
          simp only [planO, List.drop_succ_cons, List.drop_zero]
          refine PlanO.take (v := ?vn0) (by kernel_rfl) ?yn0 ?rn0
          case yn0 => (intro wz hz; go_simp; try with_reducible rfl)
          (try simp only [Act.put, List.setIfInBounds_toArray, List.set_cons_zero, List.set_cons_succ])
          refine PlanO.take (v := ?vn1) (by kernel_rfl) ?yn1 ?rn1
          case yn1 => (intro wz hz; go_simp; try with_reducible rfl)
          (try simp only [Act.put, List.setIfInBounds_toArray, List.set_cons_zero, List.set_cons_succ])
          refine PlanO.take (v := ?vn2) (by kernel_rfl) ?yn2 ?rn2
          case yn2 => (intro wz hz; go_simp; try with_reducible rfl)
          (try simp only [Act.put, List.setIfInBounds_toArray, List.set_cons_zero, List.set_cons_succ])
          refine PlanO.take (v := .bool false) (by kernel_rfl) ?yn3 ?rn3
          case yn3 => (intro wz hz; go_simp; try simp [hlt])
          (try simp only [Act.put, List.setIfInBounds_toArray, List.set_cons_zero, List.set_cons_succ])
          refine PlanO.take (v := .bool false) (by kernel_rfl) ?yn4 ?rn4
          case yn4 => (intro wz hz; go_simp; try simp [hlt])
          (try simp only [Act.put, List.setIfInBounds_toArray, List.set_cons_zero, List.set_cons_succ])
          refine PlanO.skip (by kernel_rfl) ?_
          (try simp only [Act.put, List.setIfInBounds_toArray, List.set_cons_zero, List.set_cons_succ])
          refine PlanO.skip (by kernel_rfl) ?_
          (try simp only [Act.put, List.setIfInBounds_toArray, List.set_cons_zero, List.set_cons_succ])
          refine PlanO.skip (by kernel_rfl) ?_
          (try simp only [Act.put, List.setIfInBounds_toArray, List.set_cons_zero, List.set_cons_succ])
          refine PlanO.skip (by kernel_rfl) ?_
          (try simp only [Act.put, List.setIfInBounds_toArray, List.set_cons_zero, List.set_cons_succ])
          refine PlanO.skip (by kernel_rfl) ?_
          (try simp only [Act.put, List.setIfInBounds_toArray, List.set_cons_zero, List.set_cons_succ])
          refine PlanO.skip (by kernel_rfl) ?_
          (try simp only [Act.put, List.setIfInBounds_toArray, List.set_cons_zero, List.set_cons_succ])
          refine PlanO.skip (by kernel_rfl) ?_
          (try simp only [Act.put, List.setIfInBounds_toArray, List.set_cons_zero, List.set_cons_succ])
          refine PlanO.skip (by kernel_rfl) ?_
          (try simp only [Act.put, List.setIfInBounds_toArray, List.set_cons_zero, List.set_cons_succ])
          refine PlanO.skip (by kernel_rfl) ?_
          (try simp only [Act.put, List.setIfInBounds_toArray, List.set_cons_zero, List.set_cons_succ])
          refine PlanO.skip (by kernel_rfl) ?_
          (try simp only [Act.put, List.setIfInBounds_toArray, List.set_cons_zero, List.set_cons_succ])
          refine PlanO.skip (by kernel_rfl) ?_
          (try simp only [Act.put, List.setIfInBounds_toArray, List.set_cons_zero, List.set_cons_succ])
          refine PlanO.skip (by kernel_rfl) ?_
          (try simp only [Act.put, List.setIfInBounds_toArray, List.set_cons_zero, List.set_cons_succ])
          refine PlanO.take (v := .bool false) (by kernel_rfl) ?yn17 ?rn17
          case yn17 => (intro wz hz; go_simp; try with_reducible rfl)
          (try simp only [Act.put, List.setIfInBounds_toArray, List.set_cons_zero, List.set_cons_succ])
          refine PlanO.done (NoPanic.normal ?_)
          go_upto_region 8 with (fail)
          refine wp_region_plan [(true, 0), (true, 1), (true, 2), (true, 3), (true, 4), (true, 5), (true, 6), (true, 7), (true, 8), (true, 9), (true, 10), (true, 11), (true, 12), (true, 13), (true, 14), (true, 15), (true, 16)] (by kernel_rfl) (by kernel_rfl) (by kernel_rfl) (by kernel_rfl) (by kernel_rfl) ?_
          simp only [planO, List.drop_succ_cons, List.drop_zero]
          refine PlanO.take (v := ?vo0) (by kernel_rfl) ?yo0 ?ro0
          case yo0 => (intro wz hz; go_simp; try with_reducible rfl)
          (try simp only [Act.put, List.setIfInBounds_toArray, List.set_cons_zero, List.set_cons_succ])
          refine PlanO.take (v := ?vo1) (by kernel_rfl) ?yo1 ?ro1
          case yo1 => (intro wz hz; go_simp; try with_reducible rfl)
          (try simp only [Act.put, List.setIfInBounds_toArray, List.set_cons_zero, List.set_cons_succ])
          refine PlanO.take (v := ?vo2) (by kernel_rfl) ?yo2 ?ro2
          case yo2 => (intro wz hz; go_simp; try with_reducible rfl)
          (try simp only [Act.put, List.setIfInBounds_toArray, List.set_cons_zero, List.set_cons_succ])
          refine PlanO.take (v := .bool false) (by kernel_rfl) ?yo3 ?ro3
          case yo3 => (intro wz hz; go_simp; try simp [hlt])
          (try simp only [Act.put, List.setIfInBounds_toArray, List.set_cons_zero, List.set_cons_succ])
          refine PlanO.take (v := .bool false) (by kernel_rfl) ?yo4 ?ro4
          case yo4 => (intro wz hz; go_simp; try simp [hlt])
          (try simp only [Act.put, List.setIfInBounds_toArray, List.set_cons_zero, List.set_cons_succ])
          refine PlanO.skip (by kernel_rfl) ?_
          (try simp only [Act.put, List.setIfInBounds_toArray, List.set_cons_zero, List.set_cons_succ])
          refine PlanO.skip (by kernel_rfl) ?_
          (try simp only [Act.put, List.setIfInBounds_toArray, List.set_cons_zero, List.set_cons_succ])
          refine PlanO.skip (by kernel_rfl) ?_
          (try simp only [Act.put, List.setIfInBounds_toArray, List.set_cons_zero, List.set_cons_succ])
          refine PlanO.skip (by kernel_rfl) ?_
          (try simp only [Act.put, List.setIfInBounds_toArray, List.set_cons_zero, List.set_cons_succ])
          refine PlanO.skip (by kernel_rfl) ?_
          (try simp only [Act.put, List.setIfInBounds_toArray, List.set_cons_zero, List.set_cons_succ])
          refine PlanO.skip (by kernel_rfl) ?_
          (try simp only [Act.put, List.setIfInBounds_toArray, List.set_cons_zero, List.set_cons_succ])
          refine PlanO.skip (by kernel_rfl) ?_
          (try simp only [Act.put, List.setIfInBounds_toArray, List.set_cons_zero, List.set_cons_succ])
          refine PlanO.skip (by kernel_rfl) ?_
          (try simp only [Act.put, List.setIfInBounds_toArray, List.set_cons_zero, List.set_cons_succ])
          refine PlanO.skip (by kernel_rfl) ?_
          (try simp only [Act.put, List.setIfInBounds_toArray, List.set_cons_zero, List.set_cons_succ])
          refine PlanO.skip (by kernel_rfl) ?_
          (try simp only [Act.put, List.setIfInBounds_toArray, List.set_cons_zero, List.set_cons_succ])
          refine PlanO.skip (by kernel_rfl) ?_
          (try simp only [Act.put, List.setIfInBounds_toArray, List.set_cons_zero, List.set_cons_succ])
          refine PlanO.take (v := .bool false) (by kernel_rfl) ?yo16 ?ro16
          case yo16 => (intro wz hz; go_simp; try with_reducible rfl)
          (try simp only [Act.put, List.setIfInBounds_toArray, List.set_cons_zero, List.set_cons_succ])
          refine PlanO.done (NoPanic.normal ?_)
          have hke : k = O.length := by omega
          clear hltz
          cases oa with
          | none =>
            have hnil : O.length = 0 ∧ oc = 0 := by
              rcases HO.out.2 with ⟨h, h0⟩ | ⟨g, c, cur, h, _⟩
              · injection h with _ _ h2; exact ⟨h0, h2⟩
              · cases h
            obtain ⟨hL0, rfl⟩ := hnil
            have hLn : O = [] := List.eq_nil_of_length_eq_zero hL0
            subst hLn
            have hk0 : k = 0 := hke
            subst hk0
            clear hke hlt hk hL0
            obtain ⟨wS, hwS⟩ : ∃ wS, wS = wr.drew.drew := ⟨_, rfl⟩
            rw [← hwS]
            have HBS := Lib.hid (show Below wa.heap.size wa wS by rw [hwS]; exact HBZ.out.drew.drew)
            have HOS := Lib.hid (HO.out.below HBS.out)
            have HES := Lib.hid (HEC.out wS HBS.out)
            clear hwS
            go_wp2_with (at_builtin; refine wpList_append_rd rfl (.tmp 50) (.tmp 53) 25 rfl wS.heap.size 38 4 48 (.agg #[.string ⟨#[]⟩, .int .i64 0, .int .i64 0, .string ⟨#[]⟩]) Try.underlying25 info_ent rfl (by decide) (.slice (some ⟨wS.heap.size, 0, none⟩) 0 0) _ 0 0 [] ((([] : List Ent).take 0).flatMap Ent.cells) rfl rfl (made_E wS) ?rdNA (entFlat_one _) ?bbNA ?l1NA ?l2NA ?kkNA)
            case rdNA => exact Rd.nil _ _
            case bbNA => simp
            case l1NA => omega
            case l2NA => (unfold maxLen; omega)
            case kkNA =>
              intro vPA wPA hown hBk
              have hb' := hBk wS.heap.size wS (Nat.le_refl _) ((Below.refl _ _).alloc (Nat.le_refl _) _)
              have HOPA := Lib.hid (show wPA.ownsRow wS.heap.size 38 4 vPA 0 ((([] : List Ent).take 0).flatMap Ent.cells) by simpa using hown)
              have HBPA := Lib.hid hb'
              obtain ⟨g0, g1, g2, g3⟩ := HEC.out wPA (HBS.out.trans (hb'.mono HBS.out.size))
              clear hown hBk hb'
              go_wp2_with (at_builtin; refine wpList_append_rd rfl (.tmp 55) (.tmp 60) 25 rfl wS.heap.size 38 4 48 (.agg #[.string ⟨#[]⟩, .int .i64 0, .int .i64 0, .string ⟨#[]⟩]) Try.underlying25 info_ent rfl (by decide) vPA _ 0 1 ((([] : List Ent).take 0).flatMap Ent.cells) ([X].flatMap Ent.cells) rfl rfl (World.ownsRow.alloc HOPA.out _) ?rdNB (entFlat_one _) ?bbNB ?l1NB ?l2NB ?kkNB)
              case rdNB => exact one_entry _ X
              case bbNB => (have := HBPA.out.size; simp; omega)
              case l1NB => omega
              case l2NB => (unfold maxLen; omega)
              case kkNB =>
                intro vPB wPB hown hBk
                have hb' := hBk wS.heap.size wS (Nat.le_refl _) (HBPA.out.alloc HBPA.out.size _)
                have HOPB := Lib.hid hown
                have HBPB := Lib.hid hb'
                clear hown hBk hb' g0 g1 g2 g3
                go_wp2_with (at_builtin; refine wpList_append_rd rfl (.tmp 62) (.tmp 65) 25 rfl wS.heap.size 38 4 48 (.agg #[.string ⟨#[]⟩, .int .i64 0, .int .i64 0, .string ⟨#[]⟩]) Try.underlying25 info_ent rfl (by decide) vPB _ (0 + 1) (([] : List Ent).length - 0) ((([] : List Ent).take 0).flatMap Ent.cells ++ [X].flatMap Ent.cells) ((([] : List Ent).drop 0).flatMap Ent.cells) rfl rfl (HOPB.out) ?rdNC (entFlat_one _) ?bbNC ?l1NC ?l2NC ?kkNC)
                case rdNC => exact Rd.nil _ _
                case bbNC => exact HBPB.out.size
                case l1NC => omega
                case l2NC => (unfold maxLen; omega)
                case kkNC =>
                  intro vPC wPC hown hBk
                  have HBPC := Lib.hid (HBS.out.trans ((hBk wS.heap.size wS (Nat.le_refl _) HBPB.out).mono HBS.out.size))
                  have HFIN := Lib.hid (sorted_done HINS.out.1 HINS.out.2 (Nat.le_trans HB.out.size HBS.out.size) hown)
                  clear hown hBk
                  go_wp2
                  exact ⟨⟨i + 1, hlti, by go_num, Lib.hid (by rw [HST.out]; exact HFIN.out), Lib.hid (HB.out.trans (HBPC.out.mono HB.out.size))⟩, by simp [intOf]; omega⟩
          | some x =>
            have hx : ∃ g, x = ⟨g, 0, none⟩ := by
              rcases HO.out.2 with ⟨h, _⟩ | ⟨g, c, cur, h, _⟩
              · cases h
              · cases h; exact ⟨g, rfl⟩
            obtain ⟨g, rfl⟩ := hx
            clear hke
            by_cases hroom : k < oc
            · skip
              obtain ⟨wS, hwS⟩ : ∃ wS, wS = wr.drew.drew := ⟨_, rfl⟩
              rw [← hwS]
              have HBS := Lib.hid (show Below wa.heap.size wa wS by rw [hwS]; exact HBZ.out.drew.drew)
              have HOS := Lib.hid (HO.out.below HBS.out)
              have HES := Lib.hid (HEC.out wS HBS.out)
              clear hwS
              go_wp2_with (at_builtin; refine wpList_append_rd rfl (.tmp 50) (.tmp 53) 25 rfl wS.heap.size 38 4 48 (.agg #[.string ⟨#[]⟩, .int .i64 0, .int .i64 0, .string ⟨#[]⟩]) Try.underlying25 info_ent rfl (by decide) (.slice (some ⟨wS.heap.size, 0, none⟩) 0 0) _ 0 k [] ((O.take k).flatMap Ent.cells) rfl rfl (made_E wS) ?rdSA (entFlat_one _) ?bbSA ?l1SA ?l2SA ?kkSA)
              case rdSA => exact (entFront (Rd.below (rd_of_own HOS.out) ((Below.refl _ _).alloc (Nat.le_refl _) (.cells #[] 38)) (Nat.le_refl _)) k hk)
              case bbSA => simp
              case l1SA => omega
              case l2SA => (unfold maxLen; omega)
              case kkSA =>
                intro vPA wPA hown hBk
                have hb' := hBk wS.heap.size wS (Nat.le_refl _) ((Below.refl _ _).alloc (Nat.le_refl _) _)
                have HOPA := Lib.hid (show wPA.ownsRow wS.heap.size 38 4 vPA k ((O.take k).flatMap Ent.cells) by simpa using hown)
                have HBPA := Lib.hid hb'
                obtain ⟨g0, g1, g2, g3⟩ := HEC.out wPA (HBS.out.trans (hb'.mono HBS.out.size))
                clear hown hBk hb'
                go_wp2_with (at_builtin; refine wpList_append_rd rfl (.tmp 55) (.tmp 60) 25 rfl wS.heap.size 38 4 48 (.agg #[.string ⟨#[]⟩, .int .i64 0, .int .i64 0, .string ⟨#[]⟩]) Try.underlying25 info_ent rfl (by decide) vPA _ k 1 ((O.take k).flatMap Ent.cells) ([X].flatMap Ent.cells) rfl rfl (World.ownsRow.alloc HOPA.out _) ?rdSB (entFlat_one _) ?bbSB ?l1SB ?l2SB ?kkSB)
                case rdSB => exact one_entry _ X
                case bbSB => (have := HBPA.out.size; simp; omega)
                case l1SB => omega
                case l2SB => (unfold maxLen; omega)
                case kkSB =>
                  intro vPB wPB hown hBk
                  have hb' := hBk wS.heap.size wS (Nat.le_refl _) (HBPA.out.alloc HBPA.out.size _)
                  have HOPB := Lib.hid hown
                  have HBPB := Lib.hid hb'
                  clear hown hBk hb' g0 g1 g2 g3
                  go_wp2_with (at_builtin; refine wpList_append_rd rfl (.tmp 62) (.tmp 65) 25 rfl wS.heap.size 38 4 48 (.agg #[.string ⟨#[]⟩, .int .i64 0, .int .i64 0, .string ⟨#[]⟩]) Try.underlying25 info_ent rfl (by decide) vPB _ (k + 1) (O.length - k) ((O.take k).flatMap Ent.cells ++ [X].flatMap Ent.cells) ((O.drop k).flatMap Ent.cells) rfl rfl (HOPB.out) ?rdSC (entFlat_one _) ?bbSC ?l1SC ?l2SC ?kkSC)
                  case rdSC => (have := entRest (Rd.below (rd_of_own HOS.out) HBPB.out (Nat.le_refl _)) k hk; rw [Nat.zero_add] at this; exact this)
                  case bbSC => exact HBPB.out.size
                  case l1SC => omega
                  case l2SC => (unfold maxLen; omega)
                  case kkSC =>
                    intro vPC wPC hown hBk
                    have HBPC := Lib.hid (HBS.out.trans ((hBk wS.heap.size wS (Nat.le_refl _) HBPB.out).mono HBS.out.size))
                    have HFIN := Lib.hid (sorted_done HINS.out.1 HINS.out.2 (Nat.le_trans HB.out.size HBS.out.size) hown)
                    clear hown hBk
                    go_wp2
                    exact ⟨⟨i + 1, hlti, by go_num, Lib.hid (by rw [HST.out]; exact HFIN.out), Lib.hid (HB.out.trans (HBPC.out.mono HB.out.size))⟩, by simp [intOf]; omega⟩
            · have hroom' : oc ≤ k := by omega
              clear hroom
              obtain ⟨wS, hwS⟩ : ∃ wS, wS = wr.drew.drew := ⟨_, rfl⟩
              rw [← hwS]
              have HBS := Lib.hid (show Below wa.heap.size wa wS by rw [hwS]; exact HBZ.out.drew.drew)
              have HOS := Lib.hid (HO.out.below HBS.out)
              have HES := Lib.hid (HEC.out wS HBS.out)
              clear hwS
              go_wp2_with (at_builtin; refine wpList_append_rd rfl (.tmp 50) (.tmp 53) 25 rfl wS.heap.size 38 4 48 (.agg #[.string ⟨#[]⟩, .int .i64 0, .int .i64 0, .string ⟨#[]⟩]) Try.underlying25 info_ent rfl (by decide) (.slice (some ⟨wS.heap.size, 0, none⟩) 0 0) _ 0 k [] ((O.take k).flatMap Ent.cells) rfl rfl (made_E wS) ?rdFA (entFlat_one _) ?bbFA ?l1FA ?l2FA ?kkFA)
              case rdFA => exact (entFront (Rd.below (rd_of_own HOS.out) ((Below.refl _ _).alloc (Nat.le_refl _) (.cells #[] 38)) (Nat.le_refl _)) k hk)
              case bbFA => simp
              case l1FA => omega
              case l2FA => (unfold maxLen; omega)
              case kkFA =>
                intro vPA wPA hown hBk
                have hb' := hBk wS.heap.size wS (Nat.le_refl _) ((Below.refl _ _).alloc (Nat.le_refl _) _)
                have HOPA := Lib.hid (show wPA.ownsRow wS.heap.size 38 4 vPA k ((O.take k).flatMap Ent.cells) by simpa using hown)
                have HBPA := Lib.hid hb'
                obtain ⟨g0, g1, g2, g3⟩ := HEC.out wPA (HBS.out.trans (hb'.mono HBS.out.size))
                clear hown hBk hb'
                go_wp2_with (at_builtin; refine wpList_append_rd rfl (.tmp 55) (.tmp 60) 25 rfl wS.heap.size 38 4 48 (.agg #[.string ⟨#[]⟩, .int .i64 0, .int .i64 0, .string ⟨#[]⟩]) Try.underlying25 info_ent rfl (by decide) vPA _ k 1 ((O.take k).flatMap Ent.cells) ([X].flatMap Ent.cells) rfl rfl (World.ownsRow.alloc HOPA.out _) ?rdFB (entFlat_one _) ?bbFB ?l1FB ?l2FB ?kkFB)
                case rdFB => exact one_entry _ X
                case bbFB => (have := HBPA.out.size; simp; omega)
                case l1FB => omega
                case l2FB => (unfold maxLen; omega)
                case kkFB =>
                  intro vPB wPB hown hBk
                  have hb' := hBk wS.heap.size wS (Nat.le_refl _) (HBPA.out.alloc HBPA.out.size _)
                  have HOPB := Lib.hid hown
                  have HBPB := Lib.hid hb'
                  clear hown hBk hb' g0 g1 g2 g3
                  go_wp2_with (at_builtin; refine wpList_append_rd rfl (.tmp 62) (.tmp 65) 25 rfl wS.heap.size 38 4 48 (.agg #[.string ⟨#[]⟩, .int .i64 0, .int .i64 0, .string ⟨#[]⟩]) Try.underlying25 info_ent rfl (by decide) vPB _ (k + 1) (O.length - k) ((O.take k).flatMap Ent.cells ++ [X].flatMap Ent.cells) ((O.drop k).flatMap Ent.cells) rfl rfl (HOPB.out) ?rdFC (entFlat_one _) ?bbFC ?l1FC ?l2FC ?kkFC)
                  case rdFC => exact ⟨_, 0, rfl, by omega, Nat.zero_le _, by rw [flat_length, List.length_drop], .inl ⟨by omega, fun h => by cases h⟩⟩
                  case bbFC => exact HBPB.out.size
                  case l1FC => omega
                  case l2FC => (unfold maxLen; omega)
                  case kkFC =>
                    intro vPC wPC hown hBk
                    have HBPC := Lib.hid (HBS.out.trans ((hBk wS.heap.size wS (Nat.le_refl _) HBPB.out).mono HBS.out.size))
                    have HFIN := Lib.hid (sorted_done HINS.out.1 HINS.out.2 (Nat.le_trans HB.out.size HBS.out.size) hown)
                    clear hown hBk
                    go_wp2
                    exact ⟨⟨i + 1, hlti, by go_num, Lib.hid (by rw [HST.out]; exact HFIN.out), Lib.hid (HB.out.trans (HBPC.out.mono HB.out.size))⟩, by simp [intOf]; omega⟩
    · have hli : ¬ (i : Int) < (es.length : Int) := by omega
      have HFI := Lib.hid (show es.take i = es from List.take_of_length_le (by omega))
      rw [HFI.out] at HO
      go_wp2
      go_ret
      exact ⟨_, rfl, HO.out, HB.out⟩
end Go.Proofs.Ytnmmeaoapfampaa
