/-
  The walk of MemOrder: it does not hang on the order in which entries came, nor on heights; all rise.
-/
import Derived.Test.YtjiefffmcohcbaaMemTwo
namespace Go.Proofs.Ytjiefffmcohcbaa
open Go.RowKit

set_option maxRecDepth 100000 in
set_option maxHeartbeats 32000000 in
theorem memOrder_walk (v0 : Value) (l : List Ent) (v1 : Value) (hs : List Int) (v2 : Value) (ks : List Int) (W : World) (h0 : RdE W v0 l) (h1 : RdI .i64 W v1 hs) (h2 : RdI .i64 W v2 ks) :
    Calls Try.prog 4 #[v0, v1, v2] W fun r w' => r = .returned (.bool true) ∧ Below W.heap.size W w' := by
  obtain ⟨a0, c0, rfl, x0⟩ := h0.one
  obtain ⟨a1, c1, rfl, x1⟩ := h1.at_
  obtain ⟨a2, c2, rfl, x2⟩ := h2.at_
  have X0 := Lib.hid x0
  have X1 := Lib.hid x1
  have X2 := Lib.hid x2
  have HNW := Lib.hid (mo_new W)
  clear x0 x1 x2 h0 h1 h2
  go_enter Try.func4, Try.ntmps4
  by_cases g0 : 60 < l.length
  · skip
    go_wp2_with (go_at_call 7; (refine (awake10_any _).mono ?_); rintro r wZ ⟨rfl, hbZ⟩)
    go_ret
    exact ⟨rfl, hbZ⟩
  by_cases g1 : hs.length < l.length
  · skip
    go_wp2_with (go_at_call 7; (refine (awake10_any _).mono ?_); rintro r wZ ⟨rfl, hbZ⟩)
    go_ret
    exact ⟨rfl, hbZ⟩
  by_cases g2 : ks.length < l.length
  · skip
    go_wp2_with (go_at_call 7; (refine (awake10_any _).mono ?_); rintro r wZ ⟨rfl, hbZ⟩)
    go_ret
    exact ⟨rfl, hbZ⟩
  have n0 : (l.length : Int) ≤ 60 := by omega
  have n1 : (l.length : Int) ≤ (hs.length : Int) := by omega
  have n2 : (l.length : Int) ≤ (ks.length : Int) := by omega
  go_wp2_with (first | (go_at_call 8; (with_reducible refine HNW.out.mono ?_); rintro r w1 ⟨p, F, rfl, hm1, hf1, hb1⟩; (have HM1 := Lib.hid hm1); (have HF1 := Lib.hid hf1); (have HB1 := Lib.hid hb1); (have HN2 := Lib.hid (mo_new w1)); clear hm1 hf1 hb1) | (go_at_call 8; (with_reducible refine HN2.out.mono ?_); rintro r w2 ⟨q, G, rfl, hm2, hf2, hb2⟩; (have HTW0 := Lib.hid (tm_start HM1.out HF1.out HB1.out hm2 hf2 hb2)); clear hm2 hf2 hb2))
  go_loopw [9] (fun i wr => ∃ k : Nat, k ≤ l.length ∧ i = .int .i64 (k : Int) ∧ Hid (TwoM W wr p q (build (l.take k)) []) ∧ Hid (Seen l k)) (fun i _ => l.length - (intOf i).toNat)
  case atStart => exact ⟨0, Nat.zero_le _, rfl, HTW0, Lib.hid (fun a h => by omega)⟩
  case round =>
    obtain ⟨k, hk, rfl, HTWR, HSE⟩ := hrel
    by_cases hlt : k < l.length
    · obtain ⟨xb, xo, hxa, hxb, x0, x1, x2, x3, hXf⟩ := X0.out k hlt
      obtain ⟨hb, ho, hha, hhb, x4, _⟩ := X1.out k (by omega)
      have HL0 := X0
      subst hxa hha
      have HBT := Lib.hid (build_take hlt)
      have HLK : Hid ((build (l.take k)).length < 100000) := Lib.hid (by have h1 := build_len (l.take k); rw [List.length_take] at h1; omega)
      have hlh : (k : Int) < (hs.length : Int) := by omega
      generalize hX : l.getD k Ent.none_ = X at *
      have HX := Lib.hid hX
      have HXF := Lib.hid hXf
      generalize hs.getD k 0 = hgt at *
      clear hXf hX
      have z0 := (HTWR.out.bel.cell (p := ⟨xb, xo + k * 4, none⟩) hxb).trans x0
      have z3 := (HTWR.out.bel.cell (p := ⟨xb, xo + k * 4 + 3, none⟩) hxb).trans x3
      by_cases g5 : 500 < X.u.size
      · skip
        go_wp2_with (go_at_call 7; (refine (awake10_any _).mono ?_); rintro r wZ ⟨rfl, hbZ⟩)
        go_ret
        exact ⟨rfl, belowT HTWR.out.bel hbZ⟩
      by_cases g6 : 1000 < X.v.size
      · skip
        go_wp2_with (go_at_call 7; (refine (awake10_any _).mono ?_); rintro r wZ ⟨rfl, hbZ⟩)
        go_ret
        exact ⟨rfl, belowT HTWR.out.bel hbZ⟩
      have n5 : (X.u.size : Int) ≤ 500 := by omega
      have n6 : (X.v.size : Int) ≤ 1000 := by omega
      go_wp2
      clear z0 z3
      go_loopw [10] (fun j wr => ∃ m : Nat, m ≤ k ∧ j = .int .i64 (m : Int) ∧ Hid (TwoM W wr p q (build (l.take k)) []) ∧ Hid (∀ b, b < m → (l.getD b Ent.none_).cmp X = 0 → l.getD b Ent.none_ = X)) (fun j _ => k - (intOf j).toNat)
      case atStart => exact ⟨0, Nat.zero_le _, rfl, HTWR, Lib.hid (fun b h => by omega)⟩
      case round =>
        obtain ⟨j, hj, rfl, HTJ, HSJ⟩ := hrel
        by_cases hjk : j < k
        · obtain ⟨yb, yo, hya, _, y0, y1, y2, y3, _⟩ := HL0.out j (by omega)
          cases hya
          replace y0 := (HTJ.out.bel.cell (p := ⟨xb, xo + j * 4, none⟩) hxb).trans y0
          replace y1 := (HTJ.out.bel.cell (p := ⟨xb, xo + j * 4 + 1, none⟩) hxb).trans y1
          replace y2 := (HTJ.out.bel.cell (p := ⟨xb, xo + j * 4 + 2, none⟩) hxb).trans y2
          replace y3 := (HTJ.out.bel.cell (p := ⟨xb, xo + j * 4 + 3, none⟩) hxb).trans y3
          have z0 := (HTJ.out.bel.cell (p := ⟨xb, xo + k * 4, none⟩) hxb).trans x0
          have z1 := (HTJ.out.bel.cell (p := ⟨xb, xo + k * 4 + 1, none⟩) hxb).trans x1
          have z2 := (HTJ.out.bel.cell (p := ⟨xb, xo + k * 4 + 2, none⟩) hxb).trans x2
          have z3 := (HTJ.out.bel.cell (p := ⟨xb, xo + k * 4 + 3, none⟩) hxb).trans x3
          have HMORE := Lib.hid (show ((l.getD j Ent.none_).cmp X = 0 → l.getD j Ent.none_ = X) → ∀ b, b < j + 1 → (l.getD b Ent.none_).cmp X = 0 → l.getD b Ent.none_ = X from fun h2 b hb => by
            rcases Nat.lt_or_ge b j with h1 | h1
            · exact HSJ.out b h1
            · obtain rfl : b = j := by omega
              exact h2)
          have hjl : (j : Int) < (l.length : Int) := by omega
          generalize l.getD j Ent.none_ = Y at *
          obtain ⟨yu, ys, yk, yv⟩ := Y
          simp only at y0 y1 y2 y3
          by_cases hkey : yu = X.u ∧ ys = X.s ∧ yk = X.k
          · obtain ⟨e1, e2, e3⟩ := hkey
            subst e1 e2 e3
            by_cases hval : yv = X.v
            · subst hval
              have HN := Lib.hid (HMORE.out fun _ => rfl)
              clear HMORE
              go_wp2
              refine wp_region_plan [(true, 0), (true, 1), (true, 2), (true, 3), (true, 4), (true, 5), (true, 6), (true, 7), (true, 8), (true, 9), (true, 10), (true, 11), (true, 12), (true, 13), (true, 14), (true, 15), (true, 16), (true, 17), (true, 18), (true, 19), (true, 20), (true, 21)] (by kernel_rfl) (by kernel_rfl) (by kernel_rfl) (by kernel_rfl) (by kernel_rfl) ?_
              simp only [planO, List.drop_succ_cons, List.drop_zero]
              refine PlanO.take (v := ?va0) (by kernel_rfl) ?ya0 ?ra0
              case ya0 => (intro wz hz; go_simp; try with_reducible rfl)
              (try simp only [Act.put, List.setIfInBounds_toArray, List.set_cons_zero, List.set_cons_succ])
              refine PlanO.take (v := ?va1) (by kernel_rfl) ?ya1 ?ra1
              case ya1 => (intro wz hz; go_simp; try with_reducible rfl)
              (try simp only [Act.put, List.setIfInBounds_toArray, List.set_cons_zero, List.set_cons_succ])
              refine PlanO.take (v := ?va2) (by kernel_rfl) ?ya2 ?ra2
              case ya2 => (intro wz hz; go_simp; try with_reducible rfl)
              (try simp only [Act.put, List.setIfInBounds_toArray, List.set_cons_zero, List.set_cons_succ])
              refine PlanO.take (v := ?va3) (by kernel_rfl) ?ya3 ?ra3
              case ya3 => (intro wz hz; go_simp; try with_reducible rfl)
              (try simp only [Act.put, List.setIfInBounds_toArray, List.set_cons_zero, List.set_cons_succ])
              refine PlanO.take (v := ?va4) (by kernel_rfl) ?ya4 ?ra4
              case ya4 => (intro wz hz; have c0 := Ext.at_ hz y0; have c1 := Ext.at_ hz y1; have c2 := Ext.at_ hz y2; have c3 := Ext.at_ hz y3; go_simp; try with_reducible rfl)
              (try simp only [Act.put, List.setIfInBounds_toArray, List.set_cons_zero, List.set_cons_succ])
              refine PlanO.take (v := ?va5) (by kernel_rfl) ?ya5 ?ra5
              case ya5 => (intro wz hz; go_simp; try with_reducible rfl)
              (try simp only [Act.put, List.setIfInBounds_toArray, List.set_cons_zero, List.set_cons_succ])
              refine PlanO.take (v := ?va6) (by kernel_rfl) ?ya6 ?ra6
              case ya6 => (intro wz hz; go_simp; try with_reducible rfl)
              (try simp only [Act.put, List.setIfInBounds_toArray, List.set_cons_zero, List.set_cons_succ])
              refine PlanO.take (v := ?va7) (by kernel_rfl) ?ya7 ?ra7
              case ya7 => (intro wz hz; go_simp; try with_reducible rfl)
              (try simp only [Act.put, List.setIfInBounds_toArray, List.set_cons_zero, List.set_cons_succ])
              refine PlanO.take (v := ?va8) (by kernel_rfl) ?ya8 ?ra8
              case ya8 => (intro wz hz; go_simp; try with_reducible rfl)
              (try simp only [Act.put, List.setIfInBounds_toArray, List.set_cons_zero, List.set_cons_succ])
              refine PlanO.take (v := ?va9) (by kernel_rfl) ?ya9 ?ra9
              case ya9 => (intro wz hz; have d0 := Ext.at_ hz z0; have d1 := Ext.at_ hz z1; have d2 := Ext.at_ hz z2; have d3 := Ext.at_ hz z3; go_simp; try with_reducible rfl)
              (try simp only [Act.put, List.setIfInBounds_toArray, List.set_cons_zero, List.set_cons_succ])
              refine PlanO.take (v := .bool true) (by kernel_rfl) ?ya10 ?ra10
              case ya10 => (intro wz hz; go_simp; try with_reducible rfl)
              (try simp only [Act.put, List.setIfInBounds_toArray, List.set_cons_zero, List.set_cons_succ])
              refine PlanO.take (v := ?va11) (by kernel_rfl) ?ya11 ?ra11
              case ya11 => (intro wz hz; go_simp; try with_reducible rfl)
              (try simp only [Act.put, List.setIfInBounds_toArray, List.set_cons_zero, List.set_cons_succ])
              refine PlanO.take (v := ?va12) (by kernel_rfl) ?ya12 ?ra12
              case ya12 => (intro wz hz; go_simp; try with_reducible rfl)
              (try simp only [Act.put, List.setIfInBounds_toArray, List.set_cons_zero, List.set_cons_succ])
              refine PlanO.take (v := ?va13) (by kernel_rfl) ?ya13 ?ra13
              case ya13 => (intro wz hz; go_simp; try with_reducible rfl)
              (try simp only [Act.put, List.setIfInBounds_toArray, List.set_cons_zero, List.set_cons_succ])
              refine PlanO.take (v := ?va14) (by kernel_rfl) ?ya14 ?ra14
              case ya14 => (intro wz hz; go_simp; try with_reducible rfl)
              (try simp only [Act.put, List.setIfInBounds_toArray, List.set_cons_zero, List.set_cons_succ])
              refine PlanO.take (v := ?va15) (by kernel_rfl) ?ya15 ?ra15
              case ya15 => (intro wz hz; have c0 := Ext.at_ hz y0; have c1 := Ext.at_ hz y1; have c2 := Ext.at_ hz y2; have c3 := Ext.at_ hz y3; go_simp; try with_reducible rfl)
              (try simp only [Act.put, List.setIfInBounds_toArray, List.set_cons_zero, List.set_cons_succ])
              refine PlanO.take (v := ?va16) (by kernel_rfl) ?ya16 ?ra16
              case ya16 => (intro wz hz; go_simp; try with_reducible rfl)
              (try simp only [Act.put, List.setIfInBounds_toArray, List.set_cons_zero, List.set_cons_succ])
              refine PlanO.take (v := ?va17) (by kernel_rfl) ?ya17 ?ra17
              case ya17 => (intro wz hz; go_simp; try with_reducible rfl)
              (try simp only [Act.put, List.setIfInBounds_toArray, List.set_cons_zero, List.set_cons_succ])
              refine PlanO.take (v := ?va18) (by kernel_rfl) ?ya18 ?ra18
              case ya18 => (intro wz hz; go_simp; try with_reducible rfl)
              (try simp only [Act.put, List.setIfInBounds_toArray, List.set_cons_zero, List.set_cons_succ])
              refine PlanO.take (v := ?va19) (by kernel_rfl) ?ya19 ?ra19
              case ya19 => (intro wz hz; have d0 := Ext.at_ hz z0; have d1 := Ext.at_ hz z1; have d2 := Ext.at_ hz z2; have d3 := Ext.at_ hz z3; go_simp; try with_reducible rfl)
              (try simp only [Act.put, List.setIfInBounds_toArray, List.set_cons_zero, List.set_cons_succ])
              refine PlanO.take (v := .bool false) (by kernel_rfl) ?ya20 ?ra20
              case ya20 => (intro wz hz; go_simp; try with_reducible rfl)
              (try simp only [Act.put, List.setIfInBounds_toArray, List.set_cons_zero, List.set_cons_succ])
              refine PlanO.take (v := ?va21) (by kernel_rfl) ?ya21 ?ra21
              case ya21 => (intro wz hz; go_simp; try with_reducible rfl)
              (try simp only [Act.put, List.setIfInBounds_toArray, List.set_cons_zero, List.set_cons_succ])
              refine PlanO.done (NoPanic.normal ?_)
              go_wp2
              refine ⟨⟨j + 1, hjk, by go_num, Lib.hid (HTJ.out.below (Below.refl _ _).drew), HN⟩, ?_⟩
              simp [intOf]; omega
            · have hvt : ¬ yv.toList = X.v.toList := fun e => hval (ByteArray.ext (Array.toList_inj.1 (by rw [toList_data, toList_data] at e; exact e)))
              clear HMORE
              go_wp2
              refine wp_region_plan [(true, 0), (true, 1), (true, 2), (true, 3), (true, 4), (true, 5), (true, 6), (true, 7), (true, 8), (true, 9), (true, 10), (true, 11), (true, 12), (true, 13), (true, 14), (true, 15), (true, 16), (true, 17), (true, 18), (true, 19), (true, 20), (true, 21)] (by kernel_rfl) (by kernel_rfl) (by kernel_rfl) (by kernel_rfl) (by kernel_rfl) ?_
              simp only [planO, List.drop_succ_cons, List.drop_zero]
              refine PlanO.take (v := ?vb0) (by kernel_rfl) ?yb0 ?rb0
              case yb0 => (intro wz hz; go_simp; try with_reducible rfl)
              (try simp only [Act.put, List.setIfInBounds_toArray, List.set_cons_zero, List.set_cons_succ])
              refine PlanO.take (v := ?vb1) (by kernel_rfl) ?yb1 ?rb1
              case yb1 => (intro wz hz; go_simp; try with_reducible rfl)
              (try simp only [Act.put, List.setIfInBounds_toArray, List.set_cons_zero, List.set_cons_succ])
              refine PlanO.take (v := ?vb2) (by kernel_rfl) ?yb2 ?rb2
              case yb2 => (intro wz hz; go_simp; try with_reducible rfl)
              (try simp only [Act.put, List.setIfInBounds_toArray, List.set_cons_zero, List.set_cons_succ])
              refine PlanO.take (v := ?vb3) (by kernel_rfl) ?yb3 ?rb3
              case yb3 => (intro wz hz; go_simp; try with_reducible rfl)
              (try simp only [Act.put, List.setIfInBounds_toArray, List.set_cons_zero, List.set_cons_succ])
              refine PlanO.take (v := ?vb4) (by kernel_rfl) ?yb4 ?rb4
              case yb4 => (intro wz hz; have c0 := Ext.at_ hz y0; have c1 := Ext.at_ hz y1; have c2 := Ext.at_ hz y2; have c3 := Ext.at_ hz y3; go_simp; try with_reducible rfl)
              (try simp only [Act.put, List.setIfInBounds_toArray, List.set_cons_zero, List.set_cons_succ])
              refine PlanO.take (v := ?vb5) (by kernel_rfl) ?yb5 ?rb5
              case yb5 => (intro wz hz; go_simp; try with_reducible rfl)
              (try simp only [Act.put, List.setIfInBounds_toArray, List.set_cons_zero, List.set_cons_succ])
              refine PlanO.take (v := ?vb6) (by kernel_rfl) ?yb6 ?rb6
              case yb6 => (intro wz hz; go_simp; try with_reducible rfl)
              (try simp only [Act.put, List.setIfInBounds_toArray, List.set_cons_zero, List.set_cons_succ])
              refine PlanO.take (v := ?vb7) (by kernel_rfl) ?yb7 ?rb7
              case yb7 => (intro wz hz; go_simp; try with_reducible rfl)
              (try simp only [Act.put, List.setIfInBounds_toArray, List.set_cons_zero, List.set_cons_succ])
              refine PlanO.take (v := ?vb8) (by kernel_rfl) ?yb8 ?rb8
              case yb8 => (intro wz hz; go_simp; try with_reducible rfl)
              (try simp only [Act.put, List.setIfInBounds_toArray, List.set_cons_zero, List.set_cons_succ])
              refine PlanO.take (v := ?vb9) (by kernel_rfl) ?yb9 ?rb9
              case yb9 => (intro wz hz; have d0 := Ext.at_ hz z0; have d1 := Ext.at_ hz z1; have d2 := Ext.at_ hz z2; have d3 := Ext.at_ hz z3; go_simp; try with_reducible rfl)
              (try simp only [Act.put, List.setIfInBounds_toArray, List.set_cons_zero, List.set_cons_succ])
              refine PlanO.take (v := .bool true) (by kernel_rfl) ?yb10 ?rb10
              case yb10 => (intro wz hz; go_simp; try with_reducible rfl)
              (try simp only [Act.put, List.setIfInBounds_toArray, List.set_cons_zero, List.set_cons_succ])
              refine PlanO.take (v := ?vb11) (by kernel_rfl) ?yb11 ?rb11
              case yb11 => (intro wz hz; go_simp; try with_reducible rfl)
              (try simp only [Act.put, List.setIfInBounds_toArray, List.set_cons_zero, List.set_cons_succ])
              refine PlanO.take (v := ?vb12) (by kernel_rfl) ?yb12 ?rb12
              case yb12 => (intro wz hz; go_simp; try with_reducible rfl)
              (try simp only [Act.put, List.setIfInBounds_toArray, List.set_cons_zero, List.set_cons_succ])
              refine PlanO.take (v := ?vb13) (by kernel_rfl) ?yb13 ?rb13
              case yb13 => (intro wz hz; go_simp; try with_reducible rfl)
              (try simp only [Act.put, List.setIfInBounds_toArray, List.set_cons_zero, List.set_cons_succ])
              refine PlanO.take (v := ?vb14) (by kernel_rfl) ?yb14 ?rb14
              case yb14 => (intro wz hz; go_simp; try with_reducible rfl)
              (try simp only [Act.put, List.setIfInBounds_toArray, List.set_cons_zero, List.set_cons_succ])
              refine PlanO.take (v := ?vb15) (by kernel_rfl) ?yb15 ?rb15
              case yb15 => (intro wz hz; have c0 := Ext.at_ hz y0; have c1 := Ext.at_ hz y1; have c2 := Ext.at_ hz y2; have c3 := Ext.at_ hz y3; go_simp; try with_reducible rfl)
              (try simp only [Act.put, List.setIfInBounds_toArray, List.set_cons_zero, List.set_cons_succ])
              refine PlanO.take (v := ?vb16) (by kernel_rfl) ?yb16 ?rb16
              case yb16 => (intro wz hz; go_simp; try with_reducible rfl)
              (try simp only [Act.put, List.setIfInBounds_toArray, List.set_cons_zero, List.set_cons_succ])
              refine PlanO.take (v := ?vb17) (by kernel_rfl) ?yb17 ?rb17
              case yb17 => (intro wz hz; go_simp; try with_reducible rfl)
              (try simp only [Act.put, List.setIfInBounds_toArray, List.set_cons_zero, List.set_cons_succ])
              refine PlanO.take (v := ?vb18) (by kernel_rfl) ?yb18 ?rb18
              case yb18 => (intro wz hz; go_simp; try with_reducible rfl)
              (try simp only [Act.put, List.setIfInBounds_toArray, List.set_cons_zero, List.set_cons_succ])
              refine PlanO.take (v := ?vb19) (by kernel_rfl) ?yb19 ?rb19
              case yb19 => (intro wz hz; have d0 := Ext.at_ hz z0; have d1 := Ext.at_ hz z1; have d2 := Ext.at_ hz z2; have d3 := Ext.at_ hz z3; go_simp; try with_reducible rfl)
              (try simp only [Act.put, List.setIfInBounds_toArray, List.set_cons_zero, List.set_cons_succ])
              refine PlanO.take (v := .bool true) (by kernel_rfl) ?yb20 ?rb20
              case yb20 => (intro wz hz; go_simp; try exact hvt; try simp [hvt])
              (try simp only [Act.put, List.setIfInBounds_toArray, List.set_cons_zero, List.set_cons_succ])
              refine PlanO.take (v := ?vb21) (by kernel_rfl) ?yb21 ?rb21
              case yb21 => (intro wz hz; go_simp; try with_reducible rfl)
              (try simp only [Act.put, List.setIfInBounds_toArray, List.set_cons_zero, List.set_cons_succ])
              refine PlanO.done (NoPanic.normal ?_)
              go_wp2_with (go_at_call 7; (refine (awake10_any _).mono ?_); rintro r wZ ⟨rfl, hbZ⟩)
              go_ret
              exact ⟨rfl, belowT HTJ.out.bel.drew hbZ⟩
          · have hne : ¬ (yu.toList = X.u.toList ∧ ys = X.s ∧ yk = X.k) := fun h => hkey ⟨ByteArray.ext (Array.toList_inj.1 (by have := h.1; rw [toList_data, toList_data] at this; exact this)), h.2⟩
            have HNE := Lib.hid hne
            have HN := Lib.hid (HMORE.out fun h0 => absurd ((cmp_zero _ _).1 h0) hkey)
            clear HMORE hkey hne
            go_wp2
            refine wp_region_plan [(true, 0), (true, 1), (true, 2), (true, 3), (true, 4), (true, 5), (true, 6), (true, 7), (true, 8), (true, 9), (true, 10), (true, 11), (true, 12), (true, 13), (true, 14), (true, 15), (true, 16), (true, 17), (true, 18), (true, 19), (true, 20), (true, 21)] (by kernel_rfl) (by kernel_rfl) (by kernel_rfl) (by kernel_rfl) (by kernel_rfl) ?_
            simp only [planO, List.drop_succ_cons, List.drop_zero]
            refine PlanO.take (v := ?vc0) (by kernel_rfl) ?yc0 ?rc0
            case yc0 => (intro wz hz; go_simp; try with_reducible rfl)
            (try simp only [Act.put, List.setIfInBounds_toArray, List.set_cons_zero, List.set_cons_succ])
            refine PlanO.take (v := ?vc1) (by kernel_rfl) ?yc1 ?rc1
            case yc1 => (intro wz hz; go_simp; try with_reducible rfl)
            (try simp only [Act.put, List.setIfInBounds_toArray, List.set_cons_zero, List.set_cons_succ])
            refine PlanO.take (v := ?vc2) (by kernel_rfl) ?yc2 ?rc2
            case yc2 => (intro wz hz; go_simp; try with_reducible rfl)
            (try simp only [Act.put, List.setIfInBounds_toArray, List.set_cons_zero, List.set_cons_succ])
            refine PlanO.take (v := ?vc3) (by kernel_rfl) ?yc3 ?rc3
            case yc3 => (intro wz hz; go_simp; try with_reducible rfl)
            (try simp only [Act.put, List.setIfInBounds_toArray, List.set_cons_zero, List.set_cons_succ])
            refine PlanO.take (v := ?vc4) (by kernel_rfl) ?yc4 ?rc4
            case yc4 => (intro wz hz; have c0 := Ext.at_ hz y0; have c1 := Ext.at_ hz y1; have c2 := Ext.at_ hz y2; have c3 := Ext.at_ hz y3; go_simp; try with_reducible rfl)
            (try simp only [Act.put, List.setIfInBounds_toArray, List.set_cons_zero, List.set_cons_succ])
            refine PlanO.take (v := ?vc5) (by kernel_rfl) ?yc5 ?rc5
            case yc5 => (intro wz hz; go_simp; try with_reducible rfl)
            (try simp only [Act.put, List.setIfInBounds_toArray, List.set_cons_zero, List.set_cons_succ])
            refine PlanO.take (v := ?vc6) (by kernel_rfl) ?yc6 ?rc6
            case yc6 => (intro wz hz; go_simp; try with_reducible rfl)
            (try simp only [Act.put, List.setIfInBounds_toArray, List.set_cons_zero, List.set_cons_succ])
            refine PlanO.take (v := ?vc7) (by kernel_rfl) ?yc7 ?rc7
            case yc7 => (intro wz hz; go_simp; try with_reducible rfl)
            (try simp only [Act.put, List.setIfInBounds_toArray, List.set_cons_zero, List.set_cons_succ])
            refine PlanO.take (v := ?vc8) (by kernel_rfl) ?yc8 ?rc8
            case yc8 => (intro wz hz; go_simp; try with_reducible rfl)
            (try simp only [Act.put, List.setIfInBounds_toArray, List.set_cons_zero, List.set_cons_succ])
            refine PlanO.take (v := ?vc9) (by kernel_rfl) ?yc9 ?rc9
            case yc9 => (intro wz hz; have d0 := Ext.at_ hz z0; have d1 := Ext.at_ hz z1; have d2 := Ext.at_ hz z2; have d3 := Ext.at_ hz z3; go_simp; try with_reducible rfl)
            (try simp only [Act.put, List.setIfInBounds_toArray, List.set_cons_zero, List.set_cons_succ])
            refine PlanO.take (v := .bool false) (by kernel_rfl) ?yc10 ?rc10
            case yc10 => (intro wz hz; go_simp; exact fun a b c => HNE.out ⟨a, b, c⟩)
            (try simp only [Act.put, List.setIfInBounds_toArray, List.set_cons_zero, List.set_cons_succ])
            refine PlanO.take (v := ?vc11) (by kernel_rfl) ?yc11 ?rc11
            case yc11 => (intro wz hz; go_simp; try with_reducible rfl)
            (try simp only [Act.put, List.setIfInBounds_toArray, List.set_cons_zero, List.set_cons_succ])
            refine PlanO.skip (by kernel_rfl) ?_
            (try simp only [Act.put, List.setIfInBounds_toArray, List.set_cons_zero, List.set_cons_succ])
            refine PlanO.skip (by kernel_rfl) ?_
            (try simp only [Act.put, List.setIfInBounds_toArray, List.set_cons_zero, List.set_cons_succ])
            refine PlanO.skip (by kernel_rfl) ?_
            (try simp only [Act.put, List.setIfInBounds_toArray, List.set_cons_zero, List.set_cons_succ])
            refine PlanO.skip (by kernel_rfl) ?_
            (try simp only [Act.put, List.setIfInBounds_toArray, List.set_cons_zero, List.set_cons_succ])
            refine PlanO.skip (by kernel_rfl) ?_
            (try simp only [Act.put, List.setIfInBounds_toArray, List.set_cons_zero, List.set_cons_succ])
            refine PlanO.skip (by kernel_rfl) ?_
            (try simp only [Act.put, List.setIfInBounds_toArray, List.set_cons_zero, List.set_cons_succ])
            refine PlanO.skip (by kernel_rfl) ?_
            (try simp only [Act.put, List.setIfInBounds_toArray, List.set_cons_zero, List.set_cons_succ])
            refine PlanO.skip (by kernel_rfl) ?_
            (try simp only [Act.put, List.setIfInBounds_toArray, List.set_cons_zero, List.set_cons_succ])
            refine PlanO.skip (by kernel_rfl) ?_
            (try simp only [Act.put, List.setIfInBounds_toArray, List.set_cons_zero, List.set_cons_succ])
            refine PlanO.take (v := ?vc21) (by kernel_rfl) ?yc21 ?rc21
            case yc21 => (intro wz hz; go_simp; try with_reducible rfl)
            (try simp only [Act.put, List.setIfInBounds_toArray, List.set_cons_zero, List.set_cons_succ])
            refine PlanO.done (NoPanic.normal ?_)
            go_wp2
            refine ⟨⟨j + 1, hjk, by go_num, Lib.hid (HTJ.out.below (Below.refl _ _).drew), HN⟩, ?_⟩
            simp [intOf]; omega
        · have hje : j = k := by omega
          have HSK : Hid (Seen l (k + 1)) := Lib.hid (fun a ha b hb hc => by
            rcases Nat.lt_or_ge a k with h1 | h1
            · exact HSE.out a h1 b hb hc
            · obtain rfl : a = k := by omega
              rw [HX.out] at hc ⊢
              exact HSJ.out b (by omega) hc)
          clear hje
          obtain ⟨w5, hw5⟩ : ∃ w5, w5 = wr.drew := ⟨_, rfl⟩
          have htw5 : TwoM W w5 p q (build (l.take k)) [] := by rw [hw5]; exact HTJ.out.below (Below.refl _ _).drew
          have Hw5 := Lib.hid hw5
          have HTW := Lib.hid htw5
          have hadd := tm_add htw5 X HXF.out hgt HLK.out
          have HADD := Lib.hid hadd
          clear hw5 htw5 hadd
          go_wp2
          refine wp_region_two (fun wz => Below W.heap.size W wz) (fun wz => Below W.heap.size W wz) [(0, 0), (0, 1), (0, 2), (0, 3), (0, 4), (0, 5), (0, 6), (0, 7), (0, 8), (2, 9)] [] (by kernel_rfl) (by kernel_rfl) (by kernel_rfl) (by kernel_rfl) (by kernel_rfl) (by rw [← Hw5.out]; exact HTW.out.bel) (by rw [← Hw5.out]; exact HTW.out.bel) ?_
          simp only [planT, List.drop_succ_cons, List.drop_zero]
          rw [← Hw5.out]
          refine PlanT.take0 (v := ?vR0) (by kernel_rfl) ?yR0 ?rR0
          case yR0 => (intro wz hz; go_simp; try with_reducible rfl)
          (try simp only [Act.put, List.setIfInBounds_toArray, List.set_cons_zero, List.set_cons_succ])
          refine PlanT.take0 (v := ?vR1) (by kernel_rfl) ?yR1 ?rR1
          case yR1 => (intro wz hz; go_simp; try with_reducible rfl)
          (try simp only [Act.put, List.setIfInBounds_toArray, List.set_cons_zero, List.set_cons_succ])
          refine PlanT.take0 (v := ?vR2) (by kernel_rfl) ?yR2 ?rR2
          case yR2 => (intro wz hz; go_simp; try with_reducible rfl)
          (try simp only [Act.put, List.setIfInBounds_toArray, List.set_cons_zero, List.set_cons_succ])
          refine PlanT.take0 (v := ?vR3) (by kernel_rfl) ?yR3 ?rR3
          case yR3 => (intro wz hz; go_simp; try with_reducible rfl)
          (try simp only [Act.put, List.setIfInBounds_toArray, List.set_cons_zero, List.set_cons_succ])
          refine PlanT.take0 (v := ?vR4) (by kernel_rfl) ?yR4 ?rR4
          case yR4 => (intro wz hz; have k0 := (hz.cell (p := ⟨xb, xo + k * 4, none⟩) hxb).trans x0; have k1 := (hz.cell (p := ⟨xb, xo + k * 4 + 1, none⟩) hxb).trans x1; have k2 := (hz.cell (p := ⟨xb, xo + k * 4 + 2, none⟩) hxb).trans x2; have k3 := (hz.cell (p := ⟨xb, xo + k * 4 + 3, none⟩) hxb).trans x3; go_simp; try with_reducible rfl)
          (try simp only [Act.put, List.setIfInBounds_toArray, List.set_cons_zero, List.set_cons_succ])
          refine PlanT.take0 (v := ?vR5) (by kernel_rfl) ?yR5 ?rR5
          case yR5 => (intro wz hz; go_simp; try with_reducible rfl)
          (try simp only [Act.put, List.setIfInBounds_toArray, List.set_cons_zero, List.set_cons_succ])
          refine PlanT.take0 (v := ?vR6) (by kernel_rfl) ?yR6 ?rR6
          case yR6 => (intro wz hz; go_simp; try with_reducible rfl)
          (try simp only [Act.put, List.setIfInBounds_toArray, List.set_cons_zero, List.set_cons_succ])
          refine PlanT.take0 (v := ?vR7) (by kernel_rfl) ?yR7 ?rR7
          case yR7 => (intro wz hz; go_simp; try with_reducible rfl)
          (try simp only [Act.put, List.setIfInBounds_toArray, List.set_cons_zero, List.set_cons_succ])
          refine PlanT.take0 (v := ?vR8) (by kernel_rfl) ?yR8 ?rR8
          case yR8 => (intro wz hz; have k0 := (hz.cell (p := ⟨hb, ho + k, none⟩) hhb).trans x4; go_simp; try with_reducible rfl)
          (try simp only [Act.put, List.setIfInBounds_toArray, List.set_cons_zero, List.set_cons_succ])
          refine PlanT.exec2 (fun K hK => ⟨by kernel_rfl, ?_⟩)
          go_simp
          go_at_call 9
          (with_reducible refine HADD.out.mono ?_)
          rintro r u1 ⟨rfl, ha1⟩
          have HA1 := Lib.hid ha1
          clear ha1
          go_wp2_with fail
          refine hK.out _ _ HA1.out.bel HA1.out.bel ?_
          clear hK K
          (try simp only [Act.put, List.setIfInBounds_toArray, List.set_cons_zero, List.set_cons_succ])
          refine PlanT.done (NoPanic.normal ?_)
          go_wp2
          refine ⟨⟨k + 1, hlt, by go_num, ?_, HSK⟩, ?_⟩
          · rw [HBT.out]; exact HA1
          · simp [intOf]; omega
    · obtain rfl : k = l.length := by omega
      have hTW := HTWR.out
      rw [List.take_length] at hTW
      have HTW1 := Lib.hid hTW
      have HBE := Lib.hid (seen_build HSE.out)
      have wl : IntKind.i64.wrap ((l.length : Int) - 1) = (l.length : Int) - 1 := IntWalk.i64_in _ (by omega)
      clear hTW HTWR HSE hlt
      go_wp2
      go_loopw [11] (fun i wr => ∃ n : Nat, n ≤ l.length ∧ i = .int .i64 ((n : Int) - 1) ∧ Hid (TwoM W wr p q (build l) (build (l.drop n).reverse))) (fun i _ => (intOf i + 1).toNat)
      case atStart => exact ⟨l.length, Nat.le_refl _, rfl, by rw [List.drop_length]; exact HTW1⟩
      case round =>
        obtain ⟨n, hn, rfl, HTN⟩ := hrel
        cases n with
        | zero =>
          have htn := HTN.out
          rw [List.drop_zero, HBE.out] at htn
          have HTN2 := Lib.hid htn
          have hup := htn.up
          have HLL : Hid ((build l).length < 100000) := Lib.hid (by have := build_len l; omega)
          have HUP := Lib.hid hup
          have e0 : ((0 : Nat) : Int) - 1 = -1 := rfl
          rw [e0]
          clear e0 htn hup HTN HTW1 HBE
          generalize build l = L at *
          go_wp2_with (first | (go_at_call 15; (with_reducible refine (tm_all HTN2.out HLL.out).mono ?_); rintro r u1 ⟨va, rfl, hva, hb1⟩; (have HT1 := Lib.hid (HTN2.out.below hb1)); (obtain ⟨pa, ca, hvs, _, _⟩ := hva.form); subst hvs; (have HVA := Lib.hid hva); clear hva hb1) | (go_at_call 18; (refine (rises_all HVA.out HUP.out.1 HUP.out.2).mono ?_); rintro r u2 ⟨rfl, hb2⟩; (have HT2 := Lib.hid (HT1.out.below hb2)); (have HVA2 := Lib.hid (HVA.out.below hb2)); clear hb2) | (go_at_call 15; (with_reducible refine (tm_all HT2.out.turn HLL.out).mono ?_); rintro r u3 ⟨vb, rfl, hvb, hb3⟩; (have HT3 := Lib.hid (HT2.out.below hb3)); (have HVA3 := Lib.hid (HVA2.out.below hb3)); (have HVB := Lib.hid hvb); clear hvb hb3) | (go_at_call 14; (refine (rsame_ent _ _ L _ (by have := HLL.out; omega) HVA3.out HVB.out).mono ?_); rintro r u4 ⟨rfl, hb4⟩; (have HT4 := Lib.hid (HT3.out.below hb4)); clear hb4) | (go_at_call 12; (with_reducible refine (tm_size HT4.out).mono ?_); rintro r u9 ⟨rfl, rfl⟩) | (go_at_call 12; (with_reducible refine (tm_size HT4.out.turn).mono ?_); rintro r u9 ⟨rfl, rfl⟩) | (go_at_call 11; (refine (tm_len HT4.out).mono ?_); rintro r u9 ⟨rfl, rfl⟩) | (go_at_call 7; (refine (awake10_any _).mono ?_); rintro r wZ ⟨rfl, hbZ⟩))
          go_ret
          exact ⟨rfl, belowT HT4.out.bel hbZ⟩
        | succ n =>
          have hnl : n < l.length := hn
          have e0 : ((n + 1 : Nat) : Int) - 1 = (n : Int) := by omega
          rw [e0]
          clear e0
          obtain ⟨xb, xo, hxa, hxb, x0, x1, x2, x3, hXf⟩ := X0.out n hnl
          obtain ⟨hb, ho, hha, hhb, x4, _⟩ := X2.out n (by omega)
          subst hxa hha
          have HBR := Lib.hid (build_rev hnl)
          have HLM : Hid ((build (l.drop (n + 1)).reverse).length < 100000) := Lib.hid (by have h1 := build_len (l.drop (n + 1)).reverse; rw [List.length_reverse, List.length_drop] at h1; omega)
          have hlh : (n : Int) < (ks.length : Int) := by omega
          have hln : (n : Int) < (l.length : Int) := by omega
          have wn : IntKind.i64.wrap ((n : Int) - 1) = (n : Int) - 1 := IntWalk.i64_in _ (by omega)
          generalize l.getD n Ent.none_ = X at *
          have HXF := Lib.hid hXf
          generalize ks.getD n 0 = hgt at *
          clear hXf
          obtain ⟨w5, hw5⟩ : ∃ w5, w5 = wr.drew := ⟨_, rfl⟩
          have htw5 : TwoM W w5 p q (build l) (build (l.drop (n + 1)).reverse) := by rw [hw5]; exact HTN.out.below (Below.refl _ _).drew
          have Hw5 := Lib.hid hw5
          have HTW := Lib.hid htw5
          have hadd := tm_add2 htw5 X HXF.out hgt HLM.out
          have HADD := Lib.hid hadd
          clear hw5 htw5 hadd
          go_wp2
          refine wp_region_two (fun wz => Below W.heap.size W wz) (fun wz => Below W.heap.size W wz) [(0, 0), (0, 1), (0, 2), (0, 3), (0, 4), (0, 5), (0, 6), (0, 7), (0, 8), (2, 9)] [] (by kernel_rfl) (by kernel_rfl) (by kernel_rfl) (by kernel_rfl) (by kernel_rfl) (by rw [← Hw5.out]; exact HTW.out.bel) (by rw [← Hw5.out]; exact HTW.out.bel) ?_
          simp only [planT, List.drop_succ_cons, List.drop_zero]
          rw [← Hw5.out]
          refine PlanT.take0 (v := ?vU0) (by kernel_rfl) ?yU0 ?rU0
          case yU0 => (intro wz hz; go_simp; try with_reducible rfl)
          (try simp only [Act.put, List.setIfInBounds_toArray, List.set_cons_zero, List.set_cons_succ])
          refine PlanT.take0 (v := ?vU1) (by kernel_rfl) ?yU1 ?rU1
          case yU1 => (intro wz hz; go_simp; try with_reducible rfl)
          (try simp only [Act.put, List.setIfInBounds_toArray, List.set_cons_zero, List.set_cons_succ])
          refine PlanT.take0 (v := ?vU2) (by kernel_rfl) ?yU2 ?rU2
          case yU2 => (intro wz hz; go_simp; try with_reducible rfl)
          (try simp only [Act.put, List.setIfInBounds_toArray, List.set_cons_zero, List.set_cons_succ])
          refine PlanT.take0 (v := ?vU3) (by kernel_rfl) ?yU3 ?rU3
          case yU3 => (intro wz hz; go_simp; try with_reducible rfl)
          (try simp only [Act.put, List.setIfInBounds_toArray, List.set_cons_zero, List.set_cons_succ])
          refine PlanT.take0 (v := ?vU4) (by kernel_rfl) ?yU4 ?rU4
          case yU4 => (intro wz hz; have k0 := (hz.cell (p := ⟨xb, xo + n * 4, none⟩) hxb).trans x0; have k1 := (hz.cell (p := ⟨xb, xo + n * 4 + 1, none⟩) hxb).trans x1; have k2 := (hz.cell (p := ⟨xb, xo + n * 4 + 2, none⟩) hxb).trans x2; have k3 := (hz.cell (p := ⟨xb, xo + n * 4 + 3, none⟩) hxb).trans x3; go_simp; try with_reducible rfl)
          (try simp only [Act.put, List.setIfInBounds_toArray, List.set_cons_zero, List.set_cons_succ])
          refine PlanT.take0 (v := ?vU5) (by kernel_rfl) ?yU5 ?rU5
          case yU5 => (intro wz hz; go_simp; try with_reducible rfl)
          (try simp only [Act.put, List.setIfInBounds_toArray, List.set_cons_zero, List.set_cons_succ])
          refine PlanT.take0 (v := ?vU6) (by kernel_rfl) ?yU6 ?rU6
          case yU6 => (intro wz hz; go_simp; try with_reducible rfl)
          (try simp only [Act.put, List.setIfInBounds_toArray, List.set_cons_zero, List.set_cons_succ])
          refine PlanT.take0 (v := ?vU7) (by kernel_rfl) ?yU7 ?rU7
          case yU7 => (intro wz hz; go_simp; try with_reducible rfl)
          (try simp only [Act.put, List.setIfInBounds_toArray, List.set_cons_zero, List.set_cons_succ])
          refine PlanT.take0 (v := ?vU8) (by kernel_rfl) ?yU8 ?rU8
          case yU8 => (intro wz hz; have k0 := (hz.cell (p := ⟨hb, ho + n, none⟩) hhb).trans x4; go_simp; try with_reducible rfl)
          (try simp only [Act.put, List.setIfInBounds_toArray, List.set_cons_zero, List.set_cons_succ])
          refine PlanT.exec2 (fun K hK => ⟨by kernel_rfl, ?_⟩)
          go_simp
          go_at_call 9
          (with_reducible refine HADD.out.mono ?_)
          rintro r u1 ⟨rfl, ha1⟩
          have HA1 := Lib.hid ha1
          clear ha1
          go_wp2_with fail
          refine hK.out _ _ HA1.out.bel HA1.out.bel ?_
          clear hK K
          (try simp only [Act.put, List.setIfInBounds_toArray, List.set_cons_zero, List.set_cons_succ])
          refine PlanT.done (NoPanic.normal ?_)
          go_wp2
          refine ⟨⟨n, by omega, by go_num, ?_⟩, ?_⟩
          · rw [HBR.out]; exact HA1
          · (simp [intOf]; try omega)
end Go.Proofs.Ytjiefffmcohcbaa
