/-
  Chapter 14: the document's iterator: Seek, Here, and a new one.
-/
import Derived.Test.YtabmdhbikedhmaaSeekRIter
namespace Go.Proofs.Ytabmdhbikedhmaa
open Go.RowKit

theorem RIt.own {G : Nat → Prop} {w : World} {q : Nat} {L : List Ent} {a : Int} (h : RIt G w q L a) : ∃ va vc, w.heap[q]? = some (.cells #[.slice va L.length vc, .int .i64 a] 55 (0, 0)) ∧ OwnE w 0 (.slice va L.length vc) L ∧ L.length ≤ vc ∧ vc ≤ maxLen ∧ (∀ e ∈ L, e.fits) ∧ L.length ≤ 100000 := by
  obtain ⟨v, h1, h2, _, _, h5, h6, h7⟩ := h
  obtain ⟨va, vc, rfl, h8, h9⟩ := h2.form
  exact ⟨va, vc, h1, h2, h8, h9, h5, h7⟩
theorem seek_at {L : List Ent} {u : ByteArray} {s k : Int} {j : Nat} (hj : j ≤ L.length) (h1 : ∀ i, i < j → (L.getD i Ent.none_).cmp ⟨u, s, k, ⟨#[]⟩⟩ < 0) (h2 : j < L.length → ¬ (L.getD j Ent.none_).cmp ⟨u, s, k, ⟨#[]⟩⟩ < 0) : seekN L u s k = j := by
  unfold seekN
  rw [(cutE hj h1 h2).1, List.length_take]
  omega

set_option maxRecDepth 100000 in
set_option maxHeartbeats 400000 in
theorem rseek_any {G : Nat → Prop} {w : World} {q : Nat} {L : List Ent} {a : Int} (h : RIt G w q L a) (u : ByteArray) (s k : Int) : Calls Try.prog 16 #[.pointer (some ⟨q, 0, none⟩), .agg #[.string u, .int .i64 s, .int .i64 k]] w (RMove G q L (seekN L u s k : Int) w) := by
  have HH := Lib.hid h
  obtain ⟨w0, hw0⟩ : ∃ w0, w0 = w.alloc (.cells #[.string u, .int .i64 s, .int .i64 k] 31) := ⟨_, rfl⟩
  have hb0 : Below w.heap.size w w0 := by rw [hw0]; exact (Below.refl _ _).alloc (Nat.le_refl _) _
  have hk0 : w0.heap[w.heap.size]? = some (.cells #[.string u, .int .i64 s, .int .i64 k] 31 (0, 0)) := by rw [hw0]; exact heap_alloc_new w _
  obtain ⟨va, vc, hq, hlb, hl5⟩ := (h.below hb0).cells
  have p1 := blk_cell (i := 1) hq
  have f1 := blk_free (i := 1) hq
  have H0 := Lib.hid (h.below hb0)
  have HB0 := Lib.hid hb0
  have HK0 := Lib.hid hk0
  have HGL := Lib.hid h.lt
  have HW0 := Lib.hid hw0
  clear h hq hb0 hk0
  go_enter Try.func16, Try.ntmps16
  go_upto_region 1 with (fail)
  rw [← HW0.out]
  clear HW0 hw0
  go_wp2
  have HS1 := Lib.hid (show RIt G (w0.setCell ⟨q, 1, none⟩ (.int .i64 0)) q L 0 ∧ Touch G w0 (w0.setCell ⟨q, 1, none⟩ (.int .i64 0)) from H0.out.to (Below.refl _ _) ⟨by omega, by omega⟩)
  obtain ⟨w1, hw1⟩ : ∃ w1, w1 = w0.setCell ⟨q, 1, none⟩ (.int .i64 0) := ⟨_, rfl⟩
  rw [← hw1] at HS1
  rw [← hw1]
  clear hw1 p1 f1 hlb
  go_loopw [] (fun wr => ∃ j : Nat, j ≤ L.length ∧ Hid (RIt G wr q L (j : Int) ∧ Touch G w0 wr) ∧ Hid (∀ i, i < j → (L.getD i Ent.none_).cmp ⟨u, s, k, ⟨#[]⟩⟩ < 0)) (fun wr => L.length - (intOf ((wr.cell? ⟨q, 1, none⟩).getD undef)).toNat)
  case atStart => exact ⟨0, Nat.zero_le _, HS1, Lib.hid (fun i h => by omega)⟩
  case round =>
    obtain ⟨j, hj, HR, HK⟩ := hrel
    obtain ⟨ra, rc, hqr, hor, hrc, hrm, hfi, _⟩ := HR.out.1.own
    unfold maxLen at hrm
    have p0 := blk_cell (i := 0) hqr
    have p1 := blk_cell (i := 1) hqr
    have f1 := blk_free (i := 1) hqr
    replace p0 : wr.cell? ⟨q, 0, none⟩ = some (.slice ra L.length rc) := p0
    replace p1 : wr.cell? ⟨q, 1, none⟩ = some (.int .i64 (j : Int)) := p1
    have hkr := (HR.out.2.block w.heap.size ⟨blk_lt HK0.out, fun hg => by have := HGL.out _ hg; omega⟩).trans HK0.out
    have k0 := blk_cell (i := 0) hkr
    have k1 := blk_cell (i := 1) hkr
    have k2 := blk_cell (i := 2) hkr
    replace k0 : wr.cell? ⟨w.heap.size, 0, none⟩ = some (.string u) := k0
    replace k1 : wr.cell? ⟨w.heap.size, 1, none⟩ = some (.int .i64 s) := k1
    replace k2 : wr.cell? ⟨w.heap.size, 2, none⟩ = some (.int .i64 k) := k2
    have HQR := Lib.hid hqr
    by_cases hlt : j < L.length
    · obtain ⟨xg, hva, hxg, x0, x1, x2, _⟩ := own_ent hor hlt
      subst hva
      have hC := rcmp_any (L.getD j Ent.none_).u (L.getD j Ent.none_).s (L.getD j Ent.none_).k u s k
      have hcc : cmpK (L.getD j Ent.none_).u.data.toList (L.getD j Ent.none_).s (L.getD j Ent.none_).k u.data.toList s k = (L.getD j Ent.none_).cmp ⟨u, s, k, ⟨#[]⟩⟩ := rfl
      rw [hcc] at hC
      have HAT := Lib.hid (@seek_at L u s k j hj HK.out)
      have HMORE := Lib.hid (@ent_more L ⟨u, s, k, ⟨#[]⟩⟩ j HK.out)
      have hltz : (j : Int) < (L.length : Int) := by omega
      generalize (L.getD j Ent.none_).cmp ⟨u, s, k, ⟨#[]⟩⟩ = c at *
      generalize L.getD j Ent.none_ = Y at *
      obtain ⟨yu, ys, yk, yv⟩ := Y
      simp only at x0 x1 x2 hC
      have HC := Lib.hid hC
      clear hC hcc hor hfi hkr hqr
      by_cases hneg : c < 0
      · have HN := Lib.hid (HMORE.out hneg)
        clear HMORE HAT
        go_upto_region 2 with (fail)
        refine wp_region_plan [(true, 0), (true, 1), (true, 2), (true, 3), (true, 4), (true, 5), (true, 6), (true, 7), (true, 8), (true, 9), (true, 10), (true, 11), (true, 12), (true, 13), (true, 14), (true, 15), (true, 16), (true, 17), (true, 18), (true, 19), (true, 20), (true, 21), (true, 22), (false, 23), (true, 24), (true, 25)] (by kernel_rfl) (by kernel_rfl) (by kernel_rfl) (by kernel_rfl) (by kernel_rfl) ?_
        simp only [planO, List.drop_succ_cons, List.drop_zero]
        refine PlanO.take (v := ?va0) (by kernel_rfl) ?ya0 ?ra0
        case ya0 => (intro wz hz; go_simp; try with_reducible rfl)
        (try simp only [Act.put, List.setIfInBounds_toArray, List.set_cons_zero, List.set_cons_succ])
        refine PlanO.take (v := ?va1) (by kernel_rfl) ?ya1 ?ra1
        case ya1 => (intro wz hz; go_simp; try with_reducible rfl)
        (try simp only [Act.put, List.setIfInBounds_toArray, List.set_cons_zero, List.set_cons_succ])
        refine PlanO.take (v := ?va2) (by kernel_rfl) ?ya2 ?ra2
        case ya2 => (intro wz hz; go_simp; try with_reducible rfl)
        (try simp only [Act.put, List.setIfInBounds_toArray, List.set_cons_zero, List.set_cons_succ])
        refine PlanO.take (v := ?va3) (by kernel_rfl) ?ya3 ?ra3
        case ya3 => (intro wz hz; have c0 := Ext.at_ hz p0; have c1 := Ext.at_ hz p1; go_simp; try with_reducible rfl)
        (try simp only [Act.put, List.setIfInBounds_toArray, List.set_cons_zero, List.set_cons_succ])
        refine PlanO.take (v := ?va4) (by kernel_rfl) ?ya4 ?ra4
        case ya4 => (intro wz hz; go_simp; try with_reducible rfl)
        (try simp only [Act.put, List.setIfInBounds_toArray, List.set_cons_zero, List.set_cons_succ])
        refine PlanO.take (v := ?va5) (by kernel_rfl) ?ya5 ?ra5
        case ya5 => (intro wz hz; go_simp; try with_reducible rfl)
        (try simp only [Act.put, List.setIfInBounds_toArray, List.set_cons_zero, List.set_cons_succ])
        refine PlanO.take (v := ?va6) (by kernel_rfl) ?ya6 ?ra6
        case ya6 => (intro wz hz; go_simp; try with_reducible rfl)
        (try simp only [Act.put, List.setIfInBounds_toArray, List.set_cons_zero, List.set_cons_succ])
        refine PlanO.take (v := ?va7) (by kernel_rfl) ?ya7 ?ra7
        case ya7 => (intro wz hz; have c0 := Ext.at_ hz p0; have c1 := Ext.at_ hz p1; go_simp; try with_reducible rfl)
        (try simp only [Act.put, List.setIfInBounds_toArray, List.set_cons_zero, List.set_cons_succ])
        refine PlanO.take (v := ?va8) (by kernel_rfl) ?ya8 ?ra8
        case ya8 => (intro wz hz; go_simp; try with_reducible rfl)
        (try simp only [Act.put, List.setIfInBounds_toArray, List.set_cons_zero, List.set_cons_succ])
        refine PlanO.take (v := .bool true) (by kernel_rfl) ?ya9 ?ra9
        case ya9 => (intro wz hz; go_simp; (try simp); (try omega))
        (try simp only [Act.put, List.setIfInBounds_toArray, List.set_cons_zero, List.set_cons_succ])
        refine PlanO.take (v := .bool true) (by kernel_rfl) ?ya10 ?ra10
        case ya10 => (intro wz hz; go_simp; (try simp); (try omega))
        (try simp only [Act.put, List.setIfInBounds_toArray, List.set_cons_zero, List.set_cons_succ])
        refine PlanO.take (v := ?va11) (by kernel_rfl) ?ya11 ?ra11
        case ya11 => (intro wz hz; go_simp; try with_reducible rfl)
        (try simp only [Act.put, List.setIfInBounds_toArray, List.set_cons_zero, List.set_cons_succ])
        refine PlanO.take (v := ?va12) (by kernel_rfl) ?ya12 ?ra12
        case ya12 => (intro wz hz; go_simp; try with_reducible rfl)
        (try simp only [Act.put, List.setIfInBounds_toArray, List.set_cons_zero, List.set_cons_succ])
        refine PlanO.take (v := ?va13) (by kernel_rfl) ?ya13 ?ra13
        case ya13 => (intro wz hz; go_simp; try with_reducible rfl)
        (try simp only [Act.put, List.setIfInBounds_toArray, List.set_cons_zero, List.set_cons_succ])
        refine PlanO.take (v := ?va14) (by kernel_rfl) ?ya14 ?ra14
        case ya14 => (intro wz hz; have c0 := Ext.at_ hz p0; have c1 := Ext.at_ hz p1; go_simp; try with_reducible rfl)
        (try simp only [Act.put, List.setIfInBounds_toArray, List.set_cons_zero, List.set_cons_succ])
        refine PlanO.take (v := ?va15) (by kernel_rfl) ?ya15 ?ra15
        case ya15 => (intro wz hz; go_simp; try with_reducible rfl)
        (try simp only [Act.put, List.setIfInBounds_toArray, List.set_cons_zero, List.set_cons_succ])
        refine PlanO.take (v := ?va16) (by kernel_rfl) ?ya16 ?ra16
        case ya16 => (intro wz hz; go_simp; try with_reducible rfl)
        (try simp only [Act.put, List.setIfInBounds_toArray, List.set_cons_zero, List.set_cons_succ])
        refine PlanO.take (v := ?va17) (by kernel_rfl) ?ya17 ?ra17
        case ya17 => (intro wz hz; go_simp; try with_reducible rfl)
        (try simp only [Act.put, List.setIfInBounds_toArray, List.set_cons_zero, List.set_cons_succ])
        refine PlanO.take (v := ?va18) (by kernel_rfl) ?ya18 ?ra18
        case ya18 => (intro wz hz; have c0 := Ext.at_ hz p0; have c1 := Ext.at_ hz p1; go_simp; try with_reducible rfl)
        (try simp only [Act.put, List.setIfInBounds_toArray, List.set_cons_zero, List.set_cons_succ])
        refine PlanO.take (v := ?va19) (by kernel_rfl) ?ya19 ?ra19
        case ya19 => (intro wz hz; go_simp; try with_reducible rfl)
        (try simp only [Act.put, List.setIfInBounds_toArray, List.set_cons_zero, List.set_cons_succ])
        refine PlanO.take (v := ?va20) (by kernel_rfl) ?ya20 ?ra20
        case ya20 => (intro wz hz; go_simp; try with_reducible rfl)
        (try simp only [Act.put, List.setIfInBounds_toArray, List.set_cons_zero, List.set_cons_succ])
        refine PlanO.take (v := ?va21) (by kernel_rfl) ?ya21 ?ra21
        case ya21 => (intro wz hz; have d0 := Ext.at_ hz x0; have d1 := Ext.at_ hz x1; have d2 := Ext.at_ hz x2; go_simp; try with_reducible rfl)
        (try simp only [Act.put, List.setIfInBounds_toArray, List.set_cons_zero, List.set_cons_succ])
        refine PlanO.take (v := ?va22) (by kernel_rfl) ?ya22 ?ra22
        case ya22 => (intro wz hz; have k0' := Ext.at_ hz k0; have k1' := Ext.at_ hz k1; have k2' := Ext.at_ hz k2; go_simp; try with_reducible rfl)
        (try simp only [Act.put, List.setIfInBounds_toArray, List.set_cons_zero, List.set_cons_succ])
        refine PlanO.exec (fun K hK => ?_)
        go_simp
        go_at_call 26
        refine (HC.out _).mono ?_
        rintro r u1 ⟨rfl, hb3⟩
        go_wp2_with fail
        refine hK.out _ _ hb3 ?_
        clear hK K
        (try simp only [Act.put, List.setIfInBounds_toArray, List.set_cons_zero, List.set_cons_succ])
        refine PlanO.take (v := .bool true) (by kernel_rfl) ?ya24 ?ra24
        case ya24 => (intro wz hz; go_simp; try simp; try omega)
        (try simp only [Act.put, List.setIfInBounds_toArray, List.set_cons_zero, List.set_cons_succ])
        refine PlanO.take (v := .bool true) (by kernel_rfl) ?ya25 ?ra25
        case ya25 => (intro wz hz; go_simp; try with_reducible rfl)
        (try simp only [Act.put, List.setIfInBounds_toArray, List.set_cons_zero, List.set_cons_succ])
        refine PlanO.done (NoPanic.normal ?_)
        have HBU := Lib.hid (below_draw10 hb3)
        have hqu := (HBU.out.block q (blk_lt HQR.out)).trans HQR.out
        replace p1 : u1.cell? ⟨q, 1, none⟩ = some (.int .i64 (j : Int)) := blk_cell (i := 1) hqu
        replace f1 := blk_free (i := 1) hqu
        clear hb3 hqu p0 k0 k1 k2 x0 x1 x2
        have hT := HR.out.1.to (m := (j : Int) + 1) HBU.out ⟨by omega, by omega⟩
        have HT := Lib.hid hT
        clear hT
        have j1 : IntKind.i64.wrap ((j : Int) + 1) = (j : Int) + 1 := IntWalk.i64_in _ (by omega)
        go_wp2
        refine ⟨⟨j + 1, hlt, Lib.hid ⟨?_, ?_⟩, HN⟩, ?_⟩
        · have h := HT.out.1
          rw [show ((j + 1 : Nat) : Int) = (j : Int) + 1 by omega]
          exact h
        · exact HR.out.2.trans HT.out.2 (Grows.refl _ _ _)
        · obtain ⟨_, _, hc1, _⟩ := HT.out.1.cells
          have e1 := blk_cell (i := 1) hc1
          have e0 := blk_cell (i := 1) HQR.out
          rw [e1, e0]
          simp [intOf]
          omega
      · have HR2 := Lib.hid (HAT.out (fun _ => hneg))
        clear HMORE HAT
        have hneg' : 0 ≤ c := by omega
        go_upto_region 2 with (fail)
        refine wp_region_plan [(true, 0), (true, 1), (true, 2), (true, 3), (true, 4), (true, 5), (true, 6), (true, 7), (true, 8), (true, 9), (true, 10), (true, 11), (true, 12), (true, 13), (true, 14), (true, 15), (true, 16), (true, 17), (true, 18), (true, 19), (true, 20), (true, 21), (true, 22), (false, 23), (true, 24), (true, 25)] (by kernel_rfl) (by kernel_rfl) (by kernel_rfl) (by kernel_rfl) (by kernel_rfl) ?_
        simp only [planO, List.drop_succ_cons, List.drop_zero]
        refine PlanO.take (v := ?vb0) (by kernel_rfl) ?yb0 ?rb0
        case yb0 => (intro wz hz; go_simp; try with_reducible rfl)
        (try simp only [Act.put, List.setIfInBounds_toArray, List.set_cons_zero, List.set_cons_succ])
        refine PlanO.take (v := ?vb1) (by kernel_rfl) ?yb1 ?rb1
        case yb1 => (intro wz hz; go_simp; try with_reducible rfl)
        (try simp only [Act.put, List.setIfInBounds_toArray, List.set_cons_zero, List.set_cons_succ])
        refine PlanO.take (v := ?vb2) (by kernel_rfl) ?yb2 ?rb2
        case yb2 => (intro wz hz; go_simp; try with_reducible rfl)
        (try simp only [Act.put, List.setIfInBounds_toArray, List.set_cons_zero, List.set_cons_succ])
        refine PlanO.take (v := ?vb3) (by kernel_rfl) ?yb3 ?rb3
        case yb3 => (intro wz hz; have c0 := Ext.at_ hz p0; have c1 := Ext.at_ hz p1; go_simp; try with_reducible rfl)
        (try simp only [Act.put, List.setIfInBounds_toArray, List.set_cons_zero, List.set_cons_succ])
        refine PlanO.take (v := ?vb4) (by kernel_rfl) ?yb4 ?rb4
        case yb4 => (intro wz hz; go_simp; try with_reducible rfl)
        (try simp only [Act.put, List.setIfInBounds_toArray, List.set_cons_zero, List.set_cons_succ])
        refine PlanO.take (v := ?vb5) (by kernel_rfl) ?yb5 ?rb5
        case yb5 => (intro wz hz; go_simp; try with_reducible rfl)
        (try simp only [Act.put, List.setIfInBounds_toArray, List.set_cons_zero, List.set_cons_succ])
        refine PlanO.take (v := ?vb6) (by kernel_rfl) ?yb6 ?rb6
        case yb6 => (intro wz hz; go_simp; try with_reducible rfl)
        (try simp only [Act.put, List.setIfInBounds_toArray, List.set_cons_zero, List.set_cons_succ])
        refine PlanO.take (v := ?vb7) (by kernel_rfl) ?yb7 ?rb7
        case yb7 => (intro wz hz; have c0 := Ext.at_ hz p0; have c1 := Ext.at_ hz p1; go_simp; try with_reducible rfl)
        (try simp only [Act.put, List.setIfInBounds_toArray, List.set_cons_zero, List.set_cons_succ])
        refine PlanO.take (v := ?vb8) (by kernel_rfl) ?yb8 ?rb8
        case yb8 => (intro wz hz; go_simp; try with_reducible rfl)
        (try simp only [Act.put, List.setIfInBounds_toArray, List.set_cons_zero, List.set_cons_succ])
        refine PlanO.take (v := .bool true) (by kernel_rfl) ?yb9 ?rb9
        case yb9 => (intro wz hz; go_simp; (try simp); (try omega))
        (try simp only [Act.put, List.setIfInBounds_toArray, List.set_cons_zero, List.set_cons_succ])
        refine PlanO.take (v := .bool true) (by kernel_rfl) ?yb10 ?rb10
        case yb10 => (intro wz hz; go_simp; (try simp); (try omega))
        (try simp only [Act.put, List.setIfInBounds_toArray, List.set_cons_zero, List.set_cons_succ])
        refine PlanO.take (v := ?vb11) (by kernel_rfl) ?yb11 ?rb11
        case yb11 => (intro wz hz; go_simp; try with_reducible rfl)
        (try simp only [Act.put, List.setIfInBounds_toArray, List.set_cons_zero, List.set_cons_succ])
        refine PlanO.take (v := ?vb12) (by kernel_rfl) ?yb12 ?rb12
        case yb12 => (intro wz hz; go_simp; try with_reducible rfl)
        (try simp only [Act.put, List.setIfInBounds_toArray, List.set_cons_zero, List.set_cons_succ])
        refine PlanO.take (v := ?vb13) (by kernel_rfl) ?yb13 ?rb13
        case yb13 => (intro wz hz; go_simp; try with_reducible rfl)
        (try simp only [Act.put, List.setIfInBounds_toArray, List.set_cons_zero, List.set_cons_succ])
        refine PlanO.take (v := ?vb14) (by kernel_rfl) ?yb14 ?rb14
        case yb14 => (intro wz hz; have c0 := Ext.at_ hz p0; have c1 := Ext.at_ hz p1; go_simp; try with_reducible rfl)
        (try simp only [Act.put, List.setIfInBounds_toArray, List.set_cons_zero, List.set_cons_succ])
        refine PlanO.take (v := ?vb15) (by kernel_rfl) ?yb15 ?rb15
        case yb15 => (intro wz hz; go_simp; try with_reducible rfl)
        (try simp only [Act.put, List.setIfInBounds_toArray, List.set_cons_zero, List.set_cons_succ])
        refine PlanO.take (v := ?vb16) (by kernel_rfl) ?yb16 ?rb16
        case yb16 => (intro wz hz; go_simp; try with_reducible rfl)
        (try simp only [Act.put, List.setIfInBounds_toArray, List.set_cons_zero, List.set_cons_succ])
        refine PlanO.take (v := ?vb17) (by kernel_rfl) ?yb17 ?rb17
        case yb17 => (intro wz hz; go_simp; try with_reducible rfl)
        (try simp only [Act.put, List.setIfInBounds_toArray, List.set_cons_zero, List.set_cons_succ])
        refine PlanO.take (v := ?vb18) (by kernel_rfl) ?yb18 ?rb18
        case yb18 => (intro wz hz; have c0 := Ext.at_ hz p0; have c1 := Ext.at_ hz p1; go_simp; try with_reducible rfl)
        (try simp only [Act.put, List.setIfInBounds_toArray, List.set_cons_zero, List.set_cons_succ])
        refine PlanO.take (v := ?vb19) (by kernel_rfl) ?yb19 ?rb19
        case yb19 => (intro wz hz; go_simp; try with_reducible rfl)
        (try simp only [Act.put, List.setIfInBounds_toArray, List.set_cons_zero, List.set_cons_succ])
        refine PlanO.take (v := ?vb20) (by kernel_rfl) ?yb20 ?rb20
        case yb20 => (intro wz hz; go_simp; try with_reducible rfl)
        (try simp only [Act.put, List.setIfInBounds_toArray, List.set_cons_zero, List.set_cons_succ])
        refine PlanO.take (v := ?vb21) (by kernel_rfl) ?yb21 ?rb21
        case yb21 => (intro wz hz; have d0 := Ext.at_ hz x0; have d1 := Ext.at_ hz x1; have d2 := Ext.at_ hz x2; go_simp; try with_reducible rfl)
        (try simp only [Act.put, List.setIfInBounds_toArray, List.set_cons_zero, List.set_cons_succ])
        refine PlanO.take (v := ?vb22) (by kernel_rfl) ?yb22 ?rb22
        case yb22 => (intro wz hz; have k0' := Ext.at_ hz k0; have k1' := Ext.at_ hz k1; have k2' := Ext.at_ hz k2; go_simp; try with_reducible rfl)
        (try simp only [Act.put, List.setIfInBounds_toArray, List.set_cons_zero, List.set_cons_succ])
        refine PlanO.exec (fun K hK => ?_)
        go_simp
        go_at_call 26
        refine (HC.out _).mono ?_
        rintro r u1 ⟨rfl, hb3⟩
        go_wp2_with fail
        refine hK.out _ _ hb3 ?_
        clear hK K
        (try simp only [Act.put, List.setIfInBounds_toArray, List.set_cons_zero, List.set_cons_succ])
        refine PlanO.take (v := .bool false) (by kernel_rfl) ?yb24 ?rb24
        case yb24 => (intro wz hz; go_simp; try simp; try omega)
        (try simp only [Act.put, List.setIfInBounds_toArray, List.set_cons_zero, List.set_cons_succ])
        refine PlanO.take (v := .bool false) (by kernel_rfl) ?yb25 ?rb25
        case yb25 => (intro wz hz; go_simp; try with_reducible rfl)
        (try simp only [Act.put, List.setIfInBounds_toArray, List.set_cons_zero, List.set_cons_succ])
        refine PlanO.done (NoPanic.normal ?_)
        have HBU := Lib.hid (below_draw10 hb3)
        have HW := Lib.hid (HR.out.1.below HBU.out)
        clear hb3 p0 p1 f1 k0 k1 k2 x0 x1 x2
        go_wp2_with (go_at_call 35; (refine (ris_any HW.out).mono ?_); rintro e w2 ⟨rfl, hb2⟩; have HB2 := Lib.hid hb2; clear hb2)
        go_ret
        rw [HR2.out]
        exact ⟨rfl, HW.out.below HB2.out, (Touch.of_below (F := G) HB0.out).trans ((HR.out.2.trans (Touch.of_below (F := G) HBU.out) (Grows.refl _ _ _)).trans (Touch.of_below (F := G) HB2.out) (Grows.refl _ _ _)) (Grows.refl _ _ _)⟩
    · have HR2 := Lib.hid (@seek_at L u s k j hj HK.out (fun h => absurd h hlt))
      have hltz : ¬ (j : Int) < (L.length : Int) := by omega
      clear hor hfi hkr hqr
      go_upto_region 2 with (fail)
      refine wp_region_plan [(true, 0), (true, 1), (true, 2), (true, 3), (true, 4), (true, 5), (true, 6), (true, 7), (true, 8), (true, 9), (true, 10), (true, 11), (true, 12), (true, 13), (true, 14), (true, 15), (true, 16), (true, 17), (true, 18), (true, 19), (true, 20), (true, 21), (true, 22), (false, 23), (true, 24), (true, 25)] (by kernel_rfl) (by kernel_rfl) (by kernel_rfl) (by kernel_rfl) (by kernel_rfl) ?_
      simp only [planO, List.drop_succ_cons, List.drop_zero]
      refine PlanO.take (v := ?vc0) (by kernel_rfl) ?yc0 ?rc0
      case yc0 => (intro wz hz; go_simp; try with_reducible rfl)
      (try simp only [Act.put, List.setIfInBounds_toArray, List.set_cons_zero, List.set_cons_succ])
      refine PlanO.take (v := ?vc1) (by kernel_rfl) ?yc1 ?rc1
      case yc1 => (intro wz hz; go_simp; try with_reducible rfl)
      (try simp only [Act.put, List.setIfInBounds_toArray, List.set_cons_zero, List.set_cons_succ])
      refine PlanO.take (v := ?vc2) (by kernel_rfl) ?yc2 ?rc2
      case yc2 => (intro wz hz; go_simp; try with_reducible rfl)
      (try simp only [Act.put, List.setIfInBounds_toArray, List.set_cons_zero, List.set_cons_succ])
      refine PlanO.take (v := ?vc3) (by kernel_rfl) ?yc3 ?rc3
      case yc3 => (intro wz hz; have c0 := Ext.at_ hz p0; have c1 := Ext.at_ hz p1; go_simp; try with_reducible rfl)
      (try simp only [Act.put, List.setIfInBounds_toArray, List.set_cons_zero, List.set_cons_succ])
      refine PlanO.take (v := ?vc4) (by kernel_rfl) ?yc4 ?rc4
      case yc4 => (intro wz hz; go_simp; try with_reducible rfl)
      (try simp only [Act.put, List.setIfInBounds_toArray, List.set_cons_zero, List.set_cons_succ])
      refine PlanO.take (v := ?vc5) (by kernel_rfl) ?yc5 ?rc5
      case yc5 => (intro wz hz; go_simp; try with_reducible rfl)
      (try simp only [Act.put, List.setIfInBounds_toArray, List.set_cons_zero, List.set_cons_succ])
      refine PlanO.take (v := ?vc6) (by kernel_rfl) ?yc6 ?rc6
      case yc6 => (intro wz hz; go_simp; try with_reducible rfl)
      (try simp only [Act.put, List.setIfInBounds_toArray, List.set_cons_zero, List.set_cons_succ])
      refine PlanO.take (v := ?vc7) (by kernel_rfl) ?yc7 ?rc7
      case yc7 => (intro wz hz; have c0 := Ext.at_ hz p0; have c1 := Ext.at_ hz p1; go_simp; try with_reducible rfl)
      (try simp only [Act.put, List.setIfInBounds_toArray, List.set_cons_zero, List.set_cons_succ])
      refine PlanO.take (v := ?vc8) (by kernel_rfl) ?yc8 ?rc8
      case yc8 => (intro wz hz; go_simp; try with_reducible rfl)
      (try simp only [Act.put, List.setIfInBounds_toArray, List.set_cons_zero, List.set_cons_succ])
      refine PlanO.take (v := .bool false) (by kernel_rfl) ?yc9 ?rc9
      case yc9 => (intro wz hz; go_simp; (try simp); (try omega))
      (try simp only [Act.put, List.setIfInBounds_toArray, List.set_cons_zero, List.set_cons_succ])
      refine PlanO.take (v := .bool false) (by kernel_rfl) ?yc10 ?rc10
      case yc10 => (intro wz hz; go_simp; (try simp); (try omega))
      (try simp only [Act.put, List.setIfInBounds_toArray, List.set_cons_zero, List.set_cons_succ])
      refine PlanO.skip (by kernel_rfl) ?_
      (try simp only [Act.put, List.setIfInBounds_toArray, List.set_cons_zero, List.set_cons_succ])
      refine PlanO.skip (by kernel_rfl) ?_
      (try simp only [Act.put, List.setIfInBounds_toArray, List.set_cons_zero, List.set_cons_succ])
      refine PlanO.skip (by kernel_rfl) ?_
      (try simp only [Act.put, List.setIfInBounds_toArray, List.set_cons_zero, List.set_cons_succ])
      refine PlanO.skip (by kernel_rfl) ?_
      (try simp only [Act.put, List.setIfInBounds_toArray, List.set_cons_zero, List.set_cons_succ])
      refine PlanO.skip (by kernel_rfl) ?_
      (try simp only [Act.put, List.setIfInBounds_toArray, List.set_cons_zero, List.set_cons_succ])
      refine PlanO.skip (by kernel_rfl) ?_
      (try simp only [Act.put, List.setIfInBounds_toArray, List.set_cons_zero, List.set_cons_succ])
      refine PlanO.skip (by kernel_rfl) ?_
      (try simp only [Act.put, List.setIfInBounds_toArray, List.set_cons_zero, List.set_cons_succ])
      refine PlanO.skip (by kernel_rfl) ?_
      (try simp only [Act.put, List.setIfInBounds_toArray, List.set_cons_zero, List.set_cons_succ])
      refine PlanO.skip (by kernel_rfl) ?_
      (try simp only [Act.put, List.setIfInBounds_toArray, List.set_cons_zero, List.set_cons_succ])
      refine PlanO.skip (by kernel_rfl) ?_
      (try simp only [Act.put, List.setIfInBounds_toArray, List.set_cons_zero, List.set_cons_succ])
      refine PlanO.skip (by kernel_rfl) ?_
      (try simp only [Act.put, List.setIfInBounds_toArray, List.set_cons_zero, List.set_cons_succ])
      refine PlanO.skip (by kernel_rfl) ?_
      (try simp only [Act.put, List.setIfInBounds_toArray, List.set_cons_zero, List.set_cons_succ])
      refine PlanO.skip (by kernel_rfl) ?_
      (try simp only [Act.put, List.setIfInBounds_toArray, List.set_cons_zero, List.set_cons_succ])
      refine PlanO.skip (by kernel_rfl) ?_
      (try simp only [Act.put, List.setIfInBounds_toArray, List.set_cons_zero, List.set_cons_succ])
      refine PlanO.take (v := .bool false) (by kernel_rfl) ?yc25 ?rc25
      case yc25 => (intro wz hz; go_simp; try with_reducible rfl)
      (try simp only [Act.put, List.setIfInBounds_toArray, List.set_cons_zero, List.set_cons_succ])
      refine PlanO.done (NoPanic.normal ?_)
      have HW := Lib.hid (HR.out.1.below (Below.refl wr.heap.size _).drew)
      clear p0 p1 f1 k0 k1 k2
      go_wp2_with (go_at_call 35; (refine (ris_any HW.out).mono ?_); rintro e w2 ⟨rfl, hb2⟩; have HB2 := Lib.hid hb2; clear hb2)
      go_ret
      rw [HR2.out]
      exact ⟨rfl, HW.out.below HB2.out, (Touch.of_below (F := G) HB0.out).trans ((HR.out.2.trans (Touch.of_below (F := G) (Below.refl wr.heap.size _).drew) (Grows.refl _ _ _)).trans (Touch.of_below (F := G) HB2.out) (Grows.refl _ _ _)) (Grows.refl _ _ _)⟩

set_option maxRecDepth 100000 in
set_option maxHeartbeats 400000 in
theorem rhere_any {G : Nat → Prop} {w : World} {q : Nat} {L : List Ent} {a : Int} (h : RIt G w q L a) : Calls Try.prog 22 #[.pointer (some ⟨q, 0, none⟩)] w fun e w' => e = .returned (ansN (atA L a)) ∧ Below w.heap.size w w' := by
  have HH := Lib.hid h
  have HIS : Hid (∀ b, stands L a = b → ∀ wz, Below w.heap.size w wz → Calls Try.prog 35 #[.pointer (some ⟨q, 0, none⟩)] wz fun e w' => e = .returned (.bool b) ∧ Below wz.heap.size wz w') := Lib.hid fun b hb wz hz => by rw [← hb]; exact ris_any (HH.out.below hz)
  have hrow := heap_alloc_new w (.cells #[.string ⟨#[]⟩, .int .i64 0, .int .i64 0, .string ⟨#[]⟩] 36)
  have HROW := Lib.hid hrow
  clear h hrow
  cases hst : stands L a with
  | false =>
    have HR := Lib.hid (show atA L a = none by unfold atA; rw [hst]; rfl)
    have HI := Lib.hid (HIS.out _ hst)
    clear HIS hst
    go_enter Try.func22, Try.ntmps22
    go_wp2_with (go_at_call 35; (refine (HI.out _ ((Below.refl _ _).alloc (Nat.le_refl _) _)).mono ?_); rintro e w1 ⟨rfl, hb1⟩; have hr := (hb1.block _ (by simp)).trans HROW.out; have HR1 := Lib.hid hr; have HB1 : Hid (Below w.heap.size w w1) := Lib.hid (((Below.refl _ _).alloc (Nat.le_refl _) _).trans (hb1.mono (by simp))); have s0 := blk_cell (i := 0) hr; have t0 := blk_free (i := 0) hr; have s1 := blk_cell (i := 1) hr; have t1 := blk_free (i := 1) hr; have s2 := blk_cell (i := 2) hr; have t2 := blk_free (i := 2) hr; have s3 := blk_cell (i := 3) hr; have t3 := blk_free (i := 3) hr; clear hr hb1)
    refine bodyPost_ret (results_row_tmp rfl _ _ w.heap.size 36 #[.string ⟨#[]⟩, .int .i64 0, .int .i64 0, .string ⟨#[]⟩] (0, 0) _ rfl ?hgE Try.underlying36 rfl (by kernel_rfl)) rfl ?_
    case hgE => exact (set4 HR1.out rfl rfl rfl rfl).1
    rw [HR.out]
    exact ⟨rfl, (set4 HR1.out rfl rfl rfl rfl).2 _ (Nat.le_refl _) _ HB1.out⟩
  | true =>
    have hs2 := hst
    unfold stands at hs2
    simp only [Bool.and_eq_true, decide_eq_true_eq] at hs2
    obtain ⟨j, rfl⟩ : ∃ j : Nat, a = (j : Int) := ⟨a.toNat, by omega⟩
    have hj : j < L.length := by omega
    have HR := Lib.hid (show atA L (j : Int) = some (L.getD j Ent.none_) by unfold atA; rw [hst]; rfl)
    have HI := Lib.hid (HIS.out _ hst)
    clear HIS hst hs2
    go_enter Try.func22, Try.ntmps22
    go_upto_region 3 with (go_at_call 35; (refine (HI.out _ ((Below.refl _ _).alloc (Nat.le_refl _) _)).mono ?_); rintro e w1 ⟨rfl, hb1⟩; have HR1 := Lib.hid ((hb1.block _ (by simp)).trans HROW.out); have HB1 : Hid (Below w.heap.size w w1) := Lib.hid (((Below.refl _ _).alloc (Nat.le_refl _) _).trans (hb1.mono (by simp))); clear hb1)
    obtain ⟨wd, hwd⟩ : ∃ wd, wd = w1.drew := ⟨_, rfl⟩
    have Hwd := Lib.hid hwd
    have HBD : Hid (Below w.heap.size w wd) := Lib.hid (by rw [hwd]; exact HB1.out.drew)
    have HRD := Lib.hid (show wd.heap[w.heap.size]? = some (.cells #[.string ⟨#[]⟩, .int .i64 0, .int .i64 0, .string ⟨#[]⟩] 36 (0, 0)) by rw [hwd]; exact HR1.out)
    obtain ⟨va, vc, hq, hor, _, _, _, _⟩ := (HH.out.below HBD.out).own
    have p0 := blk_cell (i := 0) hq
    have p1 := blk_cell (i := 1) hq
    replace p0 : wd.cell? ⟨q, 0, none⟩ = some (.slice va L.length vc) := p0
    replace p1 : wd.cell? ⟨q, 1, none⟩ = some (.int .i64 (j : Int)) := p1
    obtain ⟨g, hva, hxg, x0, x1, x2, x3⟩ := own_ent hor hj
    subst hva
    have hjz : (j : Int) < (L.length : Int) := by omega
    obtain ⟨X, hX⟩ : ∃ X, L.getD j Ent.none_ = X := ⟨_, rfl⟩
    rw [hX] at x0 x1 x2 x3 HR
    obtain ⟨xu, xs, xk, xv⟩ := X
    simp only at x0 x1 x2 x3
    have s0 := blk_cell (i := 0) HRD.out; have t0 := blk_free (i := 0) HRD.out; have s1 := blk_cell (i := 1) HRD.out; have t1 := blk_free (i := 1) HRD.out; have s2 := blk_cell (i := 2) HRD.out; have t2 := blk_free (i := 2) HRD.out; have s3 := blk_cell (i := 3) HRD.out; have t3 := blk_free (i := 3) HRD.out
    clear hwd hq hor hX
    refine wp_region_two (fun wz => wz = wd) (fun _ => True) [(0, 0), (0, 1), (0, 2), (0, 3), (0, 4), (0, 5), (0, 6), (0, 7), (0, 8), (0, 9), (3, 10), (1, 11)] [10] (by kernel_rfl) (by kernel_rfl) (by kernel_rfl) (by kernel_rfl) (by kernel_rfl) Hwd.out.symm trivial ?_
    simp only [planT, List.drop_succ_cons, List.drop_zero]
    rw [← Hwd.out]
    refine PlanT.take0 (v := ?v0) (by kernel_rfl) ?y0 ?r0
    case y0 => (intro wz hz; subst hz; go_simp; try with_reducible rfl)
    (try simp only [Act.put, List.setIfInBounds_toArray, List.set_cons_zero, List.set_cons_succ])
    refine PlanT.take0 (v := ?v1) (by kernel_rfl) ?y1 ?r1
    case y1 => (intro wz hz; subst hz; go_simp; try with_reducible rfl)
    (try simp only [Act.put, List.setIfInBounds_toArray, List.set_cons_zero, List.set_cons_succ])
    refine PlanT.take0 (v := ?v2) (by kernel_rfl) ?y2 ?r2
    case y2 => (intro wz hz; subst hz; go_simp; try with_reducible rfl)
    (try simp only [Act.put, List.setIfInBounds_toArray, List.set_cons_zero, List.set_cons_succ])
    refine PlanT.take0 (v := ?v3) (by kernel_rfl) ?y3 ?r3
    case y3 => (intro wz hz; subst hz; go_simp; try with_reducible rfl)
    (try simp only [Act.put, List.setIfInBounds_toArray, List.set_cons_zero, List.set_cons_succ])
    refine PlanT.take0 (v := ?v4) (by kernel_rfl) ?y4 ?r4
    case y4 => (intro wz hz; subst hz; go_simp; try with_reducible rfl)
    (try simp only [Act.put, List.setIfInBounds_toArray, List.set_cons_zero, List.set_cons_succ])
    refine PlanT.take0 (v := ?v5) (by kernel_rfl) ?y5 ?r5
    case y5 => (intro wz hz; subst hz; go_simp; try with_reducible rfl)
    (try simp only [Act.put, List.setIfInBounds_toArray, List.set_cons_zero, List.set_cons_succ])
    refine PlanT.take0 (v := ?v6) (by kernel_rfl) ?y6 ?r6
    case y6 => (intro wz hz; subst hz; go_simp; try with_reducible rfl)
    (try simp only [Act.put, List.setIfInBounds_toArray, List.set_cons_zero, List.set_cons_succ])
    refine PlanT.take0 (v := ?v7) (by kernel_rfl) ?y7 ?r7
    case y7 => (intro wz hz; subst hz; go_simp; try with_reducible rfl)
    (try simp only [Act.put, List.setIfInBounds_toArray, List.set_cons_zero, List.set_cons_succ])
    refine PlanT.take0 (v := .pointer (some ⟨g, j * 4, none⟩)) (by kernel_rfl) ?y8 ?r8
    case y8 => (intro wz hz; subst hz; go_simp; try (intro hkc; omega))
    (try simp only [Act.put, List.setIfInBounds_toArray, List.set_cons_zero, List.set_cons_succ])
    refine PlanT.take0 (v := .agg #[.string xu, .int .i64 xs, .int .i64 xk, .string xv]) (by kernel_rfl) ?y9 ?r9
    case y9 => (intro wz hz; subst hz; go_simp; try with_reducible rfl)
    (try simp only [Act.put, List.setIfInBounds_toArray, List.set_cons_zero, List.set_cons_succ])
    refine PlanT.exec3 (fun K hK => ⟨by kernel_rfl, ?_⟩)
    go_simp
    refine hK.out _ _ trivial ?_
    clear hK K
    (try simp only [Act.put, List.setIfInBounds_toArray, List.set_cons_zero, List.set_cons_succ])
    refine PlanT.take1 (v := ?v11) (by kernel_rfl) ?y11 ?r11
    case y11 => (intro wz hz; go_simp; try with_reducible rfl)
    (try simp only [Act.put, List.setIfInBounds_toArray, List.set_cons_zero, List.set_cons_succ])
    refine PlanT.done (NoPanic.normal ?_)
    go_wp2
    refine bodyPost_ret (results_row_tmp rfl _ _ w.heap.size 36 #[.string xu, .int .i64 xs, .int .i64 xk, .string xv] (0, 0) _ rfl ?hgF Try.underlying36 rfl (by kernel_rfl)) rfl ?_
    case hgF => exact (set4 HRD.out rfl rfl rfl rfl).1
    rw [HR.out]
    exact ⟨rfl, (set4 HRD.out rfl rfl rfl rfl).2 _ (Nat.le_refl _) _ HBD.out⟩

/-- A new one. -/
theorem rnew_any (v : Value) (es : List Ent) (w : World) (hv : RdE w v es) (hl : es.length ≤ 100000) : Calls Try.prog 10 #[v] w fun e w' => ∃ q G, e = .returned (.pointer (some ⟨q, 0, none⟩)) ∧ RIt G w' q (sortE es) (-1) ∧ (∀ k, G k → w.heap.size ≤ k) ∧ Below w.heap.size w w' := by
  have HS := Lib.hid (rsorted_any v es w hv hl)
  have HSL := Lib.hid (sort_len es)
  have HFI := Lib.hid (show ∀ e ∈ sortE es, e.fits from fun e he => hv.2 e (sort_sub he))
  obtain ⟨va, vc, rfl, _, _⟩ := hv.form
  clear hv
  go_enter Try.func10, Try.ntmps10
  go_wp2_with (go_at_call 33; (refine HS.out.mono ?_); rintro e w1 ⟨x, rfl, ho, hb⟩; obtain ⟨sa, sc, hx, _, _⟩ := ho.form; subst hx; have HO := Lib.hid ho; have HB := Lib.hid hb; clear ho hb)
  go_ret
  refine ⟨w1.heap.size, fun k => k = w1.heap.size ∨ (Value.slice sa (sortE es).length sc).ownBlock = some k, rfl, ⟨_, heap_alloc_new w1 _, ?_, fun h => by have := (World.ownsRow.lt HO.out _ h).2; omega, fun k => Iff.rfl, HFI.out, ⟨by omega, by omega⟩, by have := HSL.out; omega⟩, ?_, HB.out.alloc HB.out.size _⟩
  · exact own_base (HO.out.below ((Below.refl _ _).alloc (Nat.le_refl _) _)) fun _ _ => Nat.zero_le _
  · rintro k (rfl | hk)
    · exact HB.out.size
    · exact (World.ownsRow.lt HO.out k hk).1
end Go.Proofs.Ytabmdhbikedhmaa
