/-
  The walk of the statement KeyAll.
-/
import Derived.Test.YtmeddhjhdjgagaaAwake2
import Derived.Test.YtmeddhjhdjgagaaKeyRefRising
import Derived.Test.YtmeddhjhdjgagaaOpen
import Derived.Test.YtmeddhjhdjgagaaRegion
namespace Go.Proofs.Ytmeddhjhdjgagaa
open Go.ChangeShapes Go.WideShapes Go.ChangeAt Go.RowKit

/-- A key lies in block 'b'. -/
def K3 (w : World) (b : Nat) (u : ByteArray) (s k : Int) : Prop := w.cell? ⟨b, 0, none⟩ = some (.string u) ∧ w.cell? ⟨b, 1, none⟩ = some (.int .i64 s) ∧ w.cell? ⟨b, 2, none⟩ = some (.int .i64 k)
theorem K3.ext {w w' : World} {b : Nat} {u : ByteArray} {s k : Int} (h : K3 w b u s k) (he : Ext w w') : K3 w' b u s k := ⟨Ext.at_ he h.1, Ext.at_ he h.2.1, Ext.at_ he h.2.2⟩
theorem K3.lt {w : World} {b : Nat} {u : ByteArray} {s k : Int} (h : K3 w b u s k) : b < w.heap.size := World.block_lt_of_cell? w _ h.1

theorem ansK_form (r : Option ((List UInt8 × Int × Int) × Nat)) : ∃ (u : ByteArray) (s k p : Int) (b : Bool), ansK r = .tuple #[.agg #[.string u, .int .i64 s, .int .i64 k], .int .i64 p, .bool b] := by
  cases r with
  | none => exact ⟨_, _, _, _, _, rfl⟩
  | some x => exact ⟨_, _, _, _, _, rfl⟩

theorem RdE.drew {w : World} {v : Value} {es : List Ent} (h : RdE w v es) : RdE w.drew v es := h.below (Below.refl _ _).drew (Nat.le_refl _)

set_option maxRecDepth 100000 in
set_option maxHeartbeats 8000000 in
set_option linter.unusedSimpArgs false in
theorem keyAll_near (u1 : ByteArray) (s1 k1 : Int) (u2 : ByteArray) (s2 k2 : Int) (ve : Value) (es : List Ent) (vb : Value) (lb : List UInt8) (at_ : Int) (W : World) (hve0 : RdE W ve es) (hvb : RdB W vb lb)
    (g1 : ¬ (500 : Int) < (u1.size : Int)) (g2 : ¬ (500 : Int) < (u2.size : Int)) (g3 : ¬ (60 : Int) < (es.length : Int)) (g4 : ¬ (500 : Int) < (lb.length : Int)) :
    Calls Try.prog 3 #[keyV u1 s1 k1, keyV u2 s2 k2, ve, vb, .int .i64 at_] W fun e w' => e = .returned (.bool true) ∧ Below W.heap.size W w' := by
  obtain ⟨va, vc, rfl, hvc, hvm⟩ := hve0.form
  obtain ⟨ba, bc, rfl, hbc, hbm⟩ := hvb.form
  unfold maxLen at hvm hbm
  have hu1 : u1.size ≤ maxLen := by unfold maxLen; omega
  have hu2 : u2.size ≤ maxLen := by unfold maxLen; omega
  obtain ⟨gu, gs, gk, gp, gb, hx⟩ := ansK_form (keyAt lb at_)
  have hg : ∀ w, RdB w (.slice ba lb.length bc) lb → Calls Try.prog 7 #[.slice ba lb.length bc, .int .i64 at_] w fun e w' => e = .returned (.tuple #[.agg #[.string gu, .int .i64 gs, .int .i64 gk], .int .i64 gp, .bool gb]) ∧ Below w.heap.size w w' := fun w h => hx ▸ kget_any _ lb at_ w h
  have hr : ∀ w, RdB w (.slice ba lb.length bc) lb → Calls Try.prog 8 #[.slice ba lb.length bc, .int .i64 at_] w fun e w' => e = .returned (.tuple #[.agg #[.string gu, .int .i64 gs, .int .i64 gk], .int .i64 gp, .bool gb]) ∧ Below w.heap.size w w' := fun w h => hx ▸ rkget_any _ lb at_ w h
  have HG := Lib.hid hg
  have HR := Lib.hid hr
  have hma := may_any u1 s1 k1 hu1
  have hmr := rmay_any u1 s1 k1 hu1
  have hca := cmp_any u1 s1 k1 u2 s2 k2 hu1 hu2
  have hcr := rcmp_any u1 s1 k1 u2 s2 k2
  have hpa := kput_any u1 s1 k1 hu1
  have hpr := rkput_any u1 s1 k1 hu1
  have hra := rising_any (.slice va es.length vc) es
  have hrr := rrising_any (.slice va es.length vc) es
  generalize mayB u1.data.toList s1 k1 = ma at hma hmr
  generalize cmpK u1.data.toList s1 k1 u2.data.toList s2 k2 = cx at hca hcr
  generalize putK u1.data.toList s1 k1 = pk at hpa hpr
  generalize risingB es = ris at hra hrr
  have HMA := Lib.hid hma
  have HMR := Lib.hid hmr
  have HCA := Lib.hid hca
  have HCR := Lib.hid hcr
  have HPA := Lib.hid hpa
  have HPR := Lib.hid hpr
  have HRA := Lib.hid hra
  have HRR := Lib.hid hrr
  clear hg hr hx hma hmr hca hcr hpa hpr hra hrr
  go_enter Try.func3, Try.ntmps3
  go_wp2_with fail
  obtain ⟨w0, hw0⟩ : ∃ w0, w0 = ((W.alloc (.cells #[.string u1, .int .i64 s1, .int .i64 k1] 23)).alloc (.cells #[.string u2, .int .i64 s2, .int .i64 k2] 23)) := ⟨_, rfl⟩
  rw [← hw0]
  have hE0 : Ext W w0 := by rw [hw0]; exact ((Below.refl _ _).alloc (Nat.le_refl _) _).alloc (by simp) _
  have hs0 : W.heap.size + 1 < w0.heap.size := by rw [hw0]; simp
  have qa0 : K3 w0 W.heap.size u1 s1 k1 := by rw [hw0]; refine ⟨?_, ?_, ?_⟩ <;> go_simp
  have qb0 : K3 w0 (W.heap.size + 1) u2 s2 k2 := by rw [hw0]; refine ⟨?_, ?_, ?_⟩ <;> go_simp
  have hvb0 := hvb.below hE0 (Nat.le_refl _)
  clear hw0
  refine (HG.out _ hvb0).mono ?_
  rintro e w1 ⟨rfl, hb1⟩
  go_wp2_with fail
  obtain ⟨w1', hw1⟩ : ∃ w', w' = w1.alloc (.cells #[.string gu, .int .i64 gs, .int .i64 gk] 23) := ⟨_, rfl⟩
  rw [← hw1]
  have hE1 : Ext w0 w1' := by rw [hw1]; exact Below.alloc hb1 (Below.size hb1) _
  have hs1 : w1.heap.size < w1'.heap.size := by rw [hw1]; simp
  have hs01 : w0.heap.size ≤ w1.heap.size := Below.size hb1
  have qk1 : K3 w1' w1.heap.size gu gs gk := by rw [hw1]; refine ⟨?_, ?_, ?_⟩ <;> go_simp
  have hvb1 := hvb0.below hE1 (Nat.le_refl _)
  clear hw1 hb1
  refine (HR.out _ hvb1).mono ?_
  rintro e w2 ⟨rfl, hb2⟩
  go_wp2_with fail
  obtain ⟨w2', hw2⟩ : ∃ w', w' = w2.alloc (.cells #[.string gu, .int .i64 gs, .int .i64 gk] 23) := ⟨_, rfl⟩
  rw [← hw2]
  have hE2 : Ext w1' w2' := by rw [hw2]; exact Below.alloc hb2 (Below.size hb2) _
  have hs2 : w2.heap.size < w2'.heap.size := by rw [hw2]; simp
  have hs12 : w1'.heap.size ≤ w2.heap.size := Below.size hb2
  have qj2 : K3 w2' w2.heap.size gu gs gk := by rw [hw2]; refine ⟨?_, ?_, ?_⟩ <;> go_simp
  have qk2 := qk1.ext hE2
  have qa2 := (qa0.ext hE1).ext hE2
  have qb2 := (qb0.ext hE1).ext hE2
  have hB2 : Below W.heap.size W w2' := Ext.trans (Ext.trans hE0 hE1) hE2
  clear hw2 hb2 HG HR qa0 qb0 qk1 hvb0 hvb1 hvb hE1 hE2 hE0
  go_wp2
  go_loopw [17] (fun i wr => ∃ m : Nat, m ≤ es.length ∧ i = .int .i64 m ∧ Below W.heap.size W wr ∧ w2.heap.size < wr.heap.size ∧ w1.heap.size < w2.heap.size ∧ W.heap.size + 1 < w1.heap.size ∧ K3 wr (W.heap.size) u1 s1 k1 ∧ K3 wr (W.heap.size + 1) u2 s2 k2 ∧ K3 wr (w1.heap.size) gu gs gk ∧ K3 wr (w2.heap.size) gu gs gk) (fun i _ => es.length - (intOf i).toNat)
  case atStart => exact ⟨0, Nat.zero_le _, rfl, hB2, hs2, by omega, by omega, qa2, qb2, qk2, qj2⟩
  case round =>
    clear hB2 qa2 qb2 qk2 qj2 hs2 hs12
    obtain ⟨m, hm, rfl, hB, hs2, hs12, hs01', qa, qb, qk, qj⟩ := hrel
    have hve := hve0.below hB (Nat.le_refl _)
    by_cases hlt : m < es.length
    · obtain ⟨b, off, cap', hvq, _, _, hbw, hcells⟩ := hve.at_ (by intro h; subst h; simp at hlt)
      cases hvq
      obtain ⟨d0, d1, d2, d3⟩ := hcells m hlt
      obtain ⟨f1, f2, _, _⟩ := fits_at hve.2 m hlt
      have hm1 := mayE_any (es.getD m Ent.none_).u (es.getD m Ent.none_).s (es.getD m Ent.none_).k (es.getD m Ent.none_).v f1 f2
      have hm2 := rmayE_any (es.getD m Ent.none_).u (es.getD m Ent.none_).s (es.getD m Ent.none_).k (es.getD m Ent.none_).v f1 f2
      generalize mayE (es.getD m Ent.none_).u.data.toList (es.getD m Ent.none_).s (es.getD m Ent.none_).k (es.getD m Ent.none_).v.data.toList = mb at hm1 hm2
      generalize es.getD m Ent.none_ = en at *
      obtain ⟨eu, es', ek, ev⟩ := en
      simp only at d0 d1 d2 d3 hm1 hm2
      have HM := Lib.hid hm1
      have HR := Lib.hid hm2
      have hlt' : (m : Int) < (es.length : Int) := by omega
      clear hm1 hm2 hcells
      go_wp2
      refine wp_region_plan [(true, 0), (true, 1), (true, 2), (true, 3), (true, 5), (true, 6), (true, 7), (true, 8), (false, 4), (false, 9), (true, 10)] (by kernel_rfl) (by kernel_rfl) (by kernel_rfl) (by kernel_rfl) (by kernel_rfl) ?_
      simp only [planO, List.drop_succ_cons, List.drop_zero]
      refine PlanO.take (v := ?vl0) (by kernel_rfl) ?yl0 ?rl0
      case yl0 => (intro wz hz; go_simp; try with_reducible rfl)
      (try simp only [Act.put, List.setIfInBounds_toArray, List.set_cons_zero, List.set_cons_succ])
      refine PlanO.take (v := ?vl1) (by kernel_rfl) ?yl1 ?rl1
      case yl1 => (intro wz hz; go_simp; try with_reducible rfl)
      (try simp only [Act.put, List.setIfInBounds_toArray, List.set_cons_zero, List.set_cons_succ])
      refine PlanO.take (v := ?vl2) (by kernel_rfl) ?yl2 ?rl2
      case yl2 => (intro wz hz; go_simp; try with_reducible rfl)
      (try simp only [Act.put, List.setIfInBounds_toArray, List.set_cons_zero, List.set_cons_succ])
      refine PlanO.take (v := ?vl3) (by kernel_rfl) ?yl3 ?rl3
      case yl3 => (intro wz hz; have c0 := Ext.at_ hz d0; have c1 := Ext.at_ hz d1; have c2 := Ext.at_ hz d2; have c3 := Ext.at_ hz d3; go_simp; try with_reducible rfl)
      (try simp only [Act.put, List.setIfInBounds_toArray, List.set_cons_zero, List.set_cons_succ])
      refine PlanO.take (v := ?vl5) (by kernel_rfl) ?yl5 ?rl5
      case yl5 => (intro wz hz; go_simp; try with_reducible rfl)
      (try simp only [Act.put, List.setIfInBounds_toArray, List.set_cons_zero, List.set_cons_succ])
      refine PlanO.take (v := ?vl6) (by kernel_rfl) ?yl6 ?rl6
      case yl6 => (intro wz hz; go_simp; try with_reducible rfl)
      (try simp only [Act.put, List.setIfInBounds_toArray, List.set_cons_zero, List.set_cons_succ])
      refine PlanO.take (v := ?vl7) (by kernel_rfl) ?yl7 ?rl7
      case yl7 => (intro wz hz; go_simp; try with_reducible rfl)
      (try simp only [Act.put, List.setIfInBounds_toArray, List.set_cons_zero, List.set_cons_succ])
      refine PlanO.take (v := ?vl8) (by kernel_rfl) ?yl8 ?rl8
      case yl8 => (intro wz hz; have c0 := Ext.at_ hz d0; have c1 := Ext.at_ hz d1; have c2 := Ext.at_ hz d2; have c3 := Ext.at_ hz d3; go_simp; try with_reducible rfl)
      (try simp only [Act.put, List.setIfInBounds_toArray, List.set_cons_zero, List.set_cons_succ])
      refine PlanO.exec (fun K hK => ?_)
      go_simp
      go_at_call 9
      refine (HM.out _).mono ?_
      rintro e v1 ⟨rfl, hb1⟩
      have hE1 : Ext wr.drew v1 := hb1
      go_wp2_with fail
      refine hK.out _ _ hb1 ?_
      clear hK K
      (try simp only [Act.put, List.setIfInBounds_toArray, List.set_cons_zero, List.set_cons_succ])
      refine PlanO.exec (fun K hK => ?_)
      go_simp
      go_at_call 10
      refine (HR.out _).mono ?_
      rintro e v2 ⟨rfl, hb2⟩
      have hE2 : Ext wr.drew v2 := Ext.trans hE1 hb2
      go_wp2_with fail
      refine hK.out _ _ hb2 ?_
      clear hK K
      (try simp only [Act.put, List.setIfInBounds_toArray, List.set_cons_zero, List.set_cons_succ])
      refine PlanO.take (v := .bool false) (by kernel_rfl) ?yl10 ?rl10
      case yl10 => (intro wz hz; go_simp; try (cases mb <;> rfl))
      (try simp only [Act.put, List.setIfInBounds_toArray, List.set_cons_zero, List.set_cons_succ])
      refine PlanO.done (NoPanic.normal ?_)
      go_wp2
      go_roundw
      case rel =>
        have hE : Ext wr v2 := below_draw hE2
        exact ⟨m + 1, by omega, by go_num, hB.trans (Below.mono hE hB.size), by have := Below.size hE; omega, hs12, hs01', qa.ext hE, qb.ext hE, qk.ext hE, qj.ext hE⟩
      case measure => simp [intOf]; omega
    · have hge : ¬ (m : Int) < (es.length : Int) := by omega
      clear hlt
      go_wp2
      refine wp_region_plan [(true, 0), (true, 2), (false, 1), (false, 3), (true, 4), (true, 5), (true, 6), (true, 7), (true, 9), (true, 10), (false, 8), (false, 11), (true, 12), (true, 13), (true, 14), (true, 15), (true, 18), (false, 16), (true, 17), (false, 19), (true, 20), (true, 21), (true, 22), (true, 23), (true, 24), (true, 25), (true, 26), (true, 27), (true, 28), (true, 29), (true, 30), (true, 31), (true, 32), (true, 33), (true, 34), (true, 35), (true, 36), (true, 37), (true, 38), (true, 39), (true, 41), (false, 40), (false, 42), (true, 43), (true, 44), (true, 45), (false, 46), (true, 47), (true, 48)] (by kernel_rfl) (by kernel_rfl) (by kernel_rfl) (by kernel_rfl) (by kernel_rfl) ?_
      simp only [planO, List.drop_succ_cons, List.drop_zero]
      refine PlanO.take (v := ?vz0) (by kernel_rfl) ?yz0 ?rz0
      case yz0 => (intro wz hz; obtain ⟨a0, a1, a2⟩ := K3.ext (w := wr.drew) qa hz; go_simp; try with_reducible rfl)
      (try simp only [Act.put, List.setIfInBounds_toArray, List.set_cons_zero, List.set_cons_succ])
      refine PlanO.take (v := ?vz2) (by kernel_rfl) ?yz2 ?rz2
      case yz2 => (intro wz hz; obtain ⟨a0, a1, a2⟩ := K3.ext (w := wr.drew) qa hz; go_simp; try with_reducible rfl)
      (try simp only [Act.put, List.setIfInBounds_toArray, List.set_cons_zero, List.set_cons_succ])
      refine PlanO.exec (fun K hK => ?_)
      go_simp
      go_at_call 11
      refine (HMA.out _).mono ?_
      rintro e v1 ⟨rfl, hb1⟩
      have hE1 : Ext wr.drew v1 := hb1
      go_wp2_with fail
      refine hK.out _ _ hb1 ?_
      clear hK K
      (try simp only [Act.put, List.setIfInBounds_toArray, List.set_cons_zero, List.set_cons_succ])
      refine PlanO.exec (fun K hK => ?_)
      go_simp
      go_at_call 12
      refine (HMR.out _).mono ?_
      rintro e v2 ⟨rfl, hb2⟩
      have hE2 : Ext wr.drew v2 := Ext.trans hE1 hb2
      go_wp2_with fail
      refine hK.out _ _ hb2 ?_
      clear hK K
      (try simp only [Act.put, List.setIfInBounds_toArray, List.set_cons_zero, List.set_cons_succ])
      refine PlanO.take (v := .bool true) (by kernel_rfl) ?yz4 ?rz4
      case yz4 => (intro wz hz; go_simp; try (cases ma <;> rfl))
      (try simp only [Act.put, List.setIfInBounds_toArray, List.set_cons_zero, List.set_cons_succ])
      refine PlanO.take (v := ?vz5) (by kernel_rfl) ?yz5 ?rz5
      case yz5 => (intro wz hz; go_simp; try with_reducible rfl)
      (try simp only [Act.put, List.setIfInBounds_toArray, List.set_cons_zero, List.set_cons_succ])
      refine PlanO.take (v := ?vz6) (by kernel_rfl) ?yz6 ?rz6
      case yz6 => (intro wz hz; have hw := Ext.trans hE2 hz; obtain ⟨a0, a1, a2⟩ := K3.ext (w := wr.drew) qa hw; go_simp; try with_reducible rfl)
      (try simp only [Act.put, List.setIfInBounds_toArray, List.set_cons_zero, List.set_cons_succ])
      refine PlanO.take (v := ?vz7) (by kernel_rfl) ?yz7 ?rz7
      case yz7 => (intro wz hz; have hw := Ext.trans hE2 hz; obtain ⟨b0, b1, b2⟩ := K3.ext (w := wr.drew) qb hw; go_simp; try with_reducible rfl)
      (try simp only [Act.put, List.setIfInBounds_toArray, List.set_cons_zero, List.set_cons_succ])
      refine PlanO.take (v := ?vz9) (by kernel_rfl) ?yz9 ?rz9
      case yz9 => (intro wz hz; have hw := Ext.trans hE2 hz; obtain ⟨a0, a1, a2⟩ := K3.ext (w := wr.drew) qa hw; go_simp; try with_reducible rfl)
      (try simp only [Act.put, List.setIfInBounds_toArray, List.set_cons_zero, List.set_cons_succ])
      refine PlanO.take (v := ?vz10) (by kernel_rfl) ?yz10 ?rz10
      case yz10 => (intro wz hz; have hw := Ext.trans hE2 hz; obtain ⟨b0, b1, b2⟩ := K3.ext (w := wr.drew) qb hw; go_simp; try with_reducible rfl)
      (try simp only [Act.put, List.setIfInBounds_toArray, List.set_cons_zero, List.set_cons_succ])
      refine PlanO.exec (fun K hK => ?_)
      go_simp
      go_at_call 13
      refine (HCA.out _).mono ?_
      rintro e v3 ⟨rfl, hb3⟩
      have hE3 : Ext wr.drew v3 := Ext.trans hE2 hb3
      go_wp2_with fail
      refine hK.out _ _ hb3 ?_
      clear hK K
      (try simp only [Act.put, List.setIfInBounds_toArray, List.set_cons_zero, List.set_cons_succ])
      refine PlanO.exec (fun K hK => ?_)
      go_simp
      go_at_call 14
      refine (HCR.out _).mono ?_
      rintro e v4 ⟨rfl, hb4⟩
      have hE4 : Ext wr.drew v4 := Ext.trans hE3 hb4
      go_wp2_with fail
      refine hK.out _ _ hb4 ?_
      clear hK K
      (try simp only [Act.put, List.setIfInBounds_toArray, List.set_cons_zero, List.set_cons_succ])
      refine PlanO.take (v := .bool true) (by kernel_rfl) ?yz12 ?rz12
      case yz12 => (intro wz hz; go_simp; try with_reducible rfl)
      (try simp only [Act.put, List.setIfInBounds_toArray, List.set_cons_zero, List.set_cons_succ])
      refine PlanO.take (v := ?vz13) (by kernel_rfl) ?yz13 ?rz13
      case yz13 => (intro wz hz; go_simp; try with_reducible rfl)
      (try simp only [Act.put, List.setIfInBounds_toArray, List.set_cons_zero, List.set_cons_succ])
      refine PlanO.take (v := ?vz14) (by kernel_rfl) ?yz14 ?rz14
      case yz14 => (intro wz hz; go_simp; try with_reducible rfl)
      (try simp only [Act.put, List.setIfInBounds_toArray, List.set_cons_zero, List.set_cons_succ])
      refine PlanO.take (v := ?vz15) (by kernel_rfl) ?yz15 ?rz15
      case yz15 => (intro wz hz; have hw := Ext.trans hE4 hz; obtain ⟨a0, a1, a2⟩ := K3.ext (w := wr.drew) qa hw; go_simp; try with_reducible rfl)
      (try simp only [Act.put, List.setIfInBounds_toArray, List.set_cons_zero, List.set_cons_succ])
      refine PlanO.take (v := ?vz18) (by kernel_rfl) ?yz18 ?rz18
      case yz18 => (intro wz hz; have hw := Ext.trans hE4 hz; obtain ⟨a0, a1, a2⟩ := K3.ext (w := wr.drew) qa hw; go_simp; try with_reducible rfl)
      (try simp only [Act.put, List.setIfInBounds_toArray, List.set_cons_zero, List.set_cons_succ])
      refine PlanO.exec (fun K hK => ?_)
      go_simp
      go_at_call 15
      refine (HPA.out _).mono ?_
      rintro e v5 ⟨p5, rfl, ho5, hb5⟩
      have hE5 : Ext wr.drew v5 := Ext.trans hE4 hb5
      have hr5 := ho5.read
      clear ho5
      go_wp2_with fail
      refine hK.out _ _ hb5 ?_
      clear hK K
      (try simp only [Act.put, List.setIfInBounds_toArray, List.set_cons_zero, List.set_cons_succ])
      refine PlanO.take (v := ?vz17) (by kernel_rfl) ?yz17 ?rz17
      case yz17 => (intro wz hz; have hcv := rdB_convert (P := Try.prog) (hr5.below hz (Nat.le_refl _)) 25 5 9 Try.underlying25 Try.underlying5 Try.underlying9; go_simp; try with_reducible rfl)
      (try simp only [Act.put, List.setIfInBounds_toArray, List.set_cons_zero, List.set_cons_succ])
      refine PlanO.exec (fun K hK => ?_)
      go_simp
      go_at_call 16
      refine (HPR.out _).mono ?_
      rintro e v6 ⟨p6, rfl, ho6, hb6⟩
      have hE6 : Ext wr.drew v6 := Ext.trans hE5 hb6
      have hr6 := ho6.read
      clear ho6
      go_wp2_with fail
      refine hK.out _ _ hb6 ?_
      clear hK K
      (try simp only [Act.put, List.setIfInBounds_toArray, List.set_cons_zero, List.set_cons_succ])
      refine PlanO.take (v := ?vz20) (by kernel_rfl) ?yz20 ?rz20
      case yz20 => (intro wz hz; have hcv := rdB_convert (P := Try.prog) (hr6.below hz (Nat.le_refl _)) 25 5 9 Try.underlying25 Try.underlying5 Try.underlying9; go_simp; try with_reducible rfl)
      (try simp only [Act.put, List.setIfInBounds_toArray, List.set_cons_zero, List.set_cons_succ])
      refine PlanO.take (v := .bool true) (by kernel_rfl) ?yz21 ?rz21
      case yz21 => (intro wz hz; go_simp; try with_reducible rfl)
      (try simp only [Act.put, List.setIfInBounds_toArray, List.set_cons_zero, List.set_cons_succ])
      refine PlanO.take (v := ?vz22) (by kernel_rfl) ?yz22 ?rz22
      case yz22 => (intro wz hz; go_simp; try with_reducible rfl)
      (try simp only [Act.put, List.setIfInBounds_toArray, List.set_cons_zero, List.set_cons_succ])
      refine PlanO.take (v := ?vz23) (by kernel_rfl) ?yz23 ?rz23
      case yz23 => (intro wz hz; go_simp; try with_reducible rfl)
      (try simp only [Act.put, List.setIfInBounds_toArray, List.set_cons_zero, List.set_cons_succ])
      refine PlanO.take (v := ?vz24) (by kernel_rfl) ?yz24 ?rz24
      case yz24 => (intro wz hz; have hw := Ext.trans hE6 hz; obtain ⟨k0, k1, k2⟩ := K3.ext (w := wr.drew) qk hw; go_simp; try with_reducible rfl)
      (try simp only [Act.put, List.setIfInBounds_toArray, List.set_cons_zero, List.set_cons_succ])
      refine PlanO.take (v := ?vz25) (by kernel_rfl) ?yz25 ?rz25
      case yz25 => (intro wz hz; have hw := Ext.trans hE6 hz; obtain ⟨j0, j1, j2⟩ := K3.ext (w := wr.drew) qj hw; go_simp; try with_reducible rfl)
      (try simp only [Act.put, List.setIfInBounds_toArray, List.set_cons_zero, List.set_cons_succ])
      refine PlanO.take (v := .bool true) (by kernel_rfl) ?yz26 ?rz26
      case yz26 => (intro wz hz; go_simp; try with_reducible rfl)
      (try simp only [Act.put, List.setIfInBounds_toArray, List.set_cons_zero, List.set_cons_succ])
      refine PlanO.take (v := ?vz27) (by kernel_rfl) ?yz27 ?rz27
      case yz27 => (intro wz hz; go_simp; try with_reducible rfl)
      (try simp only [Act.put, List.setIfInBounds_toArray, List.set_cons_zero, List.set_cons_succ])
      refine PlanO.take (v := ?vz28) (by kernel_rfl) ?yz28 ?rz28
      case yz28 => (intro wz hz; go_simp; try with_reducible rfl)
      (try simp only [Act.put, List.setIfInBounds_toArray, List.set_cons_zero, List.set_cons_succ])
      refine PlanO.take (v := ?vz29) (by kernel_rfl) ?yz29 ?rz29
      case yz29 => (intro wz hz; go_simp; try with_reducible rfl)
      (try simp only [Act.put, List.setIfInBounds_toArray, List.set_cons_zero, List.set_cons_succ])
      refine PlanO.take (v := ?vz30) (by kernel_rfl) ?yz30 ?rz30
      case yz30 => (intro wz hz; go_simp; try with_reducible rfl)
      (try simp only [Act.put, List.setIfInBounds_toArray, List.set_cons_zero, List.set_cons_succ])
      refine PlanO.take (v := .bool true) (by kernel_rfl) ?yz31 ?rz31
      case yz31 => (intro wz hz; go_simp; try with_reducible rfl)
      (try simp only [Act.put, List.setIfInBounds_toArray, List.set_cons_zero, List.set_cons_succ])
      refine PlanO.take (v := ?vz32) (by kernel_rfl) ?yz32 ?rz32
      case yz32 => (intro wz hz; go_simp; try with_reducible rfl)
      (try simp only [Act.put, List.setIfInBounds_toArray, List.set_cons_zero, List.set_cons_succ])
      refine PlanO.take (v := ?vz33) (by kernel_rfl) ?yz33 ?rz33
      case yz33 => (intro wz hz; go_simp; try with_reducible rfl)
      (try simp only [Act.put, List.setIfInBounds_toArray, List.set_cons_zero, List.set_cons_succ])
      refine PlanO.take (v := ?vz34) (by kernel_rfl) ?yz34 ?rz34
      case yz34 => (intro wz hz; go_simp; try with_reducible rfl)
      (try simp only [Act.put, List.setIfInBounds_toArray, List.set_cons_zero, List.set_cons_succ])
      refine PlanO.take (v := ?vz35) (by kernel_rfl) ?yz35 ?rz35
      case yz35 => (intro wz hz; go_simp; try with_reducible rfl)
      (try simp only [Act.put, List.setIfInBounds_toArray, List.set_cons_zero, List.set_cons_succ])
      refine PlanO.take (v := .bool true) (by kernel_rfl) ?yz36 ?rz36
      case yz36 => (intro wz hz; go_simp; try (cases gb <;> rfl))
      (try simp only [Act.put, List.setIfInBounds_toArray, List.set_cons_zero, List.set_cons_succ])
      refine PlanO.take (v := ?vz37) (by kernel_rfl) ?yz37 ?rz37
      case yz37 => (intro wz hz; go_simp; try with_reducible rfl)
      (try simp only [Act.put, List.setIfInBounds_toArray, List.set_cons_zero, List.set_cons_succ])
      refine PlanO.take (v := ?vz38) (by kernel_rfl) ?yz38 ?rz38
      case yz38 => (intro wz hz; go_simp; try with_reducible rfl)
      (try simp only [Act.put, List.setIfInBounds_toArray, List.set_cons_zero, List.set_cons_succ])
      refine PlanO.take (v := ?vz39) (by kernel_rfl) ?yz39 ?rz39
      case yz39 => (intro wz hz; go_simp; try with_reducible rfl)
      (try simp only [Act.put, List.setIfInBounds_toArray, List.set_cons_zero, List.set_cons_succ])
      refine PlanO.take (v := ?vz41) (by kernel_rfl) ?yz41 ?rz41
      case yz41 => (intro wz hz; go_simp; try with_reducible rfl)
      (try simp only [Act.put, List.setIfInBounds_toArray, List.set_cons_zero, List.set_cons_succ])
      refine PlanO.exec (fun K hK => ?_)
      go_simp
      go_at_call 17
      refine (HRA.out _ ((hve.drew).below hE6 (Nat.le_refl _))).mono ?_
      rintro e v7 ⟨rfl, hb7⟩
      have hE7 : Ext wr.drew v7 := Ext.trans hE6 hb7
      go_wp2_with fail
      refine hK.out _ _ hb7 ?_
      clear hK K
      (try simp only [Act.put, List.setIfInBounds_toArray, List.set_cons_zero, List.set_cons_succ])
      refine PlanO.exec (fun K hK => ?_)
      go_simp
      go_at_call 18
      refine (HRR.out _ ((hve.drew).below hE7 (Nat.le_refl _))).mono ?_
      rintro e v8 ⟨rfl, hb8⟩
      have hE8 : Ext wr.drew v8 := Ext.trans hE7 hb8
      go_wp2_with fail
      refine hK.out _ _ hb8 ?_
      clear hK K
      (try simp only [Act.put, List.setIfInBounds_toArray, List.set_cons_zero, List.set_cons_succ])
      refine PlanO.take (v := .bool true) (by kernel_rfl) ?yz43 ?rz43
      case yz43 => (intro wz hz; go_simp; try (cases ris <;> rfl))
      (try simp only [Act.put, List.setIfInBounds_toArray, List.set_cons_zero, List.set_cons_succ])
      refine PlanO.take (v := ?vz44) (by kernel_rfl) ?yz44 ?rz44
      case yz44 => (intro wz hz; go_simp; try with_reducible rfl)
      (try simp only [Act.put, List.setIfInBounds_toArray, List.set_cons_zero, List.set_cons_succ])
      refine PlanO.take (v := ?vz45) (by kernel_rfl) ?yz45 ?rz45
      case yz45 => (intro wz hz; go_simp; try with_reducible rfl)
      (try simp only [Act.put, List.setIfInBounds_toArray, List.set_cons_zero, List.set_cons_succ])
      refine PlanO.exec (fun K hK => ?_)
      go_simp
      go_at_call 6
      refine (awake2_any _).mono ?_
      rintro e v9 ⟨rfl, hb9⟩
      have hE9 : Ext wr.drew v9 := Ext.trans hE8 hb9
      go_wp2_with fail
      refine hK.out _ _ hb9 ?_
      clear hK K
      (try simp only [Act.put, List.setIfInBounds_toArray, List.set_cons_zero, List.set_cons_succ])
      refine PlanO.take (v := ?vz47) (by kernel_rfl) ?yz47 ?rz47
      case yz47 => (intro wz hz; go_simp; try with_reducible rfl)
      (try simp only [Act.put, List.setIfInBounds_toArray, List.set_cons_zero, List.set_cons_succ])
      refine PlanO.take (v := ?vz48) (by kernel_rfl) ?yz48 ?rz48
      case yz48 => (intro wz hz; go_simp; try with_reducible rfl)
      (try simp only [Act.put, List.setIfInBounds_toArray, List.set_cons_zero, List.set_cons_succ])
      refine PlanO.done (NoPanic.normal ?_)
      go_wp2
      go_ret
      exact ⟨rfl, hB.trans ((below_draw hE9).mono hB.size)⟩

set_option maxRecDepth 100000 in
theorem keyAll_walk (u1 : ByteArray) (s1 k1 : Int) (u2 : ByteArray) (s2 k2 : Int) (ve : Value) (es : List Ent) (vb : Value) (lb : List UInt8) (at_ : Int) (W : World)
    (_hu1 : u1.size ≤ maxLen) (_ : (Lit.int .i64 s1).wf = true) (_ : (Lit.int .i64 k1).wf = true) (_hu2 : u2.size ≤ maxLen) (_ : (Lit.int .i64 s2).wf = true) (_ : (Lit.int .i64 k2).wf = true)
    (hve : RdE W ve es) (hvb : RdB W vb lb) (_ : (Lit.int .i64 at_).wf = true) :
    Calls Try.prog 3 #[keyV u1 s1 k1, keyV u2 s2 k2, ve, vb, .int .i64 at_] W fun e w' => e = .returned (.bool true) ∧ Below W.heap.size W w' := by
  obtain ⟨va, vc, rfl, _, _⟩ := hve.form
  obtain ⟨ba, bc, rfl, _, _⟩ := hvb.form
  by_cases g1 : (500 : Int) < (u1.size : Int)
  · go_enter Try.func3, Try.ntmps3
    go_wp2_with fail
    refine (awake2_any _).mono ?_
    rintro e w2 ⟨rfl, hb2⟩
    go_wp2
    go_ret
    exact ⟨rfl, (((Below.refl _ _).alloc (Nat.le_refl _) _).alloc (by simp) _).trans (hb2.mono (by simp; omega))⟩
  by_cases g2 : (500 : Int) < (u2.size : Int)
  · go_enter Try.func3, Try.ntmps3
    go_wp2_with fail
    refine (awake2_any _).mono ?_
    rintro e w2 ⟨rfl, hb2⟩
    go_wp2
    go_ret
    exact ⟨rfl, (((Below.refl _ _).alloc (Nat.le_refl _) _).alloc (by simp) _).trans (hb2.mono (by simp; omega))⟩
  by_cases g3 : (60 : Int) < (es.length : Int)
  · go_enter Try.func3, Try.ntmps3
    go_wp2_with fail
    refine (awake2_any _).mono ?_
    rintro e w2 ⟨rfl, hb2⟩
    go_wp2
    go_ret
    exact ⟨rfl, (((Below.refl _ _).alloc (Nat.le_refl _) _).alloc (by simp) _).trans (hb2.mono (by simp; omega))⟩
  by_cases g4 : (500 : Int) < (lb.length : Int)
  · go_enter Try.func3, Try.ntmps3
    go_wp2_with fail
    refine (awake2_any _).mono ?_
    rintro e w2 ⟨rfl, hb2⟩
    go_wp2
    go_ret
    exact ⟨rfl, (((Below.refl _ _).alloc (Nat.le_refl _) _).alloc (by simp) _).trans (hb2.mono (by simp; omega))⟩
  exact keyAll_near u1 s1 k1 u2 s2 k2 _ es _ lb at_ W hve hvb g1 g2 g3 g4
end Go.Proofs.Ytmeddhjhdjgagaa
