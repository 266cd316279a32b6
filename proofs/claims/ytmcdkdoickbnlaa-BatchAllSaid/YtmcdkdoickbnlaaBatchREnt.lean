/-
  The entries of a batch, as the document tells them; are two lists of entries one?
-/
import Derived.Test.YtmcdkdoickbnlaaBatchEnt
namespace Go.Proofs.Ytmcdkdoickbnlaa
open Go.RowKit

theorem below_undrew {B : Nat} {a b : World} (h : Below B a b) : Below B a.drew b := ⟨h.os, h.tape, h.output, h.size, h.block⟩

set_option maxRecDepth 100000 in
set_option maxHeartbeats 8000000 in
theorem rent_any (s : Int) (v : Value) (l : List Ope) (w : World) (hv : RdO w v l) (hn : l.length ≤ 100000) :
    Calls Try.prog 22 #[batV s v] w (RetE w.heap.size w s (normL l)) := by
  obtain ⟨a, cap, rfl, hc1, hc2⟩ := hv.form
  have hnl := normL_len l
  have HF : Hid (∀ o ∈ normL l, o.fits) := Lib.hid fun o ho => hv.2 o (normL_mem ho)
  have hnorm := rnorm_any (.slice a l.length cap) l _ (hv.below ((Below.refl w.heap.size w).alloc (Nat.le_refl _) (.cells #[.int .i64 s, .slice a l.length cap] 24)) (Nat.le_refl _)) hn
  generalize normL l = N at *
  have HN := Lib.hid hnorm
  clear hnorm hv
  go_enter Try.func22, Try.ntmps22
  go_wp2_with (go_at_call 11; refine HN.out.mono ?_; rintro e w2 ⟨nv, rfl, ho2, hb2⟩; obtain ⟨na, ncap, rfl, hn1, hn2⟩ := ho2.form; have HO2 := Lib.hid (ho2.read HF.out); have b0 := (hb2.cell (p := ⟨w.heap.size, 0, none⟩) (by simp)).trans (by go_simp : _ = some (Value.int .i64 s)); have hy : w.heap.size < w2.heap.size := Nat.lt_of_lt_of_le (by simp) hb2.size; have HB2 := Lib.hid (((Below.refl w.heap.size w).alloc (Nat.le_refl _) _).trans (hb2.mono (by simp))); clear ho2 hb2)
  unfold maxLen at hn2
  go_loopw [3, 5] (fun u i wr => ∃ (k : Nat) (u' : Value), k ≤ N.length ∧ u' = u ∧ i = .int .i64 k ∧ wr.ownsRow w2.heap.size 67 4 u' (N.take k).length (entF s (N.take k)) ∧ Below w2.heap.size w2 wr) (fun _ i _ => N.length - (intOf i).toNat)
  case atStart => exact ⟨0, _, Nat.zero_le _, rfl, rfl, World.ownsRow_nil _ _ _ _, Below.refl _ _⟩
  case round =>
    obtain ⟨k, u, hk, rfl, rfl, hu, hb⟩ := hrel
    have HU := Lib.hid hu
    have HB := Lib.hid hb
    clear hu hb
    by_cases hlt : k < N.length
    · obtain ⟨bn, on, rfl, hbn, hcn⟩ := HO2.out.at_ (by intro h; subst h; simp at hlt)
      obtain ⟨d0, d1, d2⟩ := hcn k hlt
      have g0 := (HB.out.cell (p := ⟨bn, on + k * 3, none⟩) hbn).trans d0
      have g1 := (HB.out.cell (p := ⟨bn, on + k * 3 + 1, none⟩) hbn).trans d1
      have g2 := (HB.out.cell (p := ⟨bn, on + k * 3 + 2, none⟩) hbn).trans d2
      have c0 := (HB.out.cell (p := ⟨w.heap.size, 0, none⟩) hy).trans b0
      have HM := Lib.hid (entF_more (s := s) hlt)
      have htl : (N.take k).length = k := by rw [List.length_take]; omega
      have htl2 : (N.take (k + 1)).length = k + 1 := by rw [List.length_take]; omega
      have HT2 := Lib.hid htl2
      rw [htl] at HU
      have hkn : (k : Int) < (N.length : Int) := by omega
      have hk0 : (0 : Int) ≤ (k : Int) := by omega
      clear d0 d1 d2 hcn htl htl2
      generalize N.getD k Ope.none_ = o at *
      go_upto_region 6 with (fail)
      refine wp_region_planB w2.heap.size [(true, 0), (true, 1), (true, 2), (true, 3), (true, 4), (true, 5), (true, 6), (true, 7), (true, 8), (true, 9), (true, 10), (true, 11), (true, 12), (true, 14), (true, 15), (true, 16), (true, 17), (true, 18), (false, 13), (false, 19), (false, 20), (false, 21), (true, 22)] (by kernel_rfl) (by kernel_rfl) (by kernel_rfl) (by kernel_rfl) (by kernel_rfl) ?_
      simp only [planO, List.drop_succ_cons, List.drop_zero]
      refine PlanO.take (v := ?v0) (by kernel_rfl) ?y0 ?r0
      case y0 => (intro wz hz; go_simp; try with_reducible rfl)
      (try simp only [Act.put, List.setIfInBounds_toArray, List.set_cons_zero, List.set_cons_succ])
      refine PlanO.take (v := ?v1) (by kernel_rfl) ?y1 ?r1
      case y1 => (intro wz hz; go_simp; try with_reducible rfl)
      (try simp only [Act.put, List.setIfInBounds_toArray, List.set_cons_zero, List.set_cons_succ])
      refine PlanO.take (v := ?v2) (by kernel_rfl) ?y2 ?r2
      case y2 => (intro wz hz; go_simp; try with_reducible rfl)
      (try simp only [Act.put, List.setIfInBounds_toArray, List.set_cons_zero, List.set_cons_succ])
      refine PlanO.take (v := ?v3) (by kernel_rfl) ?y3 ?r3
      case y3 => (intro wz hz; go_simp; try with_reducible rfl)
      (try simp only [Act.put, List.setIfInBounds_toArray, List.set_cons_zero, List.set_cons_succ])
      refine PlanO.take (v := ?v4) (by kernel_rfl) ?y4 ?r4
      case y4 => (intro wz hz; go_simp; try with_reducible rfl)
      (try simp only [Act.put, List.setIfInBounds_toArray, List.set_cons_zero, List.set_cons_succ])
      refine PlanO.take (v := ?v5) (by kernel_rfl) ?y5 ?r5
      case y5 => (intro wz hz; have q1 := (hz.cell (p := ⟨bn, on + k * 3 + 1, none⟩) hbn).trans g1; go_simp; try with_reducible rfl)
      (try simp only [Act.put, List.setIfInBounds_toArray, List.set_cons_zero, List.set_cons_succ])
      refine PlanO.take (v := ?v6) (by kernel_rfl) ?y6 ?r6
      case y6 => (intro wz hz; go_simp; try with_reducible rfl)
      (try simp only [Act.put, List.setIfInBounds_toArray, List.set_cons_zero, List.set_cons_succ])
      refine PlanO.take (v := ?v7) (by kernel_rfl) ?y7 ?r7
      case y7 => (intro wz hz; have q := (hz.cell (p := ⟨w.heap.size, 0, none⟩) hy).trans c0; go_simp; try with_reducible rfl)
      (try simp only [Act.put, List.setIfInBounds_toArray, List.set_cons_zero, List.set_cons_succ])
      refine PlanO.take (v := ?v8) (by kernel_rfl) ?y8 ?r8
      case y8 => (intro wz hz; go_simp; try with_reducible rfl)
      (try simp only [Act.put, List.setIfInBounds_toArray, List.set_cons_zero, List.set_cons_succ])
      refine PlanO.take (v := ?v9) (by kernel_rfl) ?y9 ?r9
      case y9 => (intro wz hz; go_simp; try with_reducible rfl)
      (try simp only [Act.put, List.setIfInBounds_toArray, List.set_cons_zero, List.set_cons_succ])
      refine PlanO.take (v := ?v10) (by kernel_rfl) ?y10 ?r10
      case y10 => (intro wz hz; go_simp; try with_reducible rfl)
      (try simp only [Act.put, List.setIfInBounds_toArray, List.set_cons_zero, List.set_cons_succ])
      refine PlanO.take (v := ?v11) (by kernel_rfl) ?y11 ?r11
      case y11 => (intro wz hz; go_simp; try with_reducible rfl)
      (try simp only [Act.put, List.setIfInBounds_toArray, List.set_cons_zero, List.set_cons_succ])
      refine PlanO.take (v := ?v12) (by kernel_rfl) ?y12 ?r12
      case y12 => (intro wz hz; have q0 := (hz.cell (p := ⟨bn, on + k * 3, none⟩) hbn).trans g0; go_simp; try with_reducible rfl)
      (try simp only [Act.put, List.setIfInBounds_toArray, List.set_cons_zero, List.set_cons_succ])
      refine PlanO.take (v := ?v14) (by kernel_rfl) ?y14 ?r14
      case y14 => (intro wz hz; go_simp; try with_reducible rfl)
      (try simp only [Act.put, List.setIfInBounds_toArray, List.set_cons_zero, List.set_cons_succ])
      refine PlanO.take (v := ?v15) (by kernel_rfl) ?y15 ?r15
      case y15 => (intro wz hz; go_simp; try with_reducible rfl)
      (try simp only [Act.put, List.setIfInBounds_toArray, List.set_cons_zero, List.set_cons_succ])
      refine PlanO.take (v := ?v16) (by kernel_rfl) ?y16 ?r16
      case y16 => (intro wz hz; go_simp; try with_reducible rfl)
      (try simp only [Act.put, List.setIfInBounds_toArray, List.set_cons_zero, List.set_cons_succ])
      refine PlanO.take (v := ?v17) (by kernel_rfl) ?y17 ?r17
      case y17 => (intro wz hz; go_simp; try with_reducible rfl)
      (try simp only [Act.put, List.setIfInBounds_toArray, List.set_cons_zero, List.set_cons_succ])
      refine PlanO.take (v := ?v18) (by kernel_rfl) ?y18 ?r18
      case y18 => (intro wz hz; have q2 := (hz.cell (p := ⟨bn, on + k * 3 + 2, none⟩) hbn).trans g2; go_simp; try with_reducible rfl)
      (try simp only [Act.put, List.setIfInBounds_toArray, List.set_cons_zero, List.set_cons_succ])
      refine PlanO.keep (fun K hK => ?_)
      go_simp
      refine hK.out _ _ (Below.refl _ _) ?_
      clear hK K
      (try simp only [Act.put, List.setIfInBounds_toArray, List.set_cons_zero, List.set_cons_succ])
      refine PlanO.keep (fun K hK => ?_)
      go_simp
      refine hK.out _ _ (Below.refl _ _) ?_
      clear hK K
      (try simp only [Act.put, List.setIfInBounds_toArray, List.set_cons_zero, List.set_cons_succ])
      refine PlanO.keep (fun K hK => ?_)
      go_simp
      refine hK.out _ _ (below_undrew ((Below.refl w2.heap.size wr).alloc HB.out.size _).drew) ?_
      clear hK K
      (try simp only [Act.put, List.setIfInBounds_toArray, List.set_cons_zero, List.set_cons_succ])
      refine PlanO.keep (fun K hK => ?_)
      refine step_append_rd rfl (.tmp 15) (.tmp 35) 39 rfl w2.heap.size 67 4 48 (.agg #[.string ⟨#[]⟩, .int .i64 0, .int .i64 0, .string ⟨#[]⟩]) Try.underlying39 info_ent rfl (by decide) _ _ _ 1 _ (entF s [o]) rfl rfl (World.ownsRow.drew (World.ownsRow.alloc HU.out _)) (Rd.below (one_ent wr s o) (Below.refl _ _).drew (Nat.le_refl _)) (entF_one _ _) ?b1 ?b2 ?b3 ?_
      case b1 => (have := HB.out.size; simp; omega)
      case b2 => omega
      case b3 => (unfold maxLen; omega)
      intro v' w' hown hBk
      have hb := hBk w2.heap.size w2 (Nat.le_refl _) (HB.out.alloc HB.out.size _).drew
      have HO := Lib.hid hown
      have HBA := Lib.hid hb
      refine hK.out _ _ (hBk _ _ (Nat.le_refl _) (Below.refl _ _)) ?_
      clear hK K
      (try simp only [Act.put, List.setIfInBounds_toArray, List.set_cons_zero, List.set_cons_succ])
      refine PlanO.take (v := ?v22) (by kernel_rfl) ?y22 ?r22
      case y22 => (intro wz hz; go_simp; try with_reducible rfl)
      (try simp only [Act.put, List.setIfInBounds_toArray, List.set_cons_zero, List.set_cons_succ])
      refine PlanO.done (NoPanic.normal ?_)
      go_wp2
      refine ⟨⟨k + 1, v', by omega, rfl, by go_num, ?_, HBA.out⟩, ?_⟩
      · rw [HT2.out, HM.out]; exact HO.out
      · simp [intOf]; omega
    · obtain rfl : k = N.length := by omega
      go_wp2
      go_ret
      refine ⟨_, rfl, ?_, HB2.out.trans (HB.out.mono HB2.out.size)⟩
      have hu := HU.out
      rw [List.take_length] at hu
      exact own_mono hu HB2.out.size

theorem rd_ent {w : World} {a : Option Addr} {cap : Nat} {s : Int} {l : List Ope} (h : Rd w 4 (.slice a l.length cap) l.length (entF s l)) {i : Nat} (hi : i < l.length) :
    ∃ b off, a = some ⟨b, off, none⟩ ∧ b < w.heap.size ∧ w.cell? ⟨b, off + i * 4, none⟩ = some (.string (l.getD i Ope.none_).u) ∧ w.cell? ⟨b, off + i * 4 + 1, none⟩ = some (.int .i64 s) ∧ w.cell? ⟨b, off + i * 4 + 2, none⟩ = some (.int .i64 (l.getD i Ope.none_).k) ∧
      w.cell? ⟨b, off + i * 4 + 3, none⟩ = some (.string (l.getD i Ope.none_).v) := by
  obtain ⟨a', cap', hv, h1, h2, h0, h3 | ⟨b, off, rfl, h4, h5⟩⟩ := h
  · omega
  · cases hv
    refine ⟨b, off, rfl, h4, ?_, ?_, ?_, ?_⟩
    · exact h5 (i * 4) _ (entF_at s l i 0 hi (by omega))
    · rw [Nat.add_assoc]; exact h5 (i * 4 + 1) _ (entF_at s l i 1 hi (by omega))
    · rw [Nat.add_assoc]; exact h5 (i * 4 + 2) _ (entF_at s l i 2 hi (by omega))
    · rw [Nat.add_assoc]; exact h5 (i * 4 + 3) _ (entF_at s l i 3 hi (by omega))

set_option maxRecDepth 100000 in
set_option maxHeartbeats 4000000 in
/-- SameEntries of the entries of one list, told twice. -/
theorem rsameE_any (s : Int) (va vb : Value) (l : List Ope) (w : World) (hl : l.length < 1000000) (ha : Rd w 4 va l.length (entF s l)) (hb : Rd w 4 vb l.length (entF s l)) :
    Calls Try.prog 20 #[va, vb] w fun e w' => e = .returned (.bool true) ∧ Below w.heap.size w w' := by
  obtain ⟨aa, ca, rfl⟩ : ∃ a c, va = .slice a l.length c := by obtain ⟨a, c, h, _⟩ := ha; exact ⟨a, c, h⟩
  obtain ⟨ab, cb, rfl⟩ : ∃ a c, vb = .slice a l.length c := by obtain ⟨a, c, h, _⟩ := hb; exact ⟨a, c, h⟩
  have HA := Lib.hid ha
  have HB := Lib.hid hb
  clear ha hb
  go_enter Try.func20, Try.ntmps20
  go_wp2
  go_loopw [5] (fun i wr => ∃ k : Nat, k ≤ l.length ∧ i = .int .i64 k ∧ Below w.heap.size w wr) (fun i _ => l.length - (intOf i).toNat)
  case atStart => exact ⟨0, Nat.zero_le _, rfl, Below.refl _ _⟩
  case round =>
    obtain ⟨k, hk, rfl, hbl⟩ := hrel
    have HBL := Lib.hid hbl
    clear hbl
    by_cases hlt : k < l.length
    · obtain ⟨ba, oa, rfl, hba, a0, a1, a2, a3⟩ := rd_ent HA.out hlt
      obtain ⟨bb, ob, rfl, hbb, b0, b1, b2, b3⟩ := rd_ent HB.out hlt
      have c0 := (HBL.out.cell (p := ⟨ba, oa + k * 4, none⟩) hba).trans a0
      have c1 := (HBL.out.cell (p := ⟨ba, oa + k * 4 + 1, none⟩) hba).trans a1
      have c2 := (HBL.out.cell (p := ⟨ba, oa + k * 4 + 2, none⟩) hba).trans a2
      have c3 := (HBL.out.cell (p := ⟨ba, oa + k * 4 + 3, none⟩) hba).trans a3
      have d0 := (HBL.out.cell (p := ⟨bb, ob + k * 4, none⟩) hbb).trans b0
      have d1 := (HBL.out.cell (p := ⟨bb, ob + k * 4 + 1, none⟩) hbb).trans b1
      have d2 := (HBL.out.cell (p := ⟨bb, ob + k * 4 + 2, none⟩) hbb).trans b2
      have d3 := (HBL.out.cell (p := ⟨bb, ob + k * 4 + 3, none⟩) hbb).trans b3
      clear a0 a1 a2 a3 b0 b1 b2 b3
      generalize l.getD k Ope.none_ = o at *
      go_wp2
      go_quiet (fail)
      go_wp2
      refine ⟨⟨k + 1, by omega, by go_num, below_drewN HBL.out _⟩, ?_⟩
      simp [intOf]; omega
    · go_wp2
      go_ret
      exact ⟨rfl, HBL.out⟩
end Go.Proofs.Ytmcdkdoickbnlaa
