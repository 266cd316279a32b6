import Derived.Test.YtfeogoihkpclcaaMg21

/-
  The document's disk: Safe.
-/
namespace Go.Proofs.Ytfeogoihkpclcaa
open Go.RowKit

set_option maxRecDepth 100000 in
set_option maxHeartbeats 8000000 in
set_option linter.unusedSimpArgs false in
theorem dsafe_any {o : Nat → DR} {v : DV} {gs : List GD} {w : World} {q : Nat} {m : DM} (h : DocAt o v gs w q m) (hsm : DSm m) (hfo : DFo m m.now) (s : ByteArray) :
    Calls Try.prog 29 #[.pointer (some ⟨q, 0, none⟩), .string s] w fun e w' => e = .returned (.int .i64 ((m.safe s.data.toList).1 : Int)) ∧ DocTo o w w' q (m.safe s.data.toList).2 := by
  have HCO := Lib.hid (fun hd => dcount_any w q m h hsm.c0 (by have := hsm.cl; omega) hd)
  have q1 : w.cell? ⟨q, 1, none⟩ = some v.nv := blk_cell h.blk
  have q10 : w.cell? ⟨q, 10, none⟩ = some (.bool m.down) := blk_cell h.blk
  have HH := Lib.hid h
  obtain ⟨na, nc, hnv, _, _⟩ := h.now
  rw [hnv] at q1
  have HNW := Lib.hid (show Rd w 2 (.slice na m.now.length nc) m.now.length (bCells m.now) by rw [← hnv]; exact h.now)
  clear hnv h
  unfold DM.safe
  have hfd := dfind_any w (.slice na m.now.length nc) m.now s (by have := hsm.now; omega) HNW.out
  by_cases hd : m.down = true
  · rw [if_pos hd]
    rw [hd] at q10
    have HF := Lib.hid hfd
    clear hd hfd
    go_enter Try.func29, Try.ntmps29
    go_wp2_with (first | (go_at_call 62; (with_reducible refine HF.out.mono ?_); rintro e w1 ⟨rfl, rfl⟩))
    go_ret
    exact ⟨rfl, DocTo.of_below HH.out (Below.refl _ _)⟩
  rw [if_neg hd]
  have hd' : m.down = false := by simpa using hd
  have HCO := Lib.hid (HCO.out hd')
  rw [hd'] at q10
  clear hd hd'
  cases hf : dfind m.now s.data.toList with
  | none =>
    rw [show dfindI m.now s.data.toList = -1 by unfold dfindI; rw [hf]] at hfd
    have HF := Lib.hid hfd
    clear hfd hf
    dsimp only
    go_enter Try.func29, Try.ntmps29
    go_wp2_with (first | (go_at_call 62; (with_reducible refine HF.out.mono ?_); rintro e w1 ⟨rfl, rfl⟩))
    go_ret
    exact ⟨rfl, DocTo.of_below HH.out (Below.refl _ _)⟩
  | some id =>
    rw [show dfindI m.now s.data.toList = (id : Int) by unfold dfindI; rw [hf]] at hfd
    have HF := Lib.hid hfd
    have hidm := hfo.id_ hf
    have hokm := hfo.ok hf
    dsimp only
    clear hfd hf hfo
    by_cases his : m.is = true
    · rw [if_pos his]
      have HIS := Lib.hid his
      clear his hsm
      go_enter Try.func29, Try.ntmps29
      go_wp2_with (go_at_call 62; (with_reducible refine HF.out.mono ?_); rintro e w1 ⟨rfl, rfl⟩)
      refine HCO.out.mono ?_
      rw [HIS.out]
      rintro e w1 ⟨rfl, hd1, hk1⟩
      obtain ⟨mc, hmc⟩ : ∃ mc, mc = m.counted := ⟨_, rfl⟩
      rw [← hmc] at hd1
      obtain ⟨w2, hw2⟩ : ∃ w2, w2 = w1.drew := ⟨_, rfl⟩
      have hD2 : DocAt o v gs w2 q mc := by rw [hw2]; exact hd1.below (Below.refl _ _).drew
      have hK2 : Kept (fun k => k < w.heap.size ∧ k ≠ q) w w2 := by rw [hw2]; exact hk1.drew
      have hidc : id < mc.files.length := by rw [hmc]; exact hidm
      obtain ⟨fb, fc, g, hfv, hg, hdf, hc2, hfb, hgc, hga⟩ := hD2.file hidc
      have hid : id < gs.length := (List.getElem?_eq_some_iff.1 hg).1
      have hok : FOkD g.df := by rw [hdf, hmc]; exact hokm
      have hdfm : g.df = m.file id := by rw [hdf, hmc]; rfl
      have HA := Lib.hid (dall_at hga hok)
      have hqf : q ≠ g.fp := fun e => by have := hD2.rol; rw [e, hga.rol] at this; cases this
      have hff : fb ≠ g.fp := fun e => by have := hD2.orow fb (by rw [hfv]; rfl); rw [e, hga.rol] at this; cases this
      have HW2 := Lib.hid hw2
      have HD2 := Lib.hid hD2
      have HK2 := Lib.hid hK2
      have H2 := Lib.hid hD2.blk
      have HG2 := Lib.hid hga.blk
      have HGA := Lib.hid hga
      have HC2 := Lib.hid hc2
      have HFB := Lib.hid hfb
      have HFV := Lib.hid hfv
      have HGG := Lib.hid hg
      have HMC := Lib.hid hmc
      have HDF := Lib.hid hdfm
      obtain ⟨b, hbb⟩ : ∃ b, b = g.df.all := ⟨_, rfl⟩
      rw [← hbb] at HA
      have HBB := Lib.hid hbb
      clear hw2 hD2 hK2 hga hc2 hfb hfv hg hmc hdf hdfm hd1 hk1 hok hbb hidc hidm hokm q1 q10
      go_wp2
      refine wp_region_two (fun wz => wz.heap[q]? = some (.cells (docCells v mc) 56 (0, 0)) ∧ wz.cell? ⟨fb, id, none⟩ = some (.pointer (some ⟨g.fp, 0, none⟩))) (fun _ => True) [(0, 0), (0, 1), (0, 2), (0, 3), (0, 4), (0, 5), (0, 6), (0, 7), (0, 8), (0, 9), (0, 10), (0, 11), (0, 12), (0, 13), (2, 14), (0, 15), (0, 16), (3, 17)] [17] (by kernel_rfl) (by kernel_rfl) (by kernel_rfl) (by kernel_rfl) (by kernel_rfl) (by rw [← HW2.out]; exact ⟨H2.out, HC2.out⟩) trivial ?_
      simp only [planT, List.drop_succ_cons, List.drop_zero]
      rw [← HW2.out]
      refine PlanT.take0 (v := ?v0) (by kernel_rfl) ?y0 ?r0
      case y0 => (intro wz hz; obtain ⟨z1, z2⟩ := hz; have k0 : wz.cell? ⟨q, 0, none⟩ = some (.slice (some ⟨fb, 0, none⟩) gs.length fc) := (by rw [← HFV.out]; exact blk_cell z1); clear z1; go_simp; try with_reducible rfl)
      (try simp only [Act.put, List.setIfInBounds_toArray, List.set_cons_zero, List.set_cons_succ])
      refine PlanT.take0 (v := ?v1) (by kernel_rfl) ?y1 ?r1
      case y1 => (intro wz hz; obtain ⟨z1, z2⟩ := hz; have k0 : wz.cell? ⟨q, 0, none⟩ = some (.slice (some ⟨fb, 0, none⟩) gs.length fc) := (by rw [← HFV.out]; exact blk_cell z1); clear z1; go_simp; try with_reducible rfl)
      (try simp only [Act.put, List.setIfInBounds_toArray, List.set_cons_zero, List.set_cons_succ])
      refine PlanT.take0 (v := ?v2) (by kernel_rfl) ?y2 ?r2
      case y2 => (intro wz hz; obtain ⟨z1, z2⟩ := hz; have k0 : wz.cell? ⟨q, 0, none⟩ = some (.slice (some ⟨fb, 0, none⟩) gs.length fc) := (by rw [← HFV.out]; exact blk_cell z1); clear z1; go_simp; try with_reducible rfl)
      (try simp only [Act.put, List.setIfInBounds_toArray, List.set_cons_zero, List.set_cons_succ])
      refine PlanT.take0 (v := ?v3) (by kernel_rfl) ?y3 ?r3
      case y3 => (intro wz hz; obtain ⟨z1, z2⟩ := hz; have k0 : wz.cell? ⟨q, 0, none⟩ = some (.slice (some ⟨fb, 0, none⟩) gs.length fc) := (by rw [← HFV.out]; exact blk_cell z1); clear z1; go_simp; try with_reducible rfl)
      (try simp only [Act.put, List.setIfInBounds_toArray, List.set_cons_zero, List.set_cons_succ])
      refine PlanT.take0 (v := ?v4) (by kernel_rfl) ?y4 ?r4
      case y4 => (intro wz hz; obtain ⟨z1, z2⟩ := hz; have k0 : wz.cell? ⟨q, 0, none⟩ = some (.slice (some ⟨fb, 0, none⟩) gs.length fc) := (by rw [← HFV.out]; exact blk_cell z1); clear z1; go_simp; try with_reducible rfl)
      (try simp only [Act.put, List.setIfInBounds_toArray, List.set_cons_zero, List.set_cons_succ])
      refine PlanT.take0 (v := ?v5) (by kernel_rfl) ?y5 ?r5
      case y5 => (intro wz hz; obtain ⟨z1, z2⟩ := hz; have k0 : wz.cell? ⟨q, 0, none⟩ = some (.slice (some ⟨fb, 0, none⟩) gs.length fc) := (by rw [← HFV.out]; exact blk_cell z1); clear z1; go_simp; try with_reducible rfl)
      (try simp only [Act.put, List.setIfInBounds_toArray, List.set_cons_zero, List.set_cons_succ])
      refine PlanT.take0 (v := ?v6) (by kernel_rfl) ?y6 ?r6
      case y6 => (intro wz hz; obtain ⟨z1, z2⟩ := hz; have k0 : wz.cell? ⟨q, 0, none⟩ = some (.slice (some ⟨fb, 0, none⟩) gs.length fc) := (by rw [← HFV.out]; exact blk_cell z1); clear z1; go_simp; try with_reducible rfl)
      (try simp only [Act.put, List.setIfInBounds_toArray, List.set_cons_zero, List.set_cons_succ])
      refine PlanT.take0 (v := ?v7) (by kernel_rfl) ?y7 ?r7
      case y7 => (intro wz hz; obtain ⟨z1, z2⟩ := hz; have k0 : wz.cell? ⟨q, 0, none⟩ = some (.slice (some ⟨fb, 0, none⟩) gs.length fc) := (by rw [← HFV.out]; exact blk_cell z1); clear z1; go_simp; try with_reducible rfl)
      (try simp only [Act.put, List.setIfInBounds_toArray, List.set_cons_zero, List.set_cons_succ])
      refine PlanT.take0 (v := ?v8) (by kernel_rfl) ?y8 ?r8
      case y8 => (intro wz hz; obtain ⟨z1, z2⟩ := hz; have k0 : wz.cell? ⟨q, 0, none⟩ = some (.slice (some ⟨fb, 0, none⟩) gs.length fc) := (by rw [← HFV.out]; exact blk_cell z1); clear z1; go_simp; try with_reducible rfl)
      (try simp only [Act.put, List.setIfInBounds_toArray, List.set_cons_zero, List.set_cons_succ])
      refine PlanT.take0 (v := ?v9) (by kernel_rfl) ?y9 ?r9
      case y9 => (intro wz hz; obtain ⟨z1, z2⟩ := hz; have k0 : wz.cell? ⟨q, 0, none⟩ = some (.slice (some ⟨fb, 0, none⟩) gs.length fc) := (by rw [← HFV.out]; exact blk_cell z1); clear z1; go_simp; try with_reducible rfl)
      (try simp only [Act.put, List.setIfInBounds_toArray, List.set_cons_zero, List.set_cons_succ])
      refine PlanT.take0 (v := ?v10) (by kernel_rfl) ?y10 ?r10
      case y10 => (intro wz hz; obtain ⟨z1, z2⟩ := hz; have k0 : wz.cell? ⟨q, 0, none⟩ = some (.slice (some ⟨fb, 0, none⟩) gs.length fc) := (by rw [← HFV.out]; exact blk_cell z1); clear z1; go_simp; try with_reducible rfl)
      (try simp only [Act.put, List.setIfInBounds_toArray, List.set_cons_zero, List.set_cons_succ])
      refine PlanT.take0 (v := ?v11) (by kernel_rfl) ?y11 ?r11
      case y11 => (intro wz hz; obtain ⟨z1, z2⟩ := hz; have k0 : wz.cell? ⟨q, 0, none⟩ = some (.slice (some ⟨fb, 0, none⟩) gs.length fc) := (by rw [← HFV.out]; exact blk_cell z1); clear z1; go_simp; try with_reducible rfl)
      (try simp only [Act.put, List.setIfInBounds_toArray, List.set_cons_zero, List.set_cons_succ])
      refine PlanT.take0 (v := ?v12) (by kernel_rfl) ?y12 ?r12
      case y12 => (intro wz hz; obtain ⟨z1, z2⟩ := hz; have k0 : wz.cell? ⟨q, 0, none⟩ = some (.slice (some ⟨fb, 0, none⟩) gs.length fc) := (by rw [← HFV.out]; exact blk_cell z1); clear z1; go_simp; try with_reducible rfl)
      (try simp only [Act.put, List.setIfInBounds_toArray, List.set_cons_zero, List.set_cons_succ])
      refine PlanT.take0 (v := ?v13) (by kernel_rfl) ?y13 ?r13
      case y13 => (intro wz hz; obtain ⟨z1, z2⟩ := hz; have k0 : wz.cell? ⟨q, 0, none⟩ = some (.slice (some ⟨fb, 0, none⟩) gs.length fc) := (by rw [← HFV.out]; exact blk_cell z1); clear z1; go_simp; try with_reducible rfl)
      (try simp only [Act.put, List.setIfInBounds_toArray, List.set_cons_zero, List.set_cons_succ])
      refine PlanT.exec2 (fun K hK => ⟨by kernel_rfl, ?_⟩)
      go_simp
      go_at_call 44
      (with_reducible refine HA.out.mono ?_)
      rintro e w5 ⟨u, rfl, hu, hb5⟩
      obtain ⟨ua, uc, rfl, _, _⟩ := hu.read.form
      have hq5 := (hb5.block q (blk_lt H2.out)).trans H2.out
      have hf5 := (hb5.block g.fp (blk_lt HG2.out)).trans HG2.out
      have hc5 := (hb5.cell (p := ⟨fb, id, none⟩) HFB.out).trans HC2.out
      have c5 : w5.cell? ⟨g.fp, 0, none⟩ = some g.sv := blk_cell hf5
      have f5 : w5.frozen? ⟨g.fp, 0, none⟩ = false := blk_free hf5
      have HU := Lib.hid hu
      have HB5 := Lib.hid hb5
      have HQ5 := Lib.hid hq5
      have HF5 := Lib.hid hf5
      have HC5 := Lib.hid hc5
      clear hu hb5 hq5 hf5 hc5
      go_wp2_with fail
      refine hK.out _ _ ⟨HQ5.out, HC5.out⟩ trivial ?_
      clear hK K
      (try simp only [Act.put, List.setIfInBounds_toArray, List.set_cons_zero, List.set_cons_succ])
      refine PlanT.take0 (v := ?v15) (by kernel_rfl) ?y15 ?r15
      case y15 => (intro wz hz; obtain ⟨z1, z2⟩ := hz; have k0 : wz.cell? ⟨q, 0, none⟩ = some (.slice (some ⟨fb, 0, none⟩) gs.length fc) := (by rw [← HFV.out]; exact blk_cell z1); clear z1; go_simp; try with_reducible rfl)
      (try simp only [Act.put, List.setIfInBounds_toArray, List.set_cons_zero, List.set_cons_succ])
      refine PlanT.take0 (v := ?v16) (by kernel_rfl) ?y16 ?r16
      case y16 => (intro wz hz; obtain ⟨z1, z2⟩ := hz; have k0 : wz.cell? ⟨q, 0, none⟩ = some (.slice (some ⟨fb, 0, none⟩) gs.length fc) := (by rw [← HFV.out]; exact blk_cell z1); clear z1; go_simp; try with_reducible rfl)
      (try simp only [Act.put, List.setIfInBounds_toArray, List.set_cons_zero, List.set_cons_succ])
      refine PlanT.exec3 (fun K hK => ⟨by kernel_rfl, ?_⟩)
      go_simp
      refine hK.out _ _ trivial ?_
      clear hK K
      (try simp only [Act.put, List.setIfInBounds_toArray, List.set_cons_zero, List.set_cons_succ])
      refine PlanT.done (NoPanic.normal ?_)
      obtain ⟨w6, hw6⟩ : ∃ w6, w6 = w5.setCell ⟨g.fp, 0, none⟩ (.slice ua b.length uc) := ⟨_, rfl⟩
      rw [← hw6]
      have hf6 : w6.heap[g.fp]? = some (.cells #[.slice ua b.length uc, g.pv] 98 (0, 0)) := by rw [hw6]; exact (blk_set (i := 0) HF5.out _).trans (by simp)
      have hk56 : Kept (fun k => k ≠ g.fp) w5 w6 := by rw [hw6]; exact (Kept.refl _ w5).setCell (fun h => h rfl) _
      have r0 : w6.cell? ⟨q, 0, none⟩ = some (.slice (some ⟨fb, 0, none⟩) gs.length fc) := (hk56.cell (p := ⟨q, 0, none⟩) hqf).trans (by rw [← HFV.out]; exact blk_cell HQ5.out)
      have r1 : w6.cell? ⟨fb, id, none⟩ = some (.pointer (some ⟨g.fp, 0, none⟩)) := (hk56.cell (p := ⟨fb, id, none⟩) hff).trans HC5.out
      have r2 : w6.cell? ⟨g.fp, 1, none⟩ = some g.pv := blk_cell hf6
      have r3 : w6.frozen? ⟨g.fp, 1, none⟩ = false := blk_free hf6
      have HW6 := Lib.hid hw6
      have HF6 := Lib.hid hf6
      have HK56 := Lib.hid hk56
      clear hw6 hf6 hk56 c5 f5
      go_wp2
      go_ret
      obtain ⟨w7, hw7⟩ : ∃ w7, w7 = w6.setCell ⟨g.fp, 1, none⟩ (.slice none 0 0) := ⟨_, rfl⟩
      rw [← hw7]
      have hf7 : w7.heap[g.fp]? = some (.cells #[.slice ua b.length uc, .slice none 0 0] 98 (0, 0)) := by rw [hw7]; exact (blk_set (i := 1) HF6.out _).trans (by simp)
      have hk67 : Kept (fun k => k ≠ g.fp) w6 w7 := by rw [hw7]; exact (Kept.refl _ w6).setCell (fun h => h rfl) _
      have hk27 : Kept (fun k => k < w2.heap.size ∧ k ≠ g.fp) w2 w7 := (Kept.of HB5.out (R := fun k => k < w2.heap.size ∧ k ≠ g.fp) fun _ h => h.1).trans ((HK56.out.trans hk67).mono fun k h => h.2)
      have hs7 : w7.heap.size = w5.heap.size := by rw [hw7, HW6.out]; simp [World.setCell]
      have hub : ∀ k, (Value.slice ua b.length uc).ownBlock = some k → w2.heap.size ≤ k ∧ k < w5.heap.size := fun k e => World.ownsRow.lt HU.out k e
      have hlt2 : ∀ k, o k ≠ .out → k < w2.heap.size := HD2.out.lt
      have hext : DExt o (cl o (Value.slice ua b.length uc).ownBlock .data) := cl_ext hlt2 fun k e => .inr (hub k e).1
      have hset := HD2.out.set_file (g' := ⟨g.fp, .slice ua b.length uc, .slice none 0 0, b, []⟩) HGG.out rfl (hk27.mono fun k h => ⟨h.1, h.2.1⟩) hf7
        (HU.out.read.kept (R := fun k => k ≠ g.fp) (HK56.out.trans hk67) fun k e ep => by subst ep; have := (hub _ e).1; have := blk_lt HG2.out; omega) (World.ownsRow_nil _ _ _ _) (fun x hx => (nomatch hx)) hext
        (cl_lt (fun k e => by rw [hs7]; exact Nat.lt_of_lt_of_le (hlt2 k e) HB5.out.size) fun k e => by rw [hs7]; exact (hub k e).2) (fun k e => cl_own k e) (fun k e => (nomatch e)) (fun x hx => (nomatch hx)) rfl
      obtain ⟨hz, ht⟩ := hset
      have hgr : Grows (DF_ o) (DF_ (cl o (Value.slice ua b.length uc).ownBlock .data)) w2 w7 := cl_grows (by simp) fun k e => .inr ⟨(hub k e).1, by rw [hs7]; exact (hub k e).2⟩
      have htt := (doc_touch HH.out.rol HK2.out).trans ht (Grows.refl _ _ _)
      have hgg := (Grows.refl (DF_ o) w w2).trans hgr HK2.out.size ht.size
      have e1 : b = (m.file id).all := by rw [HBB.out, HDF.out]
      rw [HMC.out] at hz
      rw [← e1]
      exact ⟨rfl, _, _, _, hz, htt, hgg⟩
    · rw [if_neg his]
      have HIS := Lib.hid (show m.is = false by simpa using his)
      clear his hsm
      go_enter Try.func29, Try.ntmps29
      go_wp2_with (first | (go_at_call 62; (with_reducible refine HF.out.mono ?_); rintro e w1 ⟨rfl, rfl⟩) | (go_at_call 65; (with_reducible refine HCO.out.mono ?_); rw [HIS.out]; rintro e w1 ⟨rfl, hd1, hk1⟩; have HD1 := Lib.hid hd1; have HK1 := Lib.hid hk1; clear hd1 hk1))
      go_ret
      exact ⟨rfl, o, v, gs, HD1.out, doc_touch HH.out.rol HK1.out, Grows.refl _ _ _⟩
end Go.Proofs.Ytfeogoihkpclcaa
