import Derived.Test.YtfeogoihkpclcaaMg22

/-
  The document's disk: Write.
-/
namespace Go.Proofs.Ytfeogoihkpclcaa
open Go.RowKit

theorem info_put : (Try.prog.info? 105).map (fun i => (i.zero, i.size, i.bytes)) = some (some (.agg #[.int .i64 0, .slice none 0 0]), 2, 32) := by kernel_rfl
theorem pw_one1 (a : Nat) (b : List UInt8) (x : Option Addr) (n c : Nat) : ∀ u ∈ pwCells [(a, b, Value.slice x n c)], u.oneCell' = true := by
  intro u hu
  simp [pwCells] at hu
  rcases hu with rfl | rfl <;> rfl

set_option maxRecDepth 100000 in
set_option maxHeartbeats 16000000 in
set_option linter.unusedSimpArgs false in
theorem dwrite_any {o : Nat → DR} {v : DV} {gs : List GD} {w : World} {q : Nat} {m : DM} (h : DocAt o v gs w q m) (hsm : DSm m) (hfo : DFo m m.now) (s : ByteArray) (a : Int) (ha : -9223372036854775808 ≤ a ∧ a ≤ 9223372036854775807) (bv_ : Value) (b : List UInt8) (hbr : RdB w bv_ b) (hbl : b.length ≤ 300) (hba : b ≠ [] → ∀ k, bv_.ownBlock = some k → o k = .out) :
    Calls Try.prog 28 #[.pointer (some ⟨q, 0, none⟩), .string s, .int .i64 a, bv_] w fun e w' => e = .returned (.int .i64 ((m.write s.data.toList a b).1 : Int)) ∧ DocTo o w w' q (m.write s.data.toList a b).2 := by
  obtain ⟨ba, bc, rfl, _, _⟩ := hbr.form
  have HBR0 := Lib.hid hbr
  clear hbr
  have q0 : w.cell? ⟨q, 0, none⟩ = some v.fv := blk_cell h.blk
  have q1 : w.cell? ⟨q, 1, none⟩ = some v.nv := blk_cell h.blk
  have q10 : w.cell? ⟨q, 10, none⟩ = some (.bool m.down) := blk_cell h.blk
  have HH := Lib.hid h
  obtain ⟨na, nc, hnv, _, _⟩ := h.now
  rw [hnv] at q1
  have HNW := Lib.hid (show Rd w 2 (.slice na m.now.length nc) m.now.length (bCells m.now) by rw [← hnv]; exact h.now)
  clear hnv h
  unfold DM.write
  have hfd := dfind_any w (.slice na m.now.length nc) m.now s (by have := hsm.now; omega) HNW.out
  by_cases hd : m.down = true
  · rw [if_pos hd]
    rw [hd] at q10
    have HF := Lib.hid hfd
    clear hd hfd
    go_enter Try.func28, Try.ntmps28
    go_wp2_with (first | (go_at_call 62; (with_reducible refine HF.out.mono ?_); rintro e w1 ⟨rfl, rfl⟩))
    go_ret
    exact ⟨rfl, DocTo.of_below HH.out (Below.refl _ _)⟩
  rw [if_neg hd]
  have hd' : m.down = false := by simpa using hd
  have HD' := Lib.hid hd'
  rw [hd'] at q10
  clear hd hd'
  cases hf : dfind m.now s.data.toList with
  | none =>
    rw [show dfindI m.now s.data.toList = -1 by unfold dfindI; rw [hf]] at hfd
    have HF := Lib.hid hfd
    clear hfd hf
    dsimp only
    go_enter Try.func28, Try.ntmps28
    go_wp2_with (first | (go_at_call 62; (with_reducible refine HF.out.mono ?_); rintro e w1 ⟨rfl, rfl⟩))
    go_ret
    exact ⟨rfl, DocTo.of_below HH.out (Below.refl _ _)⟩
  | some id =>
    rw [show dfindI m.now s.data.toList = (id : Int) by unfold dfindI; rw [hf]] at hfd
    have HF := Lib.hid hfd
    obtain ⟨fb, fc, g, hfv, hg, hdf, hcf, hfb, hgc, hga⟩ := HH.out.file (hfo.id_ hf)
    rw [hfv] at q0
    have hid : id < gs.length := (List.getElem?_eq_some_iff.1 hg).1
    have hok := hfo.ok hf
    rw [← hdf] at hok
    have HA := Lib.hid (dall_at hga hok)
    dsimp only
    rw [← hdf]
    have hzl := hok.all_len
    have hul : m.used ≤ 100000 * m.now.length := used_le hfo
    have HFO := Lib.hid hfo
    have HSM := Lib.hid hsm
    have HOK := Lib.hid hok
    have HGG := Lib.hid hg
    have HDF := Lib.hid hdf
    have HGA0 := Lib.hid hga
    have hnl := hsm.now
    generalize hz0 : g.df.all.length = z at *
    have HZ := Lib.hid hz0
    have HA := Lib.hid (show Calls Try.prog 44 #[.pointer (some ⟨g.fp, 0, none⟩)] w fun e w' => ∃ ua uc, e = .returned (.slice ua z uc) ∧ Below w.heap.size w w' from by
      refine HA.out.mono ?_
      rintro e w' ⟨u, rfl, hu, hb⟩
      obtain ⟨ua, uc, rfl, _, _⟩ := hu.read.form
      exact ⟨ua, uc, by rw [hz0], hb⟩)
    clear hfd hf hfv hg hdf hga hok hfo hsm hz0
    by_cases h1 : a < 0 ∨ (z : Int) < a
    · rw [if_pos h1]
      have h1' : a < 0 ∨ (0 ≤ a ∧ (z : Int) < a) := by omega
      clear h1
      rcases h1' with g1 | ⟨g1, g2⟩
      all_goals
        go_enter Try.func28, Try.ntmps28
        go_wp2_with (first | (go_at_call 62; (with_reducible refine HF.out.mono ?_); rintro e w1 ⟨rfl, rfl⟩) | (go_at_call 44; (with_reducible refine HA.out.mono ?_); rintro e w1 ⟨ua, uc, rfl, hb1⟩; have HB1 := Lib.hid hb1; clear hb1))
        go_ret
        exact ⟨rfl, DocTo.of_below HH.out HB1.out⟩
    rw [if_neg h1]
    obtain ⟨at_, rfl⟩ := Int.eq_ofNat_of_zero_le (show 0 ≤ a by omega)
    have g1 : ¬ (z : Int) < (at_ : Int) := by omega
    have haz : at_ ≤ z := by omega
    clear h1
    have h2 : ¬ (1048576 : Int) - (at_ : Int) < (b.length : Int) := by omega
    rw [if_neg h2]
    obtain ⟨X, hX⟩ : ∃ X : Nat, max 0 ((at_ : Int) + (b.length : Int) - (z : Int)) = (X : Int) := ⟨(max 0 ((at_ : Int) + (b.length : Int) - (z : Int))).toNat, by omega⟩
    have hXl : X ≤ 200000 := by omega
    rw [hX]
    obtain ⟨U, hU⟩ : ∃ U, m.used = U := ⟨_, rfl⟩
    rw [hU] at hul ⊢
    have HUU := Lib.hid hU
    clear hU
    have hw1 : IntKind.i64.wrap ((at_ : Int) + (b.length : Int)) = (at_ : Int) + (b.length : Int) := IntWalk.i64_in _ (by omega)
    have hw3 : IntKind.i64.wrap ((at_ : Int) + (b.length : Int) - (z : Int)) = (at_ : Int) + (b.length : Int) - (z : Int) := IntWalk.i64_in _ (by omega)
    have hux : IntKind.i64.wrap ((U : Int) + (X : Int)) = (U : Int) + (X : Int) := IntWalk.i64_in _ (by omega)
    by_cases h3 : m.plan.room < (U : Int) + (X : Int)
    · rw [if_pos h3]
      go_enter Try.func28, Try.ntmps28
      go_wp2_with (first | (go_at_call 62; (with_reducible refine HF.out.mono ?_); rintro e w1 ⟨rfl, rfl⟩) | (go_at_call 44; (with_reducible refine HA.out.mono ?_); rintro e w1 ⟨ua, uc, rfl, hb1⟩; have HB1 := Lib.hid hb1; clear hb1))
      obtain ⟨w2, hw2⟩ : ∃ w2, w2 = w1.drew := ⟨_, rfl⟩
      have hb2 : Below w.heap.size w w2 := by rw [hw2]; exact HB1.out.drew
      have hD2 := HH.out.below hb2
      have a4 : w2.cell? ⟨q, 4, none⟩ = some (.int .i64 m.plan.room) := blk_cell hD2.blk
      have HUS := Lib.hid (dused_any hD2 HSM.out HFO.out)
      rw [HUU.out] at HUS
      have HQ2 := Lib.hid (show q < w2.heap.size from blk_lt hD2.blk)
      have HW2 := Lib.hid hw2
      have HB2 := Lib.hid hb2
      have HD2 := Lib.hid hD2
      clear hw2 hb2 hD2
      refine wp_region_two (fun wz => wz.cell? ⟨q, 4, none⟩ = some (.int .i64 m.plan.room)) (fun _ => True) [(0, 0), (0, 2), (0, 3), (0, 4), (0, 5), (0, 6), (0, 7), (0, 8), (0, 10), (0, 11), (0, 12), (0, 13), (0, 14), (2, 1), (0, 9), (0, 15), (0, 16)] [] (by kernel_rfl) (by kernel_rfl) (by kernel_rfl) (by kernel_rfl) (by kernel_rfl) (by rw [← HW2.out]; exact a4) trivial ?_
      simp only [planT, List.drop_succ_cons, List.drop_zero]
      rw [← HW2.out]
      refine PlanT.take0 (v := ?vQA0) (by kernel_rfl) ?yQA0 ?rQA0
      case yQA0 => (intro wz hz; have k4 := hz; go_simp; try with_reducible rfl)
      (try simp only [Act.put, List.setIfInBounds_toArray, List.set_cons_zero, List.set_cons_succ])
      refine PlanT.take0 (v := ?vQA2) (by kernel_rfl) ?yQA2 ?rQA2
      case yQA2 => (intro wz hz; have k4 := hz; go_simp; try with_reducible rfl)
      (try simp only [Act.put, List.setIfInBounds_toArray, List.set_cons_zero, List.set_cons_succ])
      refine PlanT.take0 (v := ?vQA3) (by kernel_rfl) ?yQA3 ?rQA3
      case yQA3 => (intro wz hz; have k4 := hz; go_simp; try with_reducible rfl)
      (try simp only [Act.put, List.setIfInBounds_toArray, List.set_cons_zero, List.set_cons_succ])
      refine PlanT.take0 (v := ?vQA4) (by kernel_rfl) ?yQA4 ?rQA4
      case yQA4 => (intro wz hz; have k4 := hz; go_simp; try with_reducible rfl)
      (try simp only [Act.put, List.setIfInBounds_toArray, List.set_cons_zero, List.set_cons_succ])
      refine PlanT.take0 (v := ?vQA5) (by kernel_rfl) ?yQA5 ?rQA5
      case yQA5 => (intro wz hz; have k4 := hz; go_simp; try with_reducible rfl)
      (try simp only [Act.put, List.setIfInBounds_toArray, List.set_cons_zero, List.set_cons_succ])
      refine PlanT.take0 (v := ?vQA6) (by kernel_rfl) ?yQA6 ?rQA6
      case yQA6 => (intro wz hz; have k4 := hz; go_simp; try with_reducible rfl)
      (try simp only [Act.put, List.setIfInBounds_toArray, List.set_cons_zero, List.set_cons_succ])
      refine PlanT.take0 (v := ?vQA7) (by kernel_rfl) ?yQA7 ?rQA7
      case yQA7 => (intro wz hz; have k4 := hz; go_simp; try with_reducible rfl)
      (try simp only [Act.put, List.setIfInBounds_toArray, List.set_cons_zero, List.set_cons_succ])
      refine PlanT.take0 (v := .int .i64 (X : Int)) (by kernel_rfl) ?yQA8 ?rQA8
      case yQA8 => (intro wz hz; have k4 := hz; go_simp)
      (try simp only [Act.put, List.setIfInBounds_toArray, List.set_cons_zero, List.set_cons_succ])
      refine PlanT.take0 (v := ?vQA10) (by kernel_rfl) ?yQA10 ?rQA10
      case yQA10 => (intro wz hz; have k4 := hz; go_simp; try with_reducible rfl)
      (try simp only [Act.put, List.setIfInBounds_toArray, List.set_cons_zero, List.set_cons_succ])
      refine PlanT.take0 (v := ?vQA11) (by kernel_rfl) ?yQA11 ?rQA11
      case yQA11 => (intro wz hz; have k4 := hz; go_simp; try with_reducible rfl)
      (try simp only [Act.put, List.setIfInBounds_toArray, List.set_cons_zero, List.set_cons_succ])
      refine PlanT.take0 (v := ?vQA12) (by kernel_rfl) ?yQA12 ?rQA12
      case yQA12 => (intro wz hz; have k4 := hz; go_simp; try with_reducible rfl)
      (try simp only [Act.put, List.setIfInBounds_toArray, List.set_cons_zero, List.set_cons_succ])
      refine PlanT.take0 (v := ?vQA13) (by kernel_rfl) ?yQA13 ?rQA13
      case yQA13 => (intro wz hz; have k4 := hz; go_simp; try with_reducible rfl)
      (try simp only [Act.put, List.setIfInBounds_toArray, List.set_cons_zero, List.set_cons_succ])
      refine PlanT.take0 (v := ?vQA14) (by kernel_rfl) ?yQA14 ?rQA14
      case yQA14 => (intro wz hz; have k4 := hz; go_simp; try with_reducible rfl)
      (try simp only [Act.put, List.setIfInBounds_toArray, List.set_cons_zero, List.set_cons_succ])
      refine PlanT.exec2 (fun K hK => ⟨by kernel_rfl, ?_⟩)
      go_simp
      go_at_call 64
      (with_reducible refine HUS.out.mono ?_)
      rintro e w3 ⟨rfl, hb3⟩
      have HB3 := Lib.hid hb3
      have b4 := (hb3.cell (p := ⟨q, 4, none⟩) HQ2.out).trans a4
      clear hb3
      go_wp2_with fail
      refine hK.out _ _ b4 trivial ?_
      clear hK K
      (try simp only [Act.put, List.setIfInBounds_toArray, List.set_cons_zero, List.set_cons_succ])
      refine PlanT.take0 (v := .int .i64 ((U : Int) + (X : Int))) (by kernel_rfl) ?yQA9 ?rQA9
      case yQA9 => (intro wz hz; have k4 := hz; go_simp)
      (try simp only [Act.put, List.setIfInBounds_toArray, List.set_cons_zero, List.set_cons_succ])
      refine PlanT.take0 (v := .bool (decide (m.plan.room < (U : Int) + (X : Int)))) (by kernel_rfl) ?yQA15 ?rQA15
      case yQA15 => (intro wz hz; have k4 := hz; go_simp)
      (try simp only [Act.put, List.setIfInBounds_toArray, List.set_cons_zero, List.set_cons_succ])
      refine PlanT.take0 (v := .bool (decide (m.plan.room < (U : Int) + (X : Int)))) (by kernel_rfl) ?yQA16 ?rQA16
      case yQA16 => (intro wz hz; have k4 := hz; go_simp)
      (try simp only [Act.put, List.setIfInBounds_toArray, List.set_cons_zero, List.set_cons_succ])
      refine PlanT.done (NoPanic.normal ?_)
      go_wp2
      go_ret
      exact ⟨rfl, DocTo.of_below HH.out (HB2.out.trans (HB3.out.mono HB2.out.size))⟩
    rw [if_neg h3]
    by_cases his : m.is = true
    · rw [if_pos his]
      have HIS := Lib.hid his
      clear his
      go_enter Try.func28, Try.ntmps28
      go_wp2_with (first | (go_at_call 62; (with_reducible refine HF.out.mono ?_); rintro e w1 ⟨rfl, rfl⟩) | (go_at_call 44; (with_reducible refine HA.out.mono ?_); rintro e w1 ⟨ua, uc, rfl, hb1⟩; have HB1 := Lib.hid hb1; clear hb1))
      obtain ⟨w2, hw2⟩ : ∃ w2, w2 = w1.drew := ⟨_, rfl⟩
      have hb2 : Below w.heap.size w w2 := by rw [hw2]; exact HB1.out.drew
      have hD2 := HH.out.below hb2
      have a4 : w2.cell? ⟨q, 4, none⟩ = some (.int .i64 m.plan.room) := blk_cell hD2.blk
      have HUS := Lib.hid (dused_any hD2 HSM.out HFO.out)
      rw [HUU.out] at HUS
      have HQ2 := Lib.hid (show q < w2.heap.size from blk_lt hD2.blk)
      have HW2 := Lib.hid hw2
      have HB2 := Lib.hid hb2
      have HD2 := Lib.hid hD2
      clear hw2 hb2 hD2
      refine wp_region_two (fun wz => wz.cell? ⟨q, 4, none⟩ = some (.int .i64 m.plan.room)) (fun _ => True) [(0, 0), (0, 2), (0, 3), (0, 4), (0, 5), (0, 6), (0, 7), (0, 8), (0, 10), (0, 11), (0, 12), (0, 13), (0, 14), (2, 1), (0, 9), (0, 15), (0, 16)] [] (by kernel_rfl) (by kernel_rfl) (by kernel_rfl) (by kernel_rfl) (by kernel_rfl) (by rw [← HW2.out]; exact a4) trivial ?_
      simp only [planT, List.drop_succ_cons, List.drop_zero]
      rw [← HW2.out]
      refine PlanT.take0 (v := ?vQB0) (by kernel_rfl) ?yQB0 ?rQB0
      case yQB0 => (intro wz hz; have k4 := hz; go_simp; try with_reducible rfl)
      (try simp only [Act.put, List.setIfInBounds_toArray, List.set_cons_zero, List.set_cons_succ])
      refine PlanT.take0 (v := ?vQB2) (by kernel_rfl) ?yQB2 ?rQB2
      case yQB2 => (intro wz hz; have k4 := hz; go_simp; try with_reducible rfl)
      (try simp only [Act.put, List.setIfInBounds_toArray, List.set_cons_zero, List.set_cons_succ])
      refine PlanT.take0 (v := ?vQB3) (by kernel_rfl) ?yQB3 ?rQB3
      case yQB3 => (intro wz hz; have k4 := hz; go_simp; try with_reducible rfl)
      (try simp only [Act.put, List.setIfInBounds_toArray, List.set_cons_zero, List.set_cons_succ])
      refine PlanT.take0 (v := ?vQB4) (by kernel_rfl) ?yQB4 ?rQB4
      case yQB4 => (intro wz hz; have k4 := hz; go_simp; try with_reducible rfl)
      (try simp only [Act.put, List.setIfInBounds_toArray, List.set_cons_zero, List.set_cons_succ])
      refine PlanT.take0 (v := ?vQB5) (by kernel_rfl) ?yQB5 ?rQB5
      case yQB5 => (intro wz hz; have k4 := hz; go_simp; try with_reducible rfl)
      (try simp only [Act.put, List.setIfInBounds_toArray, List.set_cons_zero, List.set_cons_succ])
      refine PlanT.take0 (v := ?vQB6) (by kernel_rfl) ?yQB6 ?rQB6
      case yQB6 => (intro wz hz; have k4 := hz; go_simp; try with_reducible rfl)
      (try simp only [Act.put, List.setIfInBounds_toArray, List.set_cons_zero, List.set_cons_succ])
      refine PlanT.take0 (v := ?vQB7) (by kernel_rfl) ?yQB7 ?rQB7
      case yQB7 => (intro wz hz; have k4 := hz; go_simp; try with_reducible rfl)
      (try simp only [Act.put, List.setIfInBounds_toArray, List.set_cons_zero, List.set_cons_succ])
      refine PlanT.take0 (v := .int .i64 (X : Int)) (by kernel_rfl) ?yQB8 ?rQB8
      case yQB8 => (intro wz hz; have k4 := hz; go_simp)
      (try simp only [Act.put, List.setIfInBounds_toArray, List.set_cons_zero, List.set_cons_succ])
      refine PlanT.take0 (v := ?vQB10) (by kernel_rfl) ?yQB10 ?rQB10
      case yQB10 => (intro wz hz; have k4 := hz; go_simp; try with_reducible rfl)
      (try simp only [Act.put, List.setIfInBounds_toArray, List.set_cons_zero, List.set_cons_succ])
      refine PlanT.take0 (v := ?vQB11) (by kernel_rfl) ?yQB11 ?rQB11
      case yQB11 => (intro wz hz; have k4 := hz; go_simp; try with_reducible rfl)
      (try simp only [Act.put, List.setIfInBounds_toArray, List.set_cons_zero, List.set_cons_succ])
      refine PlanT.take0 (v := ?vQB12) (by kernel_rfl) ?yQB12 ?rQB12
      case yQB12 => (intro wz hz; have k4 := hz; go_simp; try with_reducible rfl)
      (try simp only [Act.put, List.setIfInBounds_toArray, List.set_cons_zero, List.set_cons_succ])
      refine PlanT.take0 (v := ?vQB13) (by kernel_rfl) ?yQB13 ?rQB13
      case yQB13 => (intro wz hz; have k4 := hz; go_simp; try with_reducible rfl)
      (try simp only [Act.put, List.setIfInBounds_toArray, List.set_cons_zero, List.set_cons_succ])
      refine PlanT.take0 (v := ?vQB14) (by kernel_rfl) ?yQB14 ?rQB14
      case yQB14 => (intro wz hz; have k4 := hz; go_simp; try with_reducible rfl)
      (try simp only [Act.put, List.setIfInBounds_toArray, List.set_cons_zero, List.set_cons_succ])
      refine PlanT.exec2 (fun K hK => ⟨by kernel_rfl, ?_⟩)
      go_simp
      go_at_call 64
      (with_reducible refine HUS.out.mono ?_)
      rintro e w3 ⟨rfl, hb3⟩
      have HB3 := Lib.hid hb3
      have b4 := (hb3.cell (p := ⟨q, 4, none⟩) HQ2.out).trans a4
      clear hb3
      go_wp2_with fail
      refine hK.out _ _ b4 trivial ?_
      clear hK K
      (try simp only [Act.put, List.setIfInBounds_toArray, List.set_cons_zero, List.set_cons_succ])
      refine PlanT.take0 (v := .int .i64 ((U : Int) + (X : Int))) (by kernel_rfl) ?yQB9 ?rQB9
      case yQB9 => (intro wz hz; have k4 := hz; go_simp)
      (try simp only [Act.put, List.setIfInBounds_toArray, List.set_cons_zero, List.set_cons_succ])
      refine PlanT.take0 (v := .bool (decide (m.plan.room < (U : Int) + (X : Int)))) (by kernel_rfl) ?yQB15 ?rQB15
      case yQB15 => (intro wz hz; have k4 := hz; go_simp)
      (try simp only [Act.put, List.setIfInBounds_toArray, List.set_cons_zero, List.set_cons_succ])
      refine PlanT.take0 (v := .bool (decide (m.plan.room < (U : Int) + (X : Int)))) (by kernel_rfl) ?yQB16 ?rQB16
      case yQB16 => (intro wz hz; have k4 := hz; go_simp)
      (try simp only [Act.put, List.setIfInBounds_toArray, List.set_cons_zero, List.set_cons_succ])
      refine PlanT.done (NoPanic.normal ?_)
      have hD3 := HD2.out.below HB3.out
      have HD3 := Lib.hid hD3
      have HE3 := Lib.hid (HB2.out.trans (HB3.out.mono HB2.out.size))
      have HCO := Lib.hid (dcount_any w3 q m hD3 HSM.out.c0 (by have := HSM.out.cl; omega) HD'.out)
      clear hD3
      go_wp2_with fail
      refine HCO.out.mono ?_
      rw [HIS.out]
      rintro e w4 ⟨rfl, hd4, hk4⟩
      obtain ⟨mc, hmc⟩ : ∃ mc, mc = m.counted := ⟨_, rfl⟩
      rw [← hmc] at hd4
      obtain ⟨w5, hw5⟩ : ∃ w5, w5 = w4.drew := ⟨_, rfl⟩
      have hD5 : DocAt o v gs w5 q mc := by rw [hw5]; exact hd4.below (Below.refl _ _).drew
      have hT5 : Touch (DF_ o) w w5 := by
        rw [hw5]
        exact Kept.drew ((Touch.of_below HE3.out).trans (doc_touch HD3.out.rol hk4) (Grows.refl _ _ _))
      have hga := hD5.each id g HGG.out
      have HBR := Lib.hid (show RdB w5 (.slice ba b.length bc) b from rd_kept_any HBR0.out (R := Apart (DF_ o) w) hT5 fun h0 k e => ⟨by
        obtain ⟨b', off', cap', hv', _, _, hlt', _⟩ := HBR0.out.cells (fun e => h0 (by rw [e]; rfl))
        cases hv'
        cases e
        exact hlt', fun hd => hd (hba (fun e => h0 (by rw [e]; rfl)) k e)⟩)
      have hps : g.ps.length < 1000 := by
        have := HOK.out.num
        unfold GD.df pwL at this
        rw [List.length_map] at this
        exact this
      have HW5 := Lib.hid hw5
      have HD5 := Lib.hid hD5
      have HT5 := Lib.hid hT5
      have HG5 := Lib.hid hga.blk
      have HGA := Lib.hid hga
      have HMC := Lib.hid hmc
      obtain ⟨pa, pc, hpv, _, _⟩ := rd_of_own hga.row
      have HPV := Lib.hid hpv
      clear hw5 hD5 hT5 hga hmc hd4 hk4 hpv
      go_wp2
      refine wp_region_two (fun wz => wz.heap[g.fp]? = some (.cells #[g.sv, g.pv] 98 (0, 0))) (fun _ => True) [(0, 0), (0, 1), (0, 2), (0, 3), (0, 4), (0, 5), (0, 7), (2, 6), (2, 8), (0, 9), (2, 10), (2, 11), (0, 12), (0, 13), (3, 14)] [14] (by kernel_rfl) (by kernel_rfl) (by kernel_rfl) (by kernel_rfl) (by kernel_rfl) (by rw [← HW5.out]; exact HG5.out) trivial ?_
      simp only [planT, List.drop_succ_cons, List.drop_zero]
      rw [← HW5.out]
      refine PlanT.take0 (v := ?vW0) (by kernel_rfl) ?yW0 ?rW0
      case yW0 => (intro wz hz; have k1 : wz.cell? ⟨g.fp, 1, none⟩ = some g.pv := blk_cell hz; go_simp; try with_reducible rfl)
      (try simp only [Act.put, List.setIfInBounds_toArray, List.set_cons_zero, List.set_cons_succ])
      refine PlanT.take0 (v := ?vW1) (by kernel_rfl) ?yW1 ?rW1
      case yW1 => (intro wz hz; have k1 : wz.cell? ⟨g.fp, 1, none⟩ = some g.pv := blk_cell hz; go_simp; try with_reducible rfl)
      (try simp only [Act.put, List.setIfInBounds_toArray, List.set_cons_zero, List.set_cons_succ])
      refine PlanT.take0 (v := ?vW2) (by kernel_rfl) ?yW2 ?rW2
      case yW2 => (intro wz hz; have k1 : wz.cell? ⟨g.fp, 1, none⟩ = some g.pv := blk_cell hz; go_simp; try with_reducible rfl)
      (try simp only [Act.put, List.setIfInBounds_toArray, List.set_cons_zero, List.set_cons_succ])
      refine PlanT.take0 (v := ?vW3) (by kernel_rfl) ?yW3 ?rW3
      case yW3 => (intro wz hz; have k1 : wz.cell? ⟨g.fp, 1, none⟩ = some g.pv := blk_cell hz; go_simp; try with_reducible rfl)
      (try simp only [Act.put, List.setIfInBounds_toArray, List.set_cons_zero, List.set_cons_succ])
      refine PlanT.take0 (v := ?vW4) (by kernel_rfl) ?yW4 ?rW4
      case yW4 => (intro wz hz; have k1 : wz.cell? ⟨g.fp, 1, none⟩ = some g.pv := blk_cell hz; go_simp; try with_reducible rfl)
      (try simp only [Act.put, List.setIfInBounds_toArray, List.set_cons_zero, List.set_cons_succ])
      refine PlanT.take0 (v := ?vW5) (by kernel_rfl) ?yW5 ?rW5
      case yW5 => (intro wz hz; have k1 : wz.cell? ⟨g.fp, 1, none⟩ = some g.pv := blk_cell hz; go_simp; try with_reducible rfl)
      (try simp only [Act.put, List.setIfInBounds_toArray, List.set_cons_zero, List.set_cons_succ])
      refine PlanT.take0 (v := ?vW7) (by kernel_rfl) ?yW7 ?rW7
      case yW7 => (intro wz hz; have k1 : wz.cell? ⟨g.fp, 1, none⟩ = some g.pv := blk_cell hz; go_simp; try with_reducible rfl)
      (try simp only [Act.put, List.setIfInBounds_toArray, List.set_cons_zero, List.set_cons_succ])
      refine PlanT.exec2 (fun K hK => ⟨by kernel_rfl, ?_⟩)
      go_simp
      have hs6 : (w5.alloc (.cells #[] 5)).heap.size = w5.heap.size + 1 := by simp
      have hf6 := (Below.heap_alloc w5 (.cells #[] 5) g.fp (blk_lt HG5.out)).trans HG5.out
      have HF6 := Lib.hid hf6
      clear hf6
      refine hK.out _ _ HF6.out trivial ?_
      clear hK K
      (try simp only [Act.put, List.setIfInBounds_toArray, List.set_cons_zero, List.set_cons_succ])
      refine PlanT.exec2 (fun K hK => ⟨by kernel_rfl, ?_⟩)
      refine wp_append_at (.tmp 81) (.tmp 82) 32 rfl 5 1 1 (.int .u8 0) Try.underlying32 info_u8 rfl (by decide) (.slice (some ⟨w5.heap.size, 0, none⟩) 0 0) _ 0 b.length [] (b.map bv) rfl rfl (own_base (made_ownD w5 _ _) fun _ _ => Nat.zero_le _) (HBR.out.below ((Below.refl _ _).alloc (Nat.le_refl _) _) (Nat.le_refl _)) (bv_oneCell b) (by omega) (by unfold maxLen; omega) ?_
      intro u6 w6 ho6 hm6
      have hu6 : OwnB w6 0 5 u6 b := (by unfold OwnB; simpa using ho6)
      obtain ⟨ua6, uc6, rfl, _, _⟩ := hu6.read.form
      have hb6 : ∀ k, (Value.slice ua6 b.length uc6).ownBlock = some k → w5.heap.size ≤ k ∧ k < w6.heap.size := fun k e => by rcases hm6.at_ k e with h | h; (· cases h; exact ⟨Nat.le_refl _, own_lt hu6 _ e⟩); (· exact ⟨by omega, h.2⟩)
      have hB6 : Below w5.heap.size w5 w6 := ((Below.refl _ _).alloc (Nat.le_refl _) _).grown hm6.grown (by omega) (fun k e => by cases e; exact Nat.le_refl _)
      have hg6 := (hB6.block g.fp (blk_lt HG5.out)).trans HG5.out
      have HU6 := Lib.hid hu6
      have HUB := Lib.hid hb6
      have HB6 := Lib.hid hB6
      have HG6 := Lib.hid hg6
      clear ho6 hm6 hu6 hb6 hB6 hg6
      refine hK.out _ _ HG6.out trivial ?_
      clear hK K
      (try simp only [Act.put, List.setIfInBounds_toArray, List.set_cons_zero, List.set_cons_succ])
      refine PlanT.take0 (v := ?vW9) (by kernel_rfl) ?yW9 ?rW9
      case yW9 => (intro wz hz; have k1 : wz.cell? ⟨g.fp, 1, none⟩ = some g.pv := blk_cell hz; go_simp; try with_reducible rfl)
      (try simp only [Act.put, List.setIfInBounds_toArray, List.set_cons_zero, List.set_cons_succ])
      refine PlanT.exec2 (fun K hK => ⟨by kernel_rfl, ?_⟩)
      go_simp
      have hg7 := (Below.heap_alloc w6 (.cells #[.int .i64 (at_ : Int), .slice ua6 b.length uc6] 105) g.fp (blk_lt HG6.out)).trans HG6.out
      have HG7 := Lib.hid hg7
      clear hg7
      refine hK.out _ _ HG7.out trivial ?_
      clear hK K
      (try simp only [Act.put, List.setIfInBounds_toArray, List.set_cons_zero, List.set_cons_succ])
      refine PlanT.exec2 (fun K hK => ⟨by kernel_rfl, ?_⟩)
      refine wp_append_at (.tmp 79) (.tmp 85) 96 rfl 105 2 32 (.agg #[.int .i64 0, .slice none 0 0]) Try.underlying96 info_put rfl (by decide) g.pv _ g.ps.length 1 (pwCells g.ps) (pwCells [(at_, b, .slice ua6 b.length uc6)]) rfl rfl ?own ?rd (pw_one1 _ _ _ _ _) (by omega) (by unfold maxLen; omega) ?_
      case own => exact own_kept HGA.out.row (R := fun k => k < w5.heap.size) (Kept.of (HB6.out.alloc HB6.out.size _) fun _ h => h) fun k e => own_lt HGA.out.row k e
      case rd => exact ⟨_, 1, rfl, Nat.le_refl _, by unfold maxLen; omega, rfl, .inr ⟨w6.heap.size, 0, rfl, by simp, fun j u hj => by rw [blk_cell (heap_alloc_new w6 _)]; simpa [pwCells] using hj⟩⟩
      intro v8 w8 ho8 hm8
      obtain ⟨va8, vc8, hv8, _, _⟩ := rd_of_own ho8
      subst hv8
      have hnp : g.pv.ownBlock ≠ some g.fp := fun e => by have := HGA.out.orow g.fp e; rw [HGA.out.rol] at this; cases this
      have hg8 := (hm8.grown.block g.fp (blk_lt HG7.out) (fun e => hnp e.symm)).trans HG7.out
      have c8 : w8.cell? ⟨g.fp, 1, none⟩ = some g.pv := blk_cell hg8
      have f8 : w8.frozen? ⟨g.fp, 1, none⟩ = false := blk_free hg8
      have HO8 := Lib.hid ho8
      have HM8 := Lib.hid hm8
      have HG8 := Lib.hid hg8
      clear ho8 hm8 hg8 hnp
      refine hK.out _ _ HG8.out trivial ?_
      clear hK K
      (try simp only [Act.put, List.setIfInBounds_toArray, List.set_cons_zero, List.set_cons_succ])
      refine PlanT.take0 (v := ?vW12) (by kernel_rfl) ?yW12 ?rW12
      case yW12 => (intro wz hz; have k1 : wz.cell? ⟨g.fp, 1, none⟩ = some g.pv := blk_cell hz; go_simp; try with_reducible rfl)
      (try simp only [Act.put, List.setIfInBounds_toArray, List.set_cons_zero, List.set_cons_succ])
      refine PlanT.take0 (v := ?vW13) (by kernel_rfl) ?yW13 ?rW13
      case yW13 => (intro wz hz; have k1 : wz.cell? ⟨g.fp, 1, none⟩ = some g.pv := blk_cell hz; go_simp; try with_reducible rfl)
      (try simp only [Act.put, List.setIfInBounds_toArray, List.set_cons_zero, List.set_cons_succ])
      refine PlanT.exec3 (fun K hK => ⟨by kernel_rfl, ?_⟩)
      go_simp
      refine hK.out _ _ trivial ?_
      clear hK K
      (try simp only [Act.put, List.setIfInBounds_toArray, List.set_cons_zero, List.set_cons_succ])
      refine PlanT.done (NoPanic.normal ?_)
      obtain ⟨w9, hw9⟩ : ∃ w9, w9 = w8.setCell ⟨g.fp, 1, none⟩ (.slice va8 (g.ps.length + 1) vc8) := ⟨_, rfl⟩
      rw [← hw9]
      have HW9 := Lib.hid hw9
      clear hw9 c8 f8
      go_wp2
      go_ret
      have hm58 : Moves w5 w8 g.pv (.slice va8 (g.ps.length + 1) vc8) := Moves.after (HB6.out.alloc HB6.out.size _) HM8.out
      have hs9 : w9.heap.size = w8.heap.size := by rw [HW9.out]; simp [World.setCell]
      have hlt5 := HD5.out.lt
      have hnp : ∀ k, g.pv.ownBlock = some k → o k = .puts id := HGA.out.orow
      have hfp5 : g.fp < w5.heap.size := blk_lt HG5.out
      have hk59 : Kept (fun k => k < w5.heap.size ∧ k ≠ g.fp ∧ g.pv.ownBlock ≠ some k) w5 w9 := by
        rw [HW9.out]
        exact (hm58.kept fun k hk => ⟨hk.1, hk.2.2⟩).setCell (fun h => h.2.1 rfl) _
      have hs68 : w6.heap.size < w8.heap.size := by have := HM8.out.grown.size; simp at this; omega
      have hk69 : Kept (fun k => k < w6.heap.size ∧ w5.heap.size ≤ k) w6 w9 := by
        rw [HW9.out]
        refine ((Kept.of ((Below.refl w6.heap.size w6).alloc (Nat.le_refl _) _) (R := fun k => k < w6.heap.size ∧ w5.heap.size ≤ k) fun _ h => h.1).trans (HM8.out.kept fun k hk => ⟨by simp; omega, fun e => by have := hlt5 k (by rw [hnp k e]; simp); omega⟩)).setCell (fun h => by have h2 : w5.heap.size ≤ g.fp := h.2; omega) _
      have hf9 : w9.heap[g.fp]? = some (.cells #[g.sv, .slice va8 (g.ps.length + 1) vc8] 98 (0, 0)) := by rw [HW9.out]; exact (blk_set (i := 1) HG8.out _).trans (by simp)
      have hat8 : ∀ k, (Value.slice va8 (g.ps.length + 1) vc8).ownBlock = some k → g.pv.ownBlock = some k ∨ (w6.heap.size ≤ k ∧ k < w8.heap.size) := fun k e => (HM8.out.at_ k e).imp (fun h => h) fun h => ⟨by have := h.1; simp at this; omega, h.2⟩
      have hw65 := HB6.out.size
      have hrow9 : w9.ownsRow 0 105 2 (.slice va8 (g.ps.length + 1) vc8) (g.ps ++ [(at_, b, Value.slice ua6 b.length uc6)]).length (pwCells (g.ps ++ [(at_, b, Value.slice ua6 b.length uc6)])) := by
        have e1 : pwCells (g.ps ++ [(at_, b, Value.slice ua6 b.length uc6)]) = pwCells g.ps ++ pwCells [(at_, b, Value.slice ua6 b.length uc6)] := by simp [pwCells]
        rw [e1, List.length_append, HW9.out]
        refine own_kept HO8.out (R := fun k => k ≠ g.fp) ((Kept.refl _ w8).setCell (fun h => h rfl) _) fun k e ep => ?_
        subst ep
        rcases hat8 _ e with h | h
        · have := hnp _ h; rw [HGA.out.rol] at this; cases this
        · omega
      have he1 : DExt o (cl o (Value.slice ua6 b.length uc6).ownBlock .data) := cl_ext hlt5 fun k e => .inr (HUB.out k e).1
      have hlt1 : ∀ k, cl o (Value.slice ua6 b.length uc6).ownBlock .data k ≠ .out → k < w6.heap.size := cl_lt (fun k e => Nat.lt_of_lt_of_le (hlt5 k e) hw65) fun k e => (HUB.out k e).2
      have he2 : DExt (cl o (Value.slice ua6 b.length uc6).ownBlock .data) (cl (cl o (Value.slice ua6 b.length uc6).ownBlock .data) (Value.slice va8 (g.ps.length + 1) vc8).ownBlock (.puts id)) :=
        cl_ext hlt1 fun k e => (hat8 k e).imp (fun h => he1.at_ (hnp k h) (by simp)) fun h => h.1
      have hext : DExt o (cl (cl o (Value.slice ua6 b.length uc6).ownBlock .data) (Value.slice va8 (g.ps.length + 1) vc8).ownBlock (.puts id)) := fun k hk => (he2 k (by rw [he1 k hk]; exact hk)).trans (he1 k hk)
      have hlt9 : ∀ k, cl (cl o (Value.slice ua6 b.length uc6).ownBlock .data) (Value.slice va8 (g.ps.length + 1) vc8).ownBlock (.puts id) k ≠ .out → k < w9.heap.size :=
        cl_lt (fun k e => by have := hlt1 k e; omega) fun k e => by rw [hs9]; exact own_lt HO8.out k e
      have aw : ∀ {k : Nat} {r : DR}, o k = r → r ≠ .out → r ≠ .file id → r ≠ .puts id → k < w5.heap.size ∧ k ≠ g.fp ∧ g.pv.ownBlock ≠ some k :=
        fun e h0 h1 h2 => ⟨hlt5 _ (by rw [e]; exact h0), fun ep => h1 (by rw [← e, ep, HGA.out.rol]), fun ep => h2 (by rw [← e, hnp _ ep])⟩
      have hset := HD5.out.set_file (g' := ⟨g.fp, g.sv, .slice va8 (g.ps.length + 1) vc8, g.safe, g.ps ++ [(at_, b, Value.slice ua6 b.length uc6)]⟩) HGG.out rfl hk59 hf9
        (rd_kept_any HGA.out.safe hk59 fun _ k e => aw (HGA.out.os k e) (by simp) (by simp) (by simp)) hrow9
        (fun x hx => by
          rcases List.mem_append.1 hx with hx | hx
          · exact rd_kept_any (HGA.out.each x hx) hk59 fun _ k e => aw (HGA.out.oe x hx k e) (by simp) (by simp) (by simp)
          · have hx' : x = (at_, b, Value.slice ua6 b.length uc6) := by simpa using hx
            rw [hx']
            exact RdB.kept HU6.out.read hk69 fun k e => ⟨(HUB.out k e).2, (HUB.out k e).1⟩)
        hext hlt9 (fun k e => hext.at_ (HGA.out.os k e) (by simp)) (fun k e => cl_own k e)
        (fun x hx k e => by
          rcases List.mem_append.1 hx with hx | hx
          · exact hext.at_ (HGA.out.oe x hx k e) (by simp)
          · have hx' : x = (at_, b, Value.slice ua6 b.length uc6) := by simpa using hx
            rw [hx'] at e
            exact he2.at_ (cl_own k e) (by simp)) rfl
      obtain ⟨hz, ht⟩ := hset
      have hgr : Grows (DF_ o) (DF_ (cl (cl o (Value.slice ua6 b.length uc6).ownBlock .data) (Value.slice va8 (g.ps.length + 1) vc8).ownBlock (.puts id))) w w9 := by
        have hw5 := HT5.out.size
        intro k hk
        unfold DF_ cl at hk
        split at hk
        · rename_i e
          rcases hat8 k e with h | h
          · exact .inl (by unfold DF_; rw [hnp k h]; simp)
          · exact .inr ⟨by omega, by rw [hs9]; exact h.2⟩
        · split at hk
          · rename_i e
            exact .inr ⟨by have := (HUB.out k e).1; omega, by have := (HUB.out k e).2; omega⟩
          · exact .inl hk
      have htt := HT5.out.trans ht (Grows.refl _ _ _)
      have e2 : (GD.df ⟨g.fp, g.sv, .slice va8 (g.ps.length + 1) vc8, g.safe, g.ps ++ [(at_, b, Value.slice ua6 b.length uc6)]⟩) = { g.df with loose := g.df.loose ++ [(at_, b)] } := by unfold GD.df pwL; rw [List.map_append]; rfl
      rw [HMC.out, e2] at hz
      exact ⟨rfl, _, _, _, hz, htt, hgr⟩
    · rw [if_neg his]
      have HIS := Lib.hid (show m.is = false by simpa using his)
      clear his
      go_enter Try.func28, Try.ntmps28
      go_wp2_with (first | (go_at_call 62; (with_reducible refine HF.out.mono ?_); rintro e w1 ⟨rfl, rfl⟩) | (go_at_call 44; (with_reducible refine HA.out.mono ?_); rintro e w1 ⟨ua, uc, rfl, hb1⟩; have HB1 := Lib.hid hb1; clear hb1))
      obtain ⟨w2, hw2⟩ : ∃ w2, w2 = w1.drew := ⟨_, rfl⟩
      have hb2 : Below w.heap.size w w2 := by rw [hw2]; exact HB1.out.drew
      have hD2 := HH.out.below hb2
      have a4 : w2.cell? ⟨q, 4, none⟩ = some (.int .i64 m.plan.room) := blk_cell hD2.blk
      have HUS := Lib.hid (dused_any hD2 HSM.out HFO.out)
      rw [HUU.out] at HUS
      have HQ2 := Lib.hid (show q < w2.heap.size from blk_lt hD2.blk)
      have HW2 := Lib.hid hw2
      have HB2 := Lib.hid hb2
      have HD2 := Lib.hid hD2
      clear hw2 hb2 hD2
      refine wp_region_two (fun wz => wz.cell? ⟨q, 4, none⟩ = some (.int .i64 m.plan.room)) (fun _ => True) [(0, 0), (0, 2), (0, 3), (0, 4), (0, 5), (0, 6), (0, 7), (0, 8), (0, 10), (0, 11), (0, 12), (0, 13), (0, 14), (2, 1), (0, 9), (0, 15), (0, 16)] [] (by kernel_rfl) (by kernel_rfl) (by kernel_rfl) (by kernel_rfl) (by kernel_rfl) (by rw [← HW2.out]; exact a4) trivial ?_
      simp only [planT, List.drop_succ_cons, List.drop_zero]
      rw [← HW2.out]
      refine PlanT.take0 (v := ?vQC0) (by kernel_rfl) ?yQC0 ?rQC0
      case yQC0 => (intro wz hz; have k4 := hz; go_simp; try with_reducible rfl)
      (try simp only [Act.put, List.setIfInBounds_toArray, List.set_cons_zero, List.set_cons_succ])
      refine PlanT.take0 (v := ?vQC2) (by kernel_rfl) ?yQC2 ?rQC2
      case yQC2 => (intro wz hz; have k4 := hz; go_simp; try with_reducible rfl)
      (try simp only [Act.put, List.setIfInBounds_toArray, List.set_cons_zero, List.set_cons_succ])
      refine PlanT.take0 (v := ?vQC3) (by kernel_rfl) ?yQC3 ?rQC3
      case yQC3 => (intro wz hz; have k4 := hz; go_simp; try with_reducible rfl)
      (try simp only [Act.put, List.setIfInBounds_toArray, List.set_cons_zero, List.set_cons_succ])
      refine PlanT.take0 (v := ?vQC4) (by kernel_rfl) ?yQC4 ?rQC4
      case yQC4 => (intro wz hz; have k4 := hz; go_simp; try with_reducible rfl)
      (try simp only [Act.put, List.setIfInBounds_toArray, List.set_cons_zero, List.set_cons_succ])
      refine PlanT.take0 (v := ?vQC5) (by kernel_rfl) ?yQC5 ?rQC5
      case yQC5 => (intro wz hz; have k4 := hz; go_simp; try with_reducible rfl)
      (try simp only [Act.put, List.setIfInBounds_toArray, List.set_cons_zero, List.set_cons_succ])
      refine PlanT.take0 (v := ?vQC6) (by kernel_rfl) ?yQC6 ?rQC6
      case yQC6 => (intro wz hz; have k4 := hz; go_simp; try with_reducible rfl)
      (try simp only [Act.put, List.setIfInBounds_toArray, List.set_cons_zero, List.set_cons_succ])
      refine PlanT.take0 (v := ?vQC7) (by kernel_rfl) ?yQC7 ?rQC7
      case yQC7 => (intro wz hz; have k4 := hz; go_simp; try with_reducible rfl)
      (try simp only [Act.put, List.setIfInBounds_toArray, List.set_cons_zero, List.set_cons_succ])
      refine PlanT.take0 (v := .int .i64 (X : Int)) (by kernel_rfl) ?yQC8 ?rQC8
      case yQC8 => (intro wz hz; have k4 := hz; go_simp)
      (try simp only [Act.put, List.setIfInBounds_toArray, List.set_cons_zero, List.set_cons_succ])
      refine PlanT.take0 (v := ?vQC10) (by kernel_rfl) ?yQC10 ?rQC10
      case yQC10 => (intro wz hz; have k4 := hz; go_simp; try with_reducible rfl)
      (try simp only [Act.put, List.setIfInBounds_toArray, List.set_cons_zero, List.set_cons_succ])
      refine PlanT.take0 (v := ?vQC11) (by kernel_rfl) ?yQC11 ?rQC11
      case yQC11 => (intro wz hz; have k4 := hz; go_simp; try with_reducible rfl)
      (try simp only [Act.put, List.setIfInBounds_toArray, List.set_cons_zero, List.set_cons_succ])
      refine PlanT.take0 (v := ?vQC12) (by kernel_rfl) ?yQC12 ?rQC12
      case yQC12 => (intro wz hz; have k4 := hz; go_simp; try with_reducible rfl)
      (try simp only [Act.put, List.setIfInBounds_toArray, List.set_cons_zero, List.set_cons_succ])
      refine PlanT.take0 (v := ?vQC13) (by kernel_rfl) ?yQC13 ?rQC13
      case yQC13 => (intro wz hz; have k4 := hz; go_simp; try with_reducible rfl)
      (try simp only [Act.put, List.setIfInBounds_toArray, List.set_cons_zero, List.set_cons_succ])
      refine PlanT.take0 (v := ?vQC14) (by kernel_rfl) ?yQC14 ?rQC14
      case yQC14 => (intro wz hz; have k4 := hz; go_simp; try with_reducible rfl)
      (try simp only [Act.put, List.setIfInBounds_toArray, List.set_cons_zero, List.set_cons_succ])
      refine PlanT.exec2 (fun K hK => ⟨by kernel_rfl, ?_⟩)
      go_simp
      go_at_call 64
      (with_reducible refine HUS.out.mono ?_)
      rintro e w3 ⟨rfl, hb3⟩
      have HB3 := Lib.hid hb3
      have b4 := (hb3.cell (p := ⟨q, 4, none⟩) HQ2.out).trans a4
      clear hb3
      go_wp2_with fail
      refine hK.out _ _ b4 trivial ?_
      clear hK K
      (try simp only [Act.put, List.setIfInBounds_toArray, List.set_cons_zero, List.set_cons_succ])
      refine PlanT.take0 (v := .int .i64 ((U : Int) + (X : Int))) (by kernel_rfl) ?yQC9 ?rQC9
      case yQC9 => (intro wz hz; have k4 := hz; go_simp)
      (try simp only [Act.put, List.setIfInBounds_toArray, List.set_cons_zero, List.set_cons_succ])
      refine PlanT.take0 (v := .bool (decide (m.plan.room < (U : Int) + (X : Int)))) (by kernel_rfl) ?yQC15 ?rQC15
      case yQC15 => (intro wz hz; have k4 := hz; go_simp)
      (try simp only [Act.put, List.setIfInBounds_toArray, List.set_cons_zero, List.set_cons_succ])
      refine PlanT.take0 (v := .bool (decide (m.plan.room < (U : Int) + (X : Int)))) (by kernel_rfl) ?yQC16 ?rQC16
      case yQC16 => (intro wz hz; have k4 := hz; go_simp)
      (try simp only [Act.put, List.setIfInBounds_toArray, List.set_cons_zero, List.set_cons_succ])
      refine PlanT.done (NoPanic.normal ?_)
      have hD3 := HD2.out.below HB3.out
      have HD3 := Lib.hid hD3
      have HE3 := Lib.hid (HB2.out.trans (HB3.out.mono HB2.out.size))
      have HCO := Lib.hid (dcount_any w3 q m hD3 HSM.out.c0 (by have := HSM.out.cl; omega) HD'.out)
      clear hD3
      go_wp2_with (go_at_call 65; (with_reducible refine HCO.out.mono ?_); rw [HIS.out]; rintro e w4 ⟨rfl, hd4, hk4⟩; have HD4 := Lib.hid hd4; have HK4 := Lib.hid hk4; clear hd4 hk4)
      go_ret
      exact ⟨rfl, o, v, gs, HD4.out, (Touch.of_below HE3.out).trans (doc_touch HD3.out.rol HK4.out) (Grows.refl _ _ _), Grows.refl _ _ _⟩
end Go.Proofs.Ytfeogoihkpclcaa
