/-
  The walk of BlockLong.
-/
import Derived.Test.YtdcjfgbngmdkfaaBlkLong
import Derived.Deep.Cut
namespace Go.Proofs.Ytdcjfgbngmdkfaa
open Go.RowKit

set_option maxRecDepth 100000 in
set_option maxHeartbeats 600000 in
theorem blockLong_walkC (HP : PutC) (a0 a1 : Int) (W : World) (wa0 : (Lit.int .u8 a0).wf = true) (wa1 : (Lit.int .u8 a1).wf = true) :
    Calls Try.prog 6 #[.int .u8 a0, .int .u8 a1] W fun r w' => r = .returned (.bool true) ∧ Below W.heap.size W w' := by
  have HAW := Lib.hid (awake12_any HP)
  have n0 := bounds_u8 wa0
  have n1 := bounds_u8 wa1
  obtain ⟨n, rfl⟩ : ∃ n : Nat, a0 = (n : Int) := ⟨a0.toNat, by omega⟩
  obtain ⟨at_, rfl⟩ : ∃ n : Nat, a1 = (n : Int) := ⟨a1.toNat, by omega⟩
  clear wa0 wa1
  obtain ⟨r, hr⟩ : ∃ r, n % 100 = r := ⟨_, rfl⟩
  have m1 : (n : Int).tmod 100 = (r : Int) := by rw [Int.tmod_eq_emod_of_nonneg (by omega)]; omega
  have m2 : (n : Int) % 100 = (r : Int) := by omega
  have hr2 : r < 100 := by omega
  clear hr
  go_enter Try.func6, Try.ntmps6
  go_wp2
  go_loopw [6, 7] (fun l i wr => ∃ j : Nat, j ≤ r + 1 ∧ i = .int .i64 (j : Int) ∧ Hid (OwnE wr W.heap.size l (longE j)) ∧ Hid (Below W.heap.size W wr)) (fun _ i _ => r + 1 - (intOf i).toNat)
  case atStart => exact ⟨0, Nat.zero_le _, rfl, Lib.hid (World.ownsRow_nil _ _ _ _), Lib.hid (Below.refl _ _)⟩
  case round =>
    obtain ⟨i, hi, rfl, HO, HB⟩ := hrel
    by_cases hlt : i < r + 1
    · have hlt' : (i : Int) < 1 + (r : Int) := by omega
      have HOR := Lib.hid (show wr.ownsRow W.heap.size 36 4 _ i ((longE i).flatMap Ent.cells) from by have h := HO.out; unfold OwnE at h; rw [longE_len] at h; exact h)
      go_wp2_with (at_builtin; refine wpList_append_rd rfl (.tmp 23) (.tmp 28) 22 rfl W.heap.size 36 4 48 (.agg #[.string ⟨#[]⟩, .int .i64 0, .int .i64 0, .string ⟨#[]⟩]) Try.underlying22 info_ent rfl (by decide) _ (.slice (some ⟨wr.heap.size, 0, none⟩) 1 1) i 1 ((longE i).flatMap Ent.cells) ([longN i].flatMap Ent.cells) rfl rfl (World.ownsRow.alloc HOR.out _) (one_entry wr (longN i)) (entFlat_one _) ?bA ?l1 ?l2 ?kk)
      case bA => exact Nat.le_trans HB.out.size (by simp)
      case l1 => omega
      case l2 => unfold maxLen; omega
      case kk =>
        intro v' w' hown' hb'
        go_wp2
        refine ⟨⟨i + 1, by omega, by go_num, Lib.hid ?_, Lib.hid (hb' _ _ (Nat.le_refl _) (HB.out.alloc HB.out.size _))⟩, by simp [intOf]; omega⟩
        unfold OwnE
        rw [longE_len, longE_succ]
        simpa using hown'
    · have hlt' : ¬ (i : Int) < 1 + (r : Int) := by omega
      obtain ⟨la, lc, hla, hlc1, hlc2⟩ := HO.out.form
      subst hla
      obtain rfl : i = r + 1 := by omega
      have hrl : (longE (r + 1)).length = r + 1 := longE_len _
      obtain ⟨g, hg, _⟩ := own_ent (w := wr) (va := la) (vc := lc) (L := longE (r + 1)) (own_base HO.out fun _ _ => Nat.zero_le _) (k := 0) (by omega)
      subst hg
      have hgW : W.heap.size ≤ g := (World.ownsRow.lt HO.out g rfl).1
      have HGW := Lib.hid hgW
      have HMY := Lib.hid (longE_may (k := r + 1) (by omega))
      have hsm := may_small HMY.out (by omega)
      have HFT := Lib.hid (show ∀ e ∈ longE (r + 1), e.fits from fun e he => Ent.may_fits (HMY.out e he))
      have HER := Lib.hid (longE_err (k := r + 1) (by omega) (by omega))
      have HPA0 : Hid (∀ v w, OwnE w W.heap.size v (longE (r + 1)) → Calls Try.prog 9 #[v] w fun e w' => ∃ x, e = .returned (.tuple #[x, .int .i64 (putErr (longE (r + 1)))]) ∧ Below w.heap.size w w') := Lib.hid fun v w ho => by
        refine (HP v _ w (ho.read HFT.out) hsm).mono ?_
        rintro e w' ⟨x, rfl, _, h⟩
        exact ⟨x, rfl, h⟩
      have HPB : Hid (∀ j, j + 1 < r + 1 → ∀ v w, OwnE w W.heap.size v (swapE (longE (r + 1)) j) → Calls Try.prog 9 #[v] w fun e w' => ∃ x, e = .returned (.tuple #[x, .int .i64 1]) ∧ Below w.heap.size w w') := Lib.hid fun j hj v w ho => by
        have hs := swapE_sub (L := longE (r + 1)) (i := j) (by omega)
        refine (HP v _ w (ho.read fun e he => HFT.out e (hs e he)) ⟨by rw [swapE_len]; exact hsm.1, fun e he => hsm.2 e (hs e he)⟩).mono ?_
        rintro e w' ⟨x, rfl, _, h⟩
        exact ⟨x, by rw [swapE_err hj], h⟩
      have hc0 : ¬ (r + 1 : Nat) < 1 + r := by omega
      have HEL := Lib.hid hrl
      clear hsm hlt hlt' hgW HMY
      generalize longE (r + 1) = E at *
      clear hrl
      by_cases h64 : r + 1 ≤ 64
      · rw [HER.out, if_neg (by omega)] at HPA0
        have HPA := HPA0
        clear HPA0
        have k1 : decide (1 + (r : Int) ≤ 64) = true := by simp; omega
        have k2 : decide (64 < 1 + (r : Int)) = false := by simp; omega
        by_cases hr0 : r = 0
        · subst hr0
          go_wp2_with (first | (go_at_call 8; (refine (HAW.out _).mono ?_); rintro e w9 ⟨rfl, hb9⟩) | (go_at_call 15; (refine (num12_any _ _).mono ?_); rintro e w10 ⟨rfl, rfl⟩) | (go_at_call 9; (with_reducible refine (HPA.out _ _ HO.out).mono ?_); rintro e w2 ⟨x2, rfl, hb2⟩; have HO2 := Lib.hid (HO.out.below hb2); have HB2 := Lib.hid (HB.out.trans (hb2.mono HB.out.size)); clear hb2))
          go_ret
          exact ⟨rfl, HB2.out.trans (hb9.mono HB2.out.size)⟩
        · have k3 : decide (1 + (r : Int) < 2) = false := by simp; omega
          obtain ⟨j, hj⟩ : ∃ j, at_ % r = j := ⟨_, rfl⟩
          have hjr : j < r := by rw [← hj]; exact Nat.mod_lt _ (by omega)
          have b1 : (at_ : Int).tmod (r : Int) = (j : Int) := by rw [Int.tmod_eq_emod_of_nonneg (by omega), ← hj]; simp
          have b2 : (at_ : Int) % (r : Int) = (j : Int) := by rw [← hj]; simp
          have b3 : ¬ (r : Int) = 0 := by omega
          have b4 : IntKind.i64.wrap (1 + (r : Int) - 1) = (r : Int) := by rw [IntWalk.i64_in _ (by omega)]; omega
          have b5 : (j : Int) < (E.length : Int) := by have := HEL.out; omega
          have b6 : (j : Int) + 1 < (E.length : Int) := by have := HEL.out; omega
          clear hj
          go_upto_region 13 with (first | (go_at_call 15; (refine (num12_any _ _).mono ?_); rintro e w10 ⟨rfl, rfl⟩) | (go_at_call 9; (with_reducible refine (HPA.out _ _ HO.out).mono ?_); rintro e w2 ⟨x2, rfl, hb2⟩; have HO2 := Lib.hid (HO.out.below hb2); have HB2 := Lib.hid (HB.out.trans (hb2.mono HB.out.size)); clear hb2))
          obtain ⟨X, hX⟩ : ∃ X, E.getD j Ent.none_ = X := ⟨_, rfl⟩
          obtain ⟨xu, xs, xk, xv⟩ := X
          have HLJ := Lib.hid (show j + 1 < E.length by omega)
          have HXE := Lib.hid hX
          obtain ⟨w3, hw3⟩ : ∃ w3, w3 = w2.alloc (.cells #[.string xu, .int .i64 xs, .int .i64 xk, .string xv] 36) := ⟨_, rfl⟩
          obtain ⟨_, hgg, hgl, e0, e1, e2, e3⟩ := own_ent (own_base HO2.out fun _ _ => Nat.zero_le _ : OwnE w2 0 (.slice (some ⟨g, 0, none⟩) E.length lc) E) (k := j) (by omega)
          cases hgg
          rw [hX] at e0 e1 e2 e3
          simp only at e0 e1 e2 e3
          have hbx : w3.heap[w2.heap.size]? = some (.cells #[.string xu, .int .i64 xs, .int .i64 xk, .string xv] 36 (0, 0)) := by rw [hw3]; exact heap_alloc_new w2 _
          have hb3 : Below w2.heap.size w2 w3 := by rw [hw3]; exact (Below.refl _ _).alloc (Nat.le_refl _) _
          have HO3 := Lib.hid (HO2.out.below hb3)
          have HB3 := Lib.hid (HB2.out.trans (hb3.mono HB2.out.size))
          have HBX := Lib.hid hbx
          have HNE := Lib.hid (show g ≠ w2.heap.size by omega)
          have HW3 := Lib.hid hw3
          clear hw3 hbx hb3
          go_upto_region 14 with (fail)
          rw [← HW3.out]
          clear HW3 e0 e1 e2 e3
          obtain ⟨_, hgg, _, e0, e1, e2, e3⟩ := own_ent (own_base HO3.out fun _ _ => Nat.zero_le _ : OwnE w3 0 (.slice (some ⟨g, 0, none⟩) E.length lc) E) (k := j) (by omega)
          cases hgg
          obtain ⟨_, hgg, _, y0, y1, y2, y3⟩ := own_ent (own_base HO3.out fun _ _ => Nat.zero_le _ : OwnE w3 0 (.slice (some ⟨g, 0, none⟩) E.length lc) E) (k := j + 1) (by omega)
          cases hgg
          obtain ⟨Y, hY⟩ : ∃ Y, E.getD (j + 1) Ent.none_ = Y := ⟨_, rfl⟩
          obtain ⟨yu, ys, yk, yv⟩ := Y
          have HYE := Lib.hid hY
          rw [hX] at e0 e1 e2 e3
          rw [hY] at y0 y1 y2 y3
          simp only at e0 e1 e2 e3 y0 y1 y2 y3
          have t0 := World.ownsRow.frozenAt HO3.out (j * 4)
          have t1 := World.ownsRow.frozenAt HO3.out (j * 4 + 1)
          have t2 := World.ownsRow.frozenAt HO3.out (j * 4 + 2)
          have t3 := World.ownsRow.frozenAt HO3.out (j * 4 + 3)
          clear hX hY
          go_upto_region 15 with (fail)
          obtain ⟨w4, hw4⟩ : ∃ w4, w4 = (((w3.setCell ⟨g, j * 4, none⟩ (.string yu)).setCell ⟨g, j * 4 + 1, none⟩ (.int .i64 ys)).setCell ⟨g, j * 4 + 2, none⟩ (.int .i64 yk)).setCell ⟨g, j * 4 + 3, none⟩ (.string yv) := ⟨_, rfl⟩
          have HO4 := Lib.hid (show OwnE w4 W.heap.size (.slice (some ⟨g, 0, none⟩) (E.set j ⟨yu, ys, yk, yv⟩).length lc) (E.set j ⟨yu, ys, yk, yv⟩) by rw [hw4, List.length_set]; exact own_set HO3.out (by have := HLJ.out; omega) ⟨yu, ys, yk, yv⟩)
          have HB4 := Lib.hid (show Below W.heap.size W w4 by rw [hw4]; exact below_set4 HB3.out HGW.out _ _ _ _ _ _ _ _)
          have hbx4 : w4.heap[w2.heap.size]? = some (.cells #[.string xu, .int .i64 xs, .int .i64 xk, .string xv] 36 (0, 0)) := by
            rw [hw4]
            have hne := fun a => (show w2.heap.size ≠ (⟨g, a, none⟩ : Addr).block from fun e => HNE.out e.symm)
            rw [Below.heap_setCell _ _ _ _ (hne _), Below.heap_setCell _ _ _ _ (hne _), Below.heap_setCell _ _ _ _ (hne _), Below.heap_setCell _ _ _ _ (hne _)]
            exact HBX.out
          have p0 := blk_cell (i := 0) hbx4
          have p1 := blk_cell (i := 1) hbx4
          have p2 := blk_cell (i := 2) hbx4
          have p3 := blk_cell (i := 3) hbx4
          rw [← hw4]
          clear hw4 hbx4 e0 e1 e2 e3 y0 y1 y2 y3 t0 t1 t2 t3
          obtain ⟨_, hgg, _, y0, y1, y2, y3⟩ := own_ent (own_base HO4.out fun _ _ => Nat.zero_le _ : OwnE w4 0 (.slice (some ⟨g, 0, none⟩) (E.set j ⟨yu, ys, yk, yv⟩).length lc) (E.set j ⟨yu, ys, yk, yv⟩)) (k := j + 1) (by rw [List.length_set]; exact HLJ.out)
          cases hgg
          have t0 := World.ownsRow.frozenAt HO4.out ((j + 1) * 4)
          have t1 := World.ownsRow.frozenAt HO4.out ((j + 1) * 4 + 1)
          have t2 := World.ownsRow.frozenAt HO4.out ((j + 1) * 4 + 2)
          have t3 := World.ownsRow.frozenAt HO4.out ((j + 1) * 4 + 3)
          have HS5 := Lib.hid (own_set HO4.out (by rw [List.length_set]; exact HLJ.out : j + 1 < (E.set j ⟨yu, ys, yk, yv⟩).length) ⟨xu, xs, xk, xv⟩)
          have hsw : (E.set j ⟨yu, ys, yk, yv⟩).set (j + 1) ⟨xu, xs, xk, xv⟩ = swapE E j := by unfold swapE; rw [HXE.out, HYE.out]
          rw [hsw, List.length_set] at HS5
          have HB5 := Lib.hid (below_set4 HB4.out HGW.out ((j + 1) * 4) ((j + 1) * 4 + 1) ((j + 1) * 4 + 2) ((j + 1) * 4 + 3) (.string xu) (.int .i64 xs) (.int .i64 xk) (.string xv))
          have HJK := Lib.hid (show j + 1 < r + 1 by omega)
          clear hsw
          go_wp2_with (first | (go_at_call 8; (refine (HAW.out _).mono ?_); rintro e w9 ⟨rfl, hb9⟩) | (go_at_call 15; (refine (num12_any _ _).mono ?_); rintro e w10 ⟨rfl, rfl⟩) | (go_at_call 9; (refine (HPB.out j HJK.out _ _ HS5.out).mono ?_); rintro e w6 ⟨x6, rfl, hb6⟩))
          go_ret
          exact ⟨rfl, (HB5.out.trans (hb6.mono HB5.out.size)).trans (hb9.mono (HB5.out.trans (hb6.mono HB5.out.size)).size)⟩
      · rw [HER.out, if_pos (by omega)] at HPA0
        have HPA := HPA0
        clear HPA0
        have k1 : decide (1 + (r : Int) ≤ 64) = false := by simp; omega
        have k2 : decide (64 < 1 + (r : Int)) = true := by simp; omega
        have k3 : decide (1 + (r : Int) < 2) = false := by simp; omega
        obtain ⟨j, hj⟩ : ∃ j, at_ % r = j := ⟨_, rfl⟩
        have hjr : j < r := by rw [← hj]; exact Nat.mod_lt _ (by omega)
        have b1 : (at_ : Int).tmod (r : Int) = (j : Int) := by rw [Int.tmod_eq_emod_of_nonneg (by omega), ← hj]; simp
        have b2 : (at_ : Int) % (r : Int) = (j : Int) := by rw [← hj]; simp
        have b3 : ¬ (r : Int) = 0 := by omega
        have b4 : IntKind.i64.wrap (1 + (r : Int) - 1) = (r : Int) := by rw [IntWalk.i64_in _ (by omega)]; omega
        have b5 : (j : Int) < (E.length : Int) := by have := HEL.out; omega
        have b6 : (j : Int) + 1 < (E.length : Int) := by have := HEL.out; omega
        clear hj
        go_upto_region 13 with (first | (go_at_call 15; (refine (num12_any _ _).mono ?_); rintro e w10 ⟨rfl, rfl⟩) | (go_at_call 9; (with_reducible refine (HPA.out _ _ HO.out).mono ?_); rintro e w2 ⟨x2, rfl, hb2⟩; have HO2 := Lib.hid (HO.out.below hb2); have HB2 := Lib.hid (HB.out.trans (hb2.mono HB.out.size)); clear hb2))
        obtain ⟨X, hX⟩ : ∃ X, E.getD j Ent.none_ = X := ⟨_, rfl⟩
        obtain ⟨xu, xs, xk, xv⟩ := X
        have HLJ := Lib.hid (show j + 1 < E.length by omega)
        have HXE := Lib.hid hX
        obtain ⟨w3, hw3⟩ : ∃ w3, w3 = w2.alloc (.cells #[.string xu, .int .i64 xs, .int .i64 xk, .string xv] 36) := ⟨_, rfl⟩
        obtain ⟨_, hgg, hgl, e0, e1, e2, e3⟩ := own_ent (own_base HO2.out fun _ _ => Nat.zero_le _ : OwnE w2 0 (.slice (some ⟨g, 0, none⟩) E.length lc) E) (k := j) (by omega)
        cases hgg
        rw [hX] at e0 e1 e2 e3
        simp only at e0 e1 e2 e3
        have hbx : w3.heap[w2.heap.size]? = some (.cells #[.string xu, .int .i64 xs, .int .i64 xk, .string xv] 36 (0, 0)) := by rw [hw3]; exact heap_alloc_new w2 _
        have hb3 : Below w2.heap.size w2 w3 := by rw [hw3]; exact (Below.refl _ _).alloc (Nat.le_refl _) _
        have HO3 := Lib.hid (HO2.out.below hb3)
        have HB3 := Lib.hid (HB2.out.trans (hb3.mono HB2.out.size))
        have HBX := Lib.hid hbx
        have HNE := Lib.hid (show g ≠ w2.heap.size by omega)
        have HW3 := Lib.hid hw3
        clear hw3 hbx hb3
        go_upto_region 14 with (fail)
        rw [← HW3.out]
        clear HW3 e0 e1 e2 e3
        obtain ⟨_, hgg, _, e0, e1, e2, e3⟩ := own_ent (own_base HO3.out fun _ _ => Nat.zero_le _ : OwnE w3 0 (.slice (some ⟨g, 0, none⟩) E.length lc) E) (k := j) (by omega)
        cases hgg
        obtain ⟨_, hgg, _, y0, y1, y2, y3⟩ := own_ent (own_base HO3.out fun _ _ => Nat.zero_le _ : OwnE w3 0 (.slice (some ⟨g, 0, none⟩) E.length lc) E) (k := j + 1) (by omega)
        cases hgg
        obtain ⟨Y, hY⟩ : ∃ Y, E.getD (j + 1) Ent.none_ = Y := ⟨_, rfl⟩
        obtain ⟨yu, ys, yk, yv⟩ := Y
        have HYE := Lib.hid hY
        rw [hX] at e0 e1 e2 e3
        rw [hY] at y0 y1 y2 y3
        simp only at e0 e1 e2 e3 y0 y1 y2 y3
        have t0 := World.ownsRow.frozenAt HO3.out (j * 4)
        have t1 := World.ownsRow.frozenAt HO3.out (j * 4 + 1)
        have t2 := World.ownsRow.frozenAt HO3.out (j * 4 + 2)
        have t3 := World.ownsRow.frozenAt HO3.out (j * 4 + 3)
        clear hX hY
        go_upto_region 15 with (fail)
        obtain ⟨w4, hw4⟩ : ∃ w4, w4 = (((w3.setCell ⟨g, j * 4, none⟩ (.string yu)).setCell ⟨g, j * 4 + 1, none⟩ (.int .i64 ys)).setCell ⟨g, j * 4 + 2, none⟩ (.int .i64 yk)).setCell ⟨g, j * 4 + 3, none⟩ (.string yv) := ⟨_, rfl⟩
        have HO4 := Lib.hid (show OwnE w4 W.heap.size (.slice (some ⟨g, 0, none⟩) (E.set j ⟨yu, ys, yk, yv⟩).length lc) (E.set j ⟨yu, ys, yk, yv⟩) by rw [hw4, List.length_set]; exact own_set HO3.out (by have := HLJ.out; omega) ⟨yu, ys, yk, yv⟩)
        have HB4 := Lib.hid (show Below W.heap.size W w4 by rw [hw4]; exact below_set4 HB3.out HGW.out _ _ _ _ _ _ _ _)
        have hbx4 : w4.heap[w2.heap.size]? = some (.cells #[.string xu, .int .i64 xs, .int .i64 xk, .string xv] 36 (0, 0)) := by
          rw [hw4]
          have hne := fun a => (show w2.heap.size ≠ (⟨g, a, none⟩ : Addr).block from fun e => HNE.out e.symm)
          rw [Below.heap_setCell _ _ _ _ (hne _), Below.heap_setCell _ _ _ _ (hne _), Below.heap_setCell _ _ _ _ (hne _), Below.heap_setCell _ _ _ _ (hne _)]
          exact HBX.out
        have p0 := blk_cell (i := 0) hbx4
        have p1 := blk_cell (i := 1) hbx4
        have p2 := blk_cell (i := 2) hbx4
        have p3 := blk_cell (i := 3) hbx4
        rw [← hw4]
        clear hw4 hbx4 e0 e1 e2 e3 y0 y1 y2 y3 t0 t1 t2 t3
        obtain ⟨_, hgg, _, y0, y1, y2, y3⟩ := own_ent (own_base HO4.out fun _ _ => Nat.zero_le _ : OwnE w4 0 (.slice (some ⟨g, 0, none⟩) (E.set j ⟨yu, ys, yk, yv⟩).length lc) (E.set j ⟨yu, ys, yk, yv⟩)) (k := j + 1) (by rw [List.length_set]; exact HLJ.out)
        cases hgg
        have t0 := World.ownsRow.frozenAt HO4.out ((j + 1) * 4)
        have t1 := World.ownsRow.frozenAt HO4.out ((j + 1) * 4 + 1)
        have t2 := World.ownsRow.frozenAt HO4.out ((j + 1) * 4 + 2)
        have t3 := World.ownsRow.frozenAt HO4.out ((j + 1) * 4 + 3)
        have HS5 := Lib.hid (own_set HO4.out (by rw [List.length_set]; exact HLJ.out : j + 1 < (E.set j ⟨yu, ys, yk, yv⟩).length) ⟨xu, xs, xk, xv⟩)
        have hsw : (E.set j ⟨yu, ys, yk, yv⟩).set (j + 1) ⟨xu, xs, xk, xv⟩ = swapE E j := by unfold swapE; rw [HXE.out, HYE.out]
        rw [hsw, List.length_set] at HS5
        have HB5 := Lib.hid (below_set4 HB4.out HGW.out ((j + 1) * 4) ((j + 1) * 4 + 1) ((j + 1) * 4 + 2) ((j + 1) * 4 + 3) (.string xu) (.int .i64 xs) (.int .i64 xk) (.string xv))
        have HJK := Lib.hid (show j + 1 < r + 1 by omega)
        clear hsw
        go_wp2_with (first | (go_at_call 8; (refine (HAW.out _).mono ?_); rintro e w9 ⟨rfl, hb9⟩) | (go_at_call 15; (refine (num12_any _ _).mono ?_); rintro e w10 ⟨rfl, rfl⟩) | (go_at_call 9; (refine (HPB.out j HJK.out _ _ HS5.out).mono ?_); rintro e w6 ⟨x6, rfl, hb6⟩))
        go_ret
        exact ⟨rfl, (HB5.out.trans (hb6.mono HB5.out.size)).trans (hb9.mono (HB5.out.trans (hb6.mono HB5.out.size)).size)⟩
end Go.Proofs.Ytdcjfgbngmdkfaa
