/-
  The walk of MergeSees.
-/
import Derived.Test.YtnmmeaoapfampaaMergeAwake
import Derived.Test.YtnmmeaoapfampaaShift
namespace Go.Proofs.Ytnmmeaoapfampaa
open Go.RowKit

set_option maxRecDepth 100000 in
set_option maxHeartbeats 1000000 in
theorem mergeSees_walkC (HP : MergeC) (HA : ViewC) (v0 : Value) (ns : List UInt8) (a b : Int) (W : World) (w0 : RdB W v0 ns) (wa : (Lit.int .u8 a).wf = true) (wb : (Lit.int .u8 b).wf = true) :
    Calls Try.prog 7 #[v0, .int .u8 a, .int .u8 b] W fun r w' => r = .returned (.bool true) ∧ Below W.heap.size W w' := by
  have HAW := Lib.hid (awake15_any HP HA)
  have HV := Lib.hid HA
  obtain ⟨va, vc, rfl, hc1, hc2⟩ := w0.form
  unfold maxLen at hc2
  have ba := bounds_u8 wa
  have bb := bounds_u8 wb
  obtain ⟨sq, rfl⟩ : ∃ n : Nat, a = (n : Int) := ⟨a.toNat, by omega⟩
  obtain ⟨wh, rfl⟩ : ∃ n : Nat, b = (n : Int) := ⟨b.toNat, by omega⟩
  have HV0 := Lib.hid w0
  clear w0 HP HA wa wb
  by_cases c1 : 80 < ns.length
  · have d1 : decide ((80 : Int) < (ns.length : Int)) = true := by simp; omega
    have d1n : decide (80 < ns.length) = true := by simp; omega
    go_enter Try.func7, Try.ntmps7
    go_wp2_with (go_at_call 10; (refine (HAW.out _).mono ?_); rintro e w9 ⟨rfl, hb9⟩)
    go_ret
    exact ⟨rfl, hb9⟩
  have d1 : decide ((80 : Int) < (ns.length : Int)) = false := by simp; omega
  have d1n : decide (80 < ns.length) = false := by simp; omega
  have HMK := Lib.hid (make12_any _ ns 4 (by omega) W HV0.out (by omega))
  obtain ⟨c, hc⟩ : ∃ c, wh % 7 = c := ⟨_, rfl⟩
  have e1 : (wh : Int).tmod 7 = (c : Int) := by rw [Int.tmod_eq_emod_of_nonneg (by omega)]; omega
  have e2 : (wh : Int) % 7 = (c : Int) := by omega
  have hc7 : c < 7 := by omega
  have HD := Lib.hid (rdigits_any c (by omega))
  have HSV := Lib.hid (fun z => sees_view (ns := ns) (c := c) (seq := sq) (z := z) (by omega) hc7)
  have hdl := digL_len c
  obtain ⟨u, hu⟩ : ∃ u, ⟨#[107, 101, 121]⟩ ++ strB (digL c) = u := ⟨_, rfl⟩
  have hus : u.size = 3 + (digL c).length := by rw [← hu, ByteArray.size_append, strB_size]; rfl
  have hku : keyD c = u := hu
  have hul : u.size ≤ 30 := by omega
  have hlim : ¬ 9223372036854775807 < 3 + (digL c).length := by omega
  have hlim2 : ¬ 9223372036854775807 < u.size + 1 := by omega
  have HKU := Lib.hid hku
  have HSM := Lib.hid (may_small (mkB_may ns 4) (by have := mkB_len ns 4; omega))
  have HFT := Lib.hid (mk_fits ns 4)
  have HUP := Lib.hid (mkB_up ns 4)
  have HUS := Lib.hid (show u.size ≤ 1000 by omega)
  have HUS2 := Lib.hid (show (u ++ (⟨#[0]⟩ : ByteArray)).size ≤ 1000 by rw [show u ++ (⟨#[0]⟩ : ByteArray) = u ++ zeroB from rfl, next_size]; omega)
  have H5 := Lib.hid (show (Lit.int .i64 5).wf = true by decide)
  have HZB : Hid (zeroB = ⟨#[0]⟩) := rfl
  have HSQ := Lib.hid (show (Lit.int .i64 (sq : Int)).wf = true from WalkArith.wf_i64 (by omega))
  generalize mkB ns 4 = L at *
  obtain ⟨z0, hz0⟩ : ∃ z0, u ++ (⟨#[0]⟩ : ByteArray) = z0 := ⟨_, rfl⟩
  rw [hz0] at HUS2
  have HZ0 := Lib.hid hz0
  have HC := Lib.hid hc
  have hnl : ns.length ≤ 80 := by omega
  clear hc hdl hus hku c1
  go_enter Try.func7, Try.ntmps7
  go_wp2_with (first | (go_at_call 19; (refine HMK.out.mono ?_); rintro e w1 ⟨x1, rfl, ho1, hb1⟩; obtain ⟨la, lc, rfl, hl1, hl2⟩ := ho1.form; have HR1 := Lib.hid (ho1.read HFT.out); have HB1 := Lib.hid hb1; clear ho1 hb1) | (go_at_call 20; (refine (HD.out _).mono ?_); rintro e w2 ⟨rfl, hb2⟩; have HR2 := Lib.hid (HR1.out.below hb2 (Nat.le_refl _)); have HB2 := Lib.hid (belowT HB1.out hb2); clear hb2))
  go_loopw [9, 10] (fun x9 x10 wr => ∃ (k : Nat) (z : Int), x9 = .int .i64 z ∧ x10 = .int .i64 (k : Int) ∧ k ≤ ns.length ∧ Hid (LastV ns c sq k z) ∧ wr = w2) (fun _ i _ => ns.length - (intOf i).toNat)
  case atStart => exact ⟨0, -1, rfl, rfl, Nat.zero_le _, Lib.hid (lastV_start ns c sq), rfl⟩
  case round =>
    obtain ⟨k, z, rfl, rfl, hk, HL, rfl⟩ := hrel
    by_cases hlt : k < ns.length
    · have hltz : (k : Int) < (ns.length : Int) := by omega
      obtain ⟨bb, off, cap', hvv, _, _, hbw, hcell⟩ := HV0.out.cells (by intro h; subst h; simp at hlt)
      cases hvv
      have z0 := (HB2.out.cell (p := ⟨bb, off + k, none⟩) hbw).trans (hcell k hlt)
      have hnb := byte_le (ns.getD k 0)
      unfold bv at z0
      have HSE : Hid (SeeV ns c sq k ↔ (ns.getD k 0).toNat % 7 = c ∧ 1 + k ≤ sq) := Lib.hid Iff.rfl
      generalize (ns.getD k 0).toNat = n at *
      obtain ⟨r7, hr7⟩ : ∃ r7, n % 7 = r7 := ⟨_, rfl⟩
      have g1 : (n : Int).tmod 7 = (r7 : Int) := by rw [Int.tmod_eq_emod_of_nonneg (by omega)]; omega
      have g2 : (n : Int) % 7 = (r7 : Int) := by omega
      have HR7 := Lib.hid hr7
      clear hcell hbw hr7
      by_cases h7 : r7 = c
      · have h7b : ((r7 : Int) == (c : Int)) = true := by rw [h7]; simp
        have H7 := Lib.hid h7
        clear h7
        by_cases hs : 1 + k ≤ sq
        · have hsz : (1 : Int) + (k : Int) ≤ (sq : Int) := by omega
          go_wp2
          exact ⟨⟨k + 1, (k : Int), rfl, by go_num, by omega, Lib.hid (lastV_yes (HSE.out.2 ⟨by rw [HR7.out, H7.out], hs⟩)), trivial⟩, by simp [intOf]; omega⟩
        · have hsz : ¬ (1 : Int) + (k : Int) ≤ (sq : Int) := by omega
          go_wp2
          exact ⟨⟨k + 1, z, rfl, by go_num, by omega, Lib.hid (lastV_no (fun h => hs (HSE.out.1 h).2) HL.out), trivial⟩, by simp [intOf]; omega⟩
      · have h7b : ((r7 : Int) == (c : Int)) = false := by simp; omega
        have H7 := Lib.hid h7
        clear h7
        go_wp2
        exact ⟨⟨k + 1, z, rfl, by go_num, by omega, Lib.hid (lastV_no (fun h => H7.out (by rw [← HR7.out]; exact (HSE.out.1 h).1)) HL.out), trivial⟩, by simp [intOf]; omega⟩
    · have hltz : ¬ (k : Int) < (ns.length : Int) := by omega
      have hke : k = ns.length := by omega
      have HLL := Lib.hid (show LastV ns c sq ns.length z by rw [← hke]; exact HL.out)
      have HW := Lib.hid (HSV.out z HLL.out)
      clear HL hke
      rcases HW.out with ⟨hz, hal⟩ | ⟨j, hj, hz, hjc, hal⟩
      · have HVW := Lib.hid (show viewV L (sq : Int) u z0 false 5 = [] by rw [← HZ0.out]; unfold viewV; rw [← HKU.out]; show someV (allV L (sq : Int) (keyD c) (keyD c ++ zeroB)) false 5 = []; rw [hal]; rfl)
        subst hz
        clear hal HW HLL
        go_wp2_with (first | (go_at_call 17; (refine (HV.out _ L (sq : Int) u z0 false 5 _ HR2.out HSM.out HUP.out HUS.out HUS2.out HSQ.out H5.out).mono ?_); rintro e w3 ⟨x3, rfl, ho3, hb3⟩; rw [HVW.out] at ho3; obtain ⟨a3, c3, rfl, _, _⟩ := ho3.form; have HO3 := Lib.hid ho3; have HB3 := Lib.hid (belowT HB2.out hb3);  clear ho3 hb3) | (go_at_call 10; (refine (HAW.out _).mono ?_); rintro e w9 ⟨rfl, hb9⟩))
        go_ret
        exact ⟨rfl, belowT HB3.out hb9⟩
      · have hnb := byte_le (ns.getD j 0)
        obtain ⟨bb, off, cap', hvv, _, _, hbw, hcell⟩ := HV0.out.cells (by intro h; subst h; simp at hj)
        cases hvv
        have hzz := hcell j hj
        unfold bv at hzz
        have HN0 := Lib.hid hzz
        have HBW := Lib.hid hbw
        generalize hnn : (ns.getD j 0).toNat = n at *
        have HZ := Lib.hid hz
        subst hz
        have g1 : (n : Int).tmod 7 = (c : Int) := by rw [Int.tmod_eq_emod_of_nonneg (by omega)]; omega
        have g2 : (n : Int) % 7 = (c : Int) := by omega
        have hjz : ¬ (j : Int) < 0 := by omega
        have hjl : (j : Int) < (ns.length : Int) := by omega
        have HJC := Lib.hid hjc
        by_cases hc0 : c = 0
        · have HVW := Lib.hid (show viewV L (sq : Int) u z0 false 5 = [] by rw [← HZ0.out]; unfold viewV; rw [← HKU.out]; show someV (allV L (sq : Int) (keyD c) (keyD c ++ zeroB)) false 5 = []; rw [hal, if_pos (by omega)]; rfl)
          have hcb : ((c : Int) == 0) = true := by simp; omega
          clear hal HW HLL hjc hcell hbw hzz hnn hc0
          go_wp2_with (first | (go_at_call 17; (refine (HV.out _ L (sq : Int) u z0 false 5 _ HR2.out HSM.out HUP.out HUS.out HUS2.out HSQ.out H5.out).mono ?_); rintro e w3 ⟨x3, rfl, ho3, hb3⟩; rw [HVW.out] at ho3; obtain ⟨a3, c3, rfl, _, _⟩ := ho3.form; have HO3 := Lib.hid ho3; have HB3 := Lib.hid (belowT HB2.out hb3); have n0 := (HB3.out.cell (p := ⟨bb, off + j, none⟩) HBW.out).trans HN0.out; clear ho3 hb3) | (go_at_call 10; (refine (HAW.out _).mono ?_); rintro e w9 ⟨rfl, hb9⟩))
          go_ret
          exact ⟨rfl, belowT HB3.out hb9⟩
        · have HVW := Lib.hid (show viewV L (sq : Int) u z0 false 5 = [(u, strB (digL n))] by rw [← HZ0.out]; unfold viewV; rw [← HKU.out]; show someV (allV L (sq : Int) (keyD c) (keyD c ++ zeroB)) false 5 = _; rw [hal, if_neg (by omega)]; rfl)
          have hcb : ((c : Int) == 0) = false := by simp; omega
          have HDN := Lib.hid (rdigits_any n (by omega))
          clear hal HW HLL hjc hcell hbw hzz hnn hc0
          go_upto_region 14 with (first | (go_at_call 17; (refine (HV.out _ L (sq : Int) u z0 false 5 _ HR2.out HSM.out HUP.out HUS.out HUS2.out HSQ.out H5.out).mono ?_); rintro e w3 ⟨x3, rfl, ho3, hb3⟩; rw [HVW.out] at ho3; obtain ⟨a3, c3, rfl, _, _⟩ := ho3.form; have HO3 := Lib.hid ho3; have HB3 := Lib.hid (belowT HB2.out hb3); have n0 := (HB3.out.cell (p := ⟨bb, off + j, none⟩) HBW.out).trans HN0.out; clear ho3 hb3))
          obtain ⟨g, hg, hgw, p0, p1⟩ := own_pair HO3.out (k := 0) (by simp)
          subst hg
          have q0 : ∀ m os, (shiftW w3 m os).cell? ⟨g, 0, none⟩ = some (.string u) := fun m os => ((shift_below w3 m os).cell (p := ⟨g, 0, none⟩) hgw).trans p0
          have q1 : ∀ m os, (shiftW w3 m os).cell? ⟨g, 1, none⟩ = some (.string (strB (digL n))) := fun m os => ((shift_below w3 m os).cell (p := ⟨g, 1, none⟩) hgw).trans p1
          have q2 : ∀ m os, (shiftW w3 m os).cell? ⟨bb, off + j, none⟩ = some (.int .u8 (n : Int)) := fun m os => ((shift_below w3 m os).cell (p := ⟨bb, off + j, none⟩) (Nat.lt_of_lt_of_le HBW.out HB3.out.size)).trans n0
          have HCD : Hid (∀ m os, Calls Try.prog 20 #[.int .i64 (n : Int)] (shiftW w3 m os) fun e w'' => e = .returned (.string (strB (digL n))) ∧ ∃ p : ShiftBy, w'' = shiftW w3 p.n p.os) := Lib.hid fun m os => Calls.shift_of (HDN.out _)
          have HCA : Hid (∀ m os, Calls Try.prog 10 #[] (shiftW w3 m os) fun e w'' => e = .returned (.bool true) ∧ ∃ p : ShiftBy, w'' = shiftW w3 p.n p.os) := Lib.hid fun m os => Calls.shift_of (HAW.out _)
          have rn : IntKind.i64.wrap (n : Int) = (n : Int) := by rw [IntKind.wrap_i64]; omega
          clear p0 p1 n0
          refine wp_region_shift (by kernel_rfl) (by kernel_rfl) ?_
          repeat (quiet_step (first | ((with_reducible show Calls _ 20 _ _ _); exact HCD.out _ _) | ((with_reducible show Calls _ 10 _ _ _); exact HCA.out _ _)))
          refine wpQuiet_nil ?_
          intro _ hw'
          obtain ⟨⟨nq, osq⟩, hw''⟩ := hw'
          subst hw''
          go_wp2
          go_ret
          exact ⟨rfl, HB3.out.trans ((shift_below _ _ _).mono HB3.out.size)⟩
end Go.Proofs.Ytnmmeaoapfampaa
