/-
  The walk of MergeBack, without an upper end.
-/
import Derived.Test.YtnmmeaoapfampaaMergeBackP
import Derived.Test.YtnmmeaoapfampaaMergeAwake
import Derived.Test.YtnmmeaoapfampaaMergeRView
import Derived.Test.YtnmmeaoapfampaaMergeRMerge
import Derived.Test.YtnmmeaoapfampaaShift
import Derived.Deep.Cut
namespace Go.Proofs.Ytnmmeaoapfampaa
open Go.RowKit

set_option maxRecDepth 100000 in
set_option maxHeartbeats 8000000 in
theorem mergeBack_empty (HP : MergeC) (HA : ViewC) (v0 : Value) (ns : List UInt8) (a b c d : Int) (W : World) (w0 : RdB W v0 ns) (wa : (Lit.int .u8 a).wf = true) (wb : (Lit.int .u8 b).wf = true) (wc : (Lit.int .u8 c).wf = true) (wd : (Lit.int .u8 d).wf = true) (h8 : c.toNat % 8 = 0) :
    Calls Try.prog 6 #[v0, .int .u8 a, .int .u8 b, .int .u8 c, .int .u8 d] W fun r w' => r = .returned (.bool true) ∧ Below W.heap.size W w' := by
  have HAW := Lib.hid (awake15_any HP HA)
  have HV := Lib.hid HA
  obtain ⟨va, vc, rfl, hc1, hc2⟩ := w0.form
  unfold maxLen at hc2
  have ba := bounds_u8 wa
  have bb := bounds_u8 wb
  have bc := bounds_u8 wc
  have bd := bounds_u8 wd
  obtain ⟨sq, rfl⟩ : ∃ n : Nat, a = (n : Int) := ⟨a.toNat, by omega⟩
  obtain ⟨lo, rfl⟩ : ∃ n : Nat, b = (n : Int) := ⟨b.toNat, by omega⟩
  obtain ⟨hi, rfl⟩ : ∃ n : Nat, c = (n : Int) := ⟨c.toNat, by omega⟩
  obtain ⟨mo, rfl⟩ : ∃ n : Nat, d = (n : Int) := ⟨d.toNat, by omega⟩
  have HV0 := Lib.hid w0
  clear w0 HP HA wa wb wc wd
  by_cases c1 : 80 < ns.length
  · have d1 : decide ((80 : Int) < (ns.length : Int)) = true := by simp; omega
    have d1n : decide (80 < ns.length) = true := by simp; omega
    go_enter Try.func6, Try.ntmps6
    go_wp2_with (go_at_call 10; (refine (HAW.out _).mono ?_); rintro e w9 ⟨rfl, hb9⟩)
    go_ret
    exact ⟨rfl, hb9⟩
  have d1 : decide ((80 : Int) < (ns.length : Int)) = false := by simp; omega
  have d1n : decide (80 < ns.length) = false := by simp; omega
  have HMK := Lib.hid (make12_any _ ns 30 (by omega) W HV0.out (by omega))
  have hup := mkB_up ns 30
  have hsm := may_small (mkB_may ns 30) (by have := mkB_len ns 30; omega)
  have HFT := Lib.hid (mk_fits ns 30)
  have hLl : (mkB ns 30).length ≤ 80 := by have := mkB_len ns 30; omega
  generalize mkB ns 30 = L at *
  have HUP := Lib.hid hup
  have HSM := Lib.hid hsm
  obtain ⟨p4, hp4⟩ : ∃ p4, lo % 40 = p4 := ⟨_, rfl⟩
  have a1 : (lo : Int).tmod 40 = (p4 : Int) := by rw [Int.tmod_eq_emod_of_nonneg (by omega)]; omega
  have a2 : (lo : Int) % 40 = (p4 : Int) := by omega
  obtain ⟨q4, hq4⟩ : ∃ q4, hi % 40 = q4 := ⟨_, rfl⟩
  have a3 : (hi : Int).tmod 40 = (q4 : Int) := by rw [Int.tmod_eq_emod_of_nonneg (by omega)]; omega
  have a4 : (hi : Int) % 40 = (q4 : Int) := by omega
  replace h8 : hi % 8 = 0 := by omega
  obtain ⟨r8, hr8⟩ : ∃ r8, hi % 8 = r8 := ⟨_, rfl⟩
  rw [hr8] at h8
  have a5 : (hi : Int).tmod 8 = (r8 : Int) := by rw [Int.tmod_eq_emod_of_nonneg (by omega)]; omega
  have a6 : (hi : Int) % 8 = (r8 : Int) := by omega
  have HD1 := Lib.hid (rdigits_any p4 (by omega))
  have HD2 := Lib.hid (rdigits_any q4 (by omega))
  have hdl1 := digL_len p4
  have hdl2 := digL_len q4
  obtain ⟨ua, hua⟩ : ∃ u, ⟨#[107, 101, 121]⟩ ++ strB (digL p4) = u := ⟨_, rfl⟩
  have huas : ua.size = 3 + (digL p4).length := by rw [← hua, ByteArray.size_append, strB_size]; rfl
  obtain ⟨ub, hub⟩ : ∃ u, ⟨#[107, 101, 121]⟩ ++ strB (digL q4) = u := ⟨_, rfl⟩
  have hubs0 : ub.size = 3 + (digL q4).length := by rw [← hub, ByteArray.size_append, strB_size]; rfl
  have hubs : 1 ≤ ub.size := by omega
  have hub30 : ub.size ≤ 60 := by omega
  have hlim1 : ¬ 9223372036854775807 < 3 + (digL p4).length := by omega
  have hlim2 : ¬ 9223372036854775807 < 3 + (digL q4).length := by omega
  have HSA := Lib.hid (show ua.size ≤ 1000 by omega)
  have HSQ := Lib.hid (show (Lit.int .i64 (sq : Int)).wf = true from WalkArith.wf_i64 (by omega))
  have hmo : mo ≤ 255 := by omega
  clear hup hsm c1 hp4 hq4 hr8 hdl1 hdl2 huas hubs0
  have h8b : ((r8 : Int) == 0) = true := by rw [h8]; rfl
  clear h8
  go_enter Try.func6, Try.ntmps6
  go_upto_region 7 with (first | (go_at_call 19; (refine HMK.out.mono ?_); rintro e w1 ⟨x1, rfl, ho1, hb1⟩; obtain ⟨la, lc, rfl, hl1, hl2⟩ := ho1.form; have HR1 := Lib.hid (ho1.read HFT.out); have HB1 := Lib.hid hb1; clear ho1 hb1) | (go_at_call 20; first | ((with_reducible refine (HD2.out w2).mono ?_); rintro e w3 ⟨rfl, hb3⟩; have HR3 := Lib.hid (HR2.out.below hb3 (Nat.le_refl _)); have HB3 := Lib.hid (belowT HB2.out hb3); clear hb3) | ((with_reducible refine (HD1.out _).mono ?_); rintro e w2 ⟨rfl, hb2⟩; have HR2 := Lib.hid (HR1.out.below hb2 (Nat.le_refl _)); have HB2 := Lib.hid (belowT HB1.out hb2); clear hb2)))
  have HSB : Hid ((⟨#[]⟩ : ByteArray).size ≤ 1000) := Lib.hid (by decide)
  have HF := Lib.hid (show viewV L (sq : Int) ua ⟨#[]⟩ false 1000 = allV L (sq : Int) ua ⟨#[]⟩ from (some_all _ (by have := all_len L (sq : Int) ua ⟨#[]⟩; omega) false))
  have HG := Lib.hid (show viewV L (sq : Int) ua ⟨#[]⟩ true 1000 = (allV L (sq : Int) ua ⟨#[]⟩).reverse from (some_all _ (by have := all_len L (sq : Int) ua ⟨#[]⟩; omega) true))
  have HFM := Lib.hid (show viewV L (sq : Int) ua ⟨#[]⟩ false (mo : Int) = (allV L (sq : Int) ua ⟨#[]⟩).take mo by unfold viewV someV; simp)
  have HGM := Lib.hid (show viewV L (sq : Int) ua ⟨#[]⟩ true (mo : Int) = (allV L (sq : Int) ua ⟨#[]⟩).reverse.take mo by unfold viewV someV; simp)
  have hAl := all_len L (sq : Int) ua ⟨#[]⟩
  have HRI := Lib.hid (all_rise HUP.out (sq : Int) ua ⟨#[]⟩)
  have HIN : Hid (∀ x ∈ allV L (sq : Int) ua ⟨#[]⟩, inK ua ⟨#[]⟩ x.1 = true) := Lib.hid fun x hx => by rw [all_cut] at hx; exact (List.mem_filter.1 hx).2
  generalize allV L (sq : Int) ua ⟨#[]⟩ = A at *
  obtain ⟨n, hn⟩ : ∃ n, A.length = n := ⟨_, rfl⟩
  have hn80 : n ≤ 80 := by omega
  have HN := Lib.hid hn
  have HC1 : Hid (∀ (back : Bool) (k : Nat) (w : World), k ≤ 1000 → RdE w (.slice la L.length lc) L → Calls Try.prog 17 #[.slice la L.length lc, .int .i64 (sq : Int), .string ua, .string ⟨#[]⟩, .bool back, .int .i64 (k : Int)] w fun e w' => ∃ x, e = .returned x ∧ OwnP w' 0 x (viewV L (sq : Int) ua ⟨#[]⟩ back (k : Int)) ∧ Below w.heap.size w w') := Lib.hid fun back k w hk hw => by
    refine (HV.out _ L (sq : Int) ua ⟨#[]⟩ back (k : Int) w hw HSM.out HUP.out HSA.out HSB.out HSQ.out (WalkArith.wf_i64 (by omega))).mono ?_
    rintro e w' ⟨x, rfl, ho, hb⟩
    exact ⟨x, rfl, own_monoP ho (Nat.zero_le _), hb⟩
  have HCF : Hid (∀ w, RdE w (.slice la L.length lc) L → Calls Try.prog 17 #[.slice la L.length lc, .int .i64 (sq : Int), .string ua, .string ⟨#[]⟩, .bool false, .int .i64 1000] w fun e w' => ∃ a c, e = .returned (.slice a n c) ∧ n ≤ c ∧ OwnP w' 0 (.slice a n c) A ∧ Below w.heap.size w w') := Lib.hid fun w hw => by
    refine (HC1.out false 1000 w (by omega) hw).mono ?_
    rintro e w' ⟨x, rfl, ho, hb⟩
    rw [show ((1000 : Nat) : Int) = 1000 from rfl, HF.out] at ho
    obtain ⟨a, c, hx, hcc, _⟩ := ho.form
    rw [HN.out] at hx hcc
    subst hx
    exact ⟨a, c, rfl, hcc, ho, hb⟩
  have HCG : Hid (∀ w, RdE w (.slice la L.length lc) L → Calls Try.prog 17 #[.slice la L.length lc, .int .i64 (sq : Int), .string ua, .string ⟨#[]⟩, .bool true, .int .i64 1000] w fun e w' => ∃ a c, e = .returned (.slice a n c) ∧ n ≤ c ∧ OwnP w' 0 (.slice a n c) A.reverse ∧ Below w.heap.size w w') := Lib.hid fun w hw => by
    refine (HC1.out true 1000 w (by omega) hw).mono ?_
    rintro e w' ⟨x, rfl, ho, hb⟩
    rw [show ((1000 : Nat) : Int) = 1000 from rfl, HG.out] at ho
    obtain ⟨a, c, hx, hcc, _⟩ := ho.form
    rw [List.length_reverse, HN.out] at hx hcc
    subst hx
    exact ⟨a, c, rfl, hcc, ho, hb⟩
  clear hn hAl
  go_wp2_with (first | (go_at_call 17; first | ((with_reducible refine (HCG.out _ (HR3.out.below HB4.out (Nat.le_refl _))).mono ?_); rintro e w5 ⟨ga, gc, rfl, hgc, hg5, hb5⟩; have HGW := Lib.hid hg5; have HB5 := Lib.hid (belowT HB4.out hb5); have HFW := Lib.hid (HF4.out.below hb5); clear hg5 hb5) | ((with_reducible refine (HCF.out _ HR3.out).mono ?_); rintro e w4 ⟨fa, fc, rfl, hfc, hf4, hb4⟩; have HF4 := Lib.hid hf4; have HB4 := Lib.hid hb4; clear hf4 hb4)))
  go_loopw [16] (fun x wr => ∃ i : Nat, x = .int .i64 (i : Int) ∧ i ≤ n ∧ Hid (Below w5.heap.size w5 wr)) (fun i _ => n - (intOf i).toNat)
  case atStart => exact ⟨0, rfl, Nat.zero_le _, Lib.hid (Below.refl _ _)⟩
  case round =>
    obtain ⟨i, rfl, hi, HBI⟩ := hrel
    by_cases hlt : i < n
    · have hltz : (i : Int) < (n : Int) := by omega
      obtain ⟨gf, hgf, hgfl, x0, x1⟩ := own_pair' HFW.out HN.out hlt
      subst hgf
      obtain ⟨r, hr⟩ : ∃ r, r = n - 1 - i := ⟨_, rfl⟩
      have hrn : r < n := by omega
      have hrz : (n : Int) - 1 - (i : Int) = (r : Int) := by omega
      have hrz2 : (n : Int) - (1 + (i : Int)) = (r : Int) := by omega
      have hrnz : (r : Int) < (n : Int) := by omega
      have rr : IntKind.i64.wrap (r : Int) = (r : Int) := by rw [IntKind.wrap_i64]; omega
      have rn1 : IntKind.i64.wrap ((n : Int) - 1) = (n : Int) - 1 := by rw [IntKind.wrap_i64]; omega
      have ri : IntKind.i64.wrap (i : Int) = (i : Int) := by rw [IntKind.wrap_i64]; omega
      have hrev : A.reverse.getD r noneP = A.getD i noneP := by
        have h1 := HN.out
        simp only [List.getD]
        rw [List.getElem?_reverse (by omega)]
        congr 2
        omega
      obtain ⟨gg, hgg, hggl, y0, y1⟩ := own_pair' HGW.out (by rw [List.length_reverse]; exact HN.out) hrn
      subst hgg
      rw [hrev] at y0 y1
      have hmem : A.getD i noneP ∈ A := by
        have h1 := HN.out
        simp only [List.getD, List.getElem?_eq_getElem (show i < A.length by omega), Option.getD_some]
        exact List.getElem_mem _
      have hin := HIN.out _ hmem
      unfold inK at hin
      rw [Bool.and_eq_true, decide_eq_true_eq] at hin
      obtain ⟨hin1, hin2⟩ := hin
      have hl1 : Op.bytesLess (A.getD i noneP).1.toList ua.toList = false := less_no (by omega)
      obtain ⟨X, hX⟩ : ∃ X, A.getD i noneP = X := ⟨_, rfl⟩
      have HX := Lib.hid hX
      rw [hX] at x0 x1 y0 y1 hl1
      obtain ⟨xu, xv⟩ := X
      simp only at x0 x1 y0 y1 hl1
      have p0 : ∀ m os, (shiftW wr m os).cell? ⟨gf, i * 2, none⟩ = some (.string xu) := fun m os => (((HBI.out.trans ((shift_below wr m os).mono HBI.out.size)).cell (p := ⟨gf, i * 2, none⟩) hgfl)).trans x0
      have p1 : ∀ m os, (shiftW wr m os).cell? ⟨gf, i * 2 + 1, none⟩ = some (.string xv) := fun m os => (((HBI.out.trans ((shift_below wr m os).mono HBI.out.size)).cell (p := ⟨gf, i * 2 + 1, none⟩) hgfl)).trans x1
      have q0 : ∀ m os, (shiftW wr m os).cell? ⟨gg, r * 2, none⟩ = some (.string xu) := fun m os => (((HBI.out.trans ((shift_below wr m os).mono HBI.out.size)).cell (p := ⟨gg, r * 2, none⟩) hggl)).trans y0
      have q1 : ∀ m os, (shiftW wr m os).cell? ⟨gg, r * 2 + 1, none⟩ = some (.string xv) := fun m os => (((HBI.out.trans ((shift_below wr m os).mono HBI.out.size)).cell (p := ⟨gg, r * 2 + 1, none⟩) hggl)).trans y1
      have p0d : wr.drew.cell? ⟨gf, i * 2, none⟩ = some (.string xu) := ((HBI.out.drew).cell (p := ⟨gf, i * 2, none⟩) hgfl).trans x0
      have p1d : wr.drew.cell? ⟨gf, i * 2 + 1, none⟩ = some (.string xv) := ((HBI.out.drew).cell (p := ⟨gf, i * 2 + 1, none⟩) hgfl).trans x1
      have q0d : wr.drew.cell? ⟨gg, r * 2, none⟩ = some (.string xu) := ((HBI.out.drew).cell (p := ⟨gg, r * 2, none⟩) hggl).trans y0
      have q1d : wr.drew.cell? ⟨gg, r * 2 + 1, none⟩ = some (.string xv) := ((HBI.out.drew).cell (p := ⟨gg, r * 2 + 1, none⟩) hggl).trans y1
      clear hr hrev hmem hin1 hin2 hX x0 x1 y0 y1
      by_cases hi0 : 0 < i
      · obtain ⟨p, rfl⟩ : ∃ p, i = p + 1 := ⟨i - 1, by omega⟩
        have hi0z : (0 : Int) < (p : Int) + 1 := by omega
        have hrz3 : (n : Int) - 1 - ((p : Int) + 1) = (r : Int) := by omega
        clear hrz hrz2
        have rp : IntKind.i64.wrap (p : Int) = (p : Int) := by rw [IntKind.wrap_i64]; omega
        have rp1 : IntKind.i64.wrap ((p : Int) + 1) = (p : Int) + 1 := by rw [IntKind.wrap_i64]; omega
        have e0 : ((p : Int) + 1).toNat = p + 1 := by omega
        have e1 : (0 : Int) ≤ (p : Int) + 1 := by omega
        have e2 : (p : Int) + 1 < (n : Int) := by omega
        have e3 : (p : Int) < (n : Int) := by omega
        obtain ⟨gf2, hgf2, _, z0, _⟩ := own_pair' HFW.out HN.out (show p < n by omega)
        cases hgf2
        have hasc : cmpL (A.getD p noneP).1.data.toList (A.getD (p + 1) noneP).1.data.toList = -1 := by
          have h1 := HN.out
          have h2 := (List.pairwise_iff_getElem.1 HRI.out) p (p + 1) (by omega) (by omega) (by omega)
          simpa [List.getD, show p < A.length by omega, show p + 1 < A.length by omega] using h2
        rw [HX.out] at hasc
        obtain ⟨Y, hY⟩ : ∃ Y, A.getD p noneP = Y := ⟨_, rfl⟩
        rw [hY] at z0 hasc
        obtain ⟨yu, yv⟩ := Y
        simp only at z0 hasc
        have hl3 : Op.bytesLess yu.toList xu.toList = true := less_yes (by rw [hasc]; omega)
        have r0 : ∀ m os, (shiftW wr m os).cell? ⟨gf, p * 2, none⟩ = some (.string yu) := fun m os => (((HBI.out.trans ((shift_below wr m os).mono HBI.out.size)).cell (p := ⟨gf, p * 2, none⟩) hgfl)).trans z0
        have r0d : wr.drew.cell? ⟨gf, p * 2, none⟩ = some (.string yu) := ((HBI.out.drew).cell (p := ⟨gf, p * 2, none⟩) hgfl).trans z0
        clear hY z0 hasc
        go_upto_region 13 with (fail)
        refine wp_region_plan [(true, 0), (true, 1), (true, 2), (true, 3), (true, 4), (true, 5), (true, 6), (true, 7), (true, 8), (true, 9), (true, 10), (true, 11), (true, 12), (true, 13), (true, 14), (true, 15), (true, 16), (true, 17), (true, 18), (true, 19), (true, 20), (true, 21), (true, 22), (true, 23), (true, 24), (true, 25), (true, 26), (true, 27), (true, 28), (true, 29), (true, 30), (true, 31), (true, 32), (true, 33), (true, 34), (true, 35), (true, 36), (true, 37), (true, 38), (true, 39), (true, 40), (true, 41), (true, 42), (true, 43), (true, 44), (true, 45), (true, 46), (true, 47), (true, 48), (true, 49), (true, 50), (true, 51), (true, 52)] (by kernel_rfl) (by kernel_rfl) (by kernel_rfl) (by kernel_rfl) (by kernel_rfl) ?_
        simp only [planO, List.drop_succ_cons, List.drop_zero]
        refine PlanO.take (v := ?vG0) (by kernel_rfl) ?yG0 ?rG0
        case yG0 => (intro wz hz; go_simp; try with_reducible rfl)
        (try simp only [Act.put, List.setIfInBounds_toArray, List.set_cons_zero, List.set_cons_succ])
        refine PlanO.take (v := ?vG1) (by kernel_rfl) ?yG1 ?rG1
        case yG1 => (intro wz hz; go_simp; try with_reducible rfl)
        (try simp only [Act.put, List.setIfInBounds_toArray, List.set_cons_zero, List.set_cons_succ])
        refine PlanO.take (v := ?vG2) (by kernel_rfl) ?yG2 ?rG2
        case yG2 => (intro wz hz; go_simp; try with_reducible rfl)
        (try simp only [Act.put, List.setIfInBounds_toArray, List.set_cons_zero, List.set_cons_succ])
        refine PlanO.take (v := ?vG3) (by kernel_rfl) ?yG3 ?rG3
        case yG3 => (intro wz hz; have c0 := Ext.at_ hz p0d; have c1 := Ext.at_ hz p1d; go_simp; try with_reducible rfl)
        (try simp only [Act.put, List.setIfInBounds_toArray, List.set_cons_zero, List.set_cons_succ])
        refine PlanO.take (v := ?vG4) (by kernel_rfl) ?yG4 ?rG4
        case yG4 => (intro wz hz; go_simp; try with_reducible rfl)
        (try simp only [Act.put, List.setIfInBounds_toArray, List.set_cons_zero, List.set_cons_succ])
        refine PlanO.take (v := ?vG5) (by kernel_rfl) ?yG5 ?rG5
        case yG5 => (intro wz hz; go_simp; try with_reducible rfl)
        (try simp only [Act.put, List.setIfInBounds_toArray, List.set_cons_zero, List.set_cons_succ])
        refine PlanO.take (v := ?vG6) (by kernel_rfl) ?yG6 ?rG6
        case yG6 => (intro wz hz; go_simp; try with_reducible rfl)
        (try simp only [Act.put, List.setIfInBounds_toArray, List.set_cons_zero, List.set_cons_succ])
        refine PlanO.take (v := ?vG7) (by kernel_rfl) ?yG7 ?rG7
        case yG7 => (intro wz hz; go_simp; try with_reducible rfl)
        (try simp only [Act.put, List.setIfInBounds_toArray, List.set_cons_zero, List.set_cons_succ])
        refine PlanO.take (v := ?vG8) (by kernel_rfl) ?yG8 ?rG8
        case yG8 => (intro wz hz; go_simp; try with_reducible rfl)
        (try simp only [Act.put, List.setIfInBounds_toArray, List.set_cons_zero, List.set_cons_succ])
        refine PlanO.take (v := ?vG9) (by kernel_rfl) ?yG9 ?rG9
        case yG9 => (intro wz hz; go_simp; try with_reducible rfl)
        (try simp only [Act.put, List.setIfInBounds_toArray, List.set_cons_zero, List.set_cons_succ])
        refine PlanO.take (v := ?vG10) (by kernel_rfl) ?yG10 ?rG10
        case yG10 => (intro wz hz; go_simp; try with_reducible rfl)
        (try simp only [Act.put, List.setIfInBounds_toArray, List.set_cons_zero, List.set_cons_succ])
        refine PlanO.take (v := ?vG11) (by kernel_rfl) ?yG11 ?rG11
        case yG11 => (intro wz hz; have c0 := Ext.at_ hz q0d; have c1 := Ext.at_ hz q1d; go_simp; try with_reducible rfl)
        (try simp only [Act.put, List.setIfInBounds_toArray, List.set_cons_zero, List.set_cons_succ])
        refine PlanO.take (v := ?vG12) (by kernel_rfl) ?yG12 ?rG12
        case yG12 => (intro wz hz; go_simp; try with_reducible rfl)
        (try simp only [Act.put, List.setIfInBounds_toArray, List.set_cons_zero, List.set_cons_succ])
        refine PlanO.take (v := ?vG13) (by kernel_rfl) ?yG13 ?rG13
        case yG13 => (intro wz hz; go_simp; try with_reducible rfl)
        (try simp only [Act.put, List.setIfInBounds_toArray, List.set_cons_zero, List.set_cons_succ])
        refine PlanO.take (v := ?vG14) (by kernel_rfl) ?yG14 ?rG14
        case yG14 => (intro wz hz; go_simp; try with_reducible rfl)
        (try simp only [Act.put, List.setIfInBounds_toArray, List.set_cons_zero, List.set_cons_succ])
        refine PlanO.take (v := ?vG15) (by kernel_rfl) ?yG15 ?rG15
        case yG15 => (intro wz hz; go_simp; try with_reducible rfl)
        (try simp only [Act.put, List.setIfInBounds_toArray, List.set_cons_zero, List.set_cons_succ])
        refine PlanO.take (v := ?vG16) (by kernel_rfl) ?yG16 ?rG16
        case yG16 => (intro wz hz; go_simp; try with_reducible rfl)
        (try simp only [Act.put, List.setIfInBounds_toArray, List.set_cons_zero, List.set_cons_succ])
        refine PlanO.take (v := ?vG17) (by kernel_rfl) ?yG17 ?rG17
        case yG17 => (intro wz hz; go_simp; try with_reducible rfl)
        (try simp only [Act.put, List.setIfInBounds_toArray, List.set_cons_zero, List.set_cons_succ])
        refine PlanO.take (v := ?vG18) (by kernel_rfl) ?yG18 ?rG18
        case yG18 => (intro wz hz; have c0 := Ext.at_ hz p0d; have c1 := Ext.at_ hz p1d; go_simp; try with_reducible rfl)
        (try simp only [Act.put, List.setIfInBounds_toArray, List.set_cons_zero, List.set_cons_succ])
        refine PlanO.take (v := ?vG19) (by kernel_rfl) ?yG19 ?rG19
        case yG19 => (intro wz hz; go_simp; try with_reducible rfl)
        (try simp only [Act.put, List.setIfInBounds_toArray, List.set_cons_zero, List.set_cons_succ])
        refine PlanO.take (v := ?vG20) (by kernel_rfl) ?yG20 ?rG20
        case yG20 => (intro wz hz; go_simp; try with_reducible rfl)
        (try simp only [Act.put, List.setIfInBounds_toArray, List.set_cons_zero, List.set_cons_succ])
        refine PlanO.take (v := ?vG21) (by kernel_rfl) ?yG21 ?rG21
        case yG21 => (intro wz hz; go_simp; try with_reducible rfl)
        (try simp only [Act.put, List.setIfInBounds_toArray, List.set_cons_zero, List.set_cons_succ])
        refine PlanO.take (v := ?vG22) (by kernel_rfl) ?yG22 ?rG22
        case yG22 => (intro wz hz; go_simp; try with_reducible rfl)
        (try simp only [Act.put, List.setIfInBounds_toArray, List.set_cons_zero, List.set_cons_succ])
        refine PlanO.take (v := ?vG23) (by kernel_rfl) ?yG23 ?rG23
        case yG23 => (intro wz hz; go_simp; try with_reducible rfl)
        (try simp only [Act.put, List.setIfInBounds_toArray, List.set_cons_zero, List.set_cons_succ])
        refine PlanO.take (v := ?vG24) (by kernel_rfl) ?yG24 ?rG24
        case yG24 => (intro wz hz; go_simp; try with_reducible rfl)
        (try simp only [Act.put, List.setIfInBounds_toArray, List.set_cons_zero, List.set_cons_succ])
        refine PlanO.take (v := ?vG25) (by kernel_rfl) ?yG25 ?rG25
        case yG25 => (intro wz hz; go_simp; try with_reducible rfl)
        (try simp only [Act.put, List.setIfInBounds_toArray, List.set_cons_zero, List.set_cons_succ])
        refine PlanO.skip (by kernel_rfl) ?_
        (try simp only [Act.put, List.setIfInBounds_toArray, List.set_cons_zero, List.set_cons_succ])
        refine PlanO.skip (by kernel_rfl) ?_
        (try simp only [Act.put, List.setIfInBounds_toArray, List.set_cons_zero, List.set_cons_succ])
        refine PlanO.skip (by kernel_rfl) ?_
        (try simp only [Act.put, List.setIfInBounds_toArray, List.set_cons_zero, List.set_cons_succ])
        refine PlanO.skip (by kernel_rfl) ?_
        (try simp only [Act.put, List.setIfInBounds_toArray, List.set_cons_zero, List.set_cons_succ])
        refine PlanO.skip (by kernel_rfl) ?_
        (try simp only [Act.put, List.setIfInBounds_toArray, List.set_cons_zero, List.set_cons_succ])
        refine PlanO.skip (by kernel_rfl) ?_
        (try simp only [Act.put, List.setIfInBounds_toArray, List.set_cons_zero, List.set_cons_succ])
        refine PlanO.skip (by kernel_rfl) ?_
        (try simp only [Act.put, List.setIfInBounds_toArray, List.set_cons_zero, List.set_cons_succ])
        refine PlanO.take (v := ?vG33) (by kernel_rfl) ?yG33 ?rG33
        case yG33 => (intro wz hz; go_simp; try with_reducible rfl)
        (try simp only [Act.put, List.setIfInBounds_toArray, List.set_cons_zero, List.set_cons_succ])
        refine PlanO.take (v := ?vG34) (by kernel_rfl) ?yG34 ?rG34
        case yG34 => (intro wz hz; go_simp; try with_reducible rfl)
        (try simp only [Act.put, List.setIfInBounds_toArray, List.set_cons_zero, List.set_cons_succ])
        refine PlanO.take (v := ?vG35) (by kernel_rfl) ?yG35 ?rG35
        case yG35 => (intro wz hz; go_simp; try with_reducible rfl)
        (try simp only [Act.put, List.setIfInBounds_toArray, List.set_cons_zero, List.set_cons_succ])
        refine PlanO.take (v := ?vG36) (by kernel_rfl) ?yG36 ?rG36
        case yG36 => (intro wz hz; go_simp; try with_reducible rfl)
        (try simp only [Act.put, List.setIfInBounds_toArray, List.set_cons_zero, List.set_cons_succ])
        refine PlanO.take (v := ?vG37) (by kernel_rfl) ?yG37 ?rG37
        case yG37 => (intro wz hz; go_simp; try with_reducible rfl)
        (try simp only [Act.put, List.setIfInBounds_toArray, List.set_cons_zero, List.set_cons_succ])
        refine PlanO.take (v := ?vG38) (by kernel_rfl) ?yG38 ?rG38
        case yG38 => (intro wz hz; go_simp; try with_reducible rfl)
        (try simp only [Act.put, List.setIfInBounds_toArray, List.set_cons_zero, List.set_cons_succ])
        refine PlanO.take (v := ?vG39) (by kernel_rfl) ?yG39 ?rG39
        case yG39 => (intro wz hz; go_simp; try with_reducible rfl)
        (try simp only [Act.put, List.setIfInBounds_toArray, List.set_cons_zero, List.set_cons_succ])
        refine PlanO.take (v := ?vG40) (by kernel_rfl) ?yG40 ?rG40
        case yG40 => (intro wz hz; go_simp; try with_reducible rfl)
        (try simp only [Act.put, List.setIfInBounds_toArray, List.set_cons_zero, List.set_cons_succ])
        refine PlanO.take (v := ?vG41) (by kernel_rfl) ?yG41 ?rG41
        case yG41 => (intro wz hz; go_simp; try with_reducible rfl)
        (try simp only [Act.put, List.setIfInBounds_toArray, List.set_cons_zero, List.set_cons_succ])
        refine PlanO.take (v := ?vG42) (by kernel_rfl) ?yG42 ?rG42
        case yG42 => (intro wz hz; go_simp; try with_reducible rfl)
        (try simp only [Act.put, List.setIfInBounds_toArray, List.set_cons_zero, List.set_cons_succ])
        refine PlanO.take (v := ?vG43) (by kernel_rfl) ?yG43 ?rG43
        case yG43 => (intro wz hz; go_simp; try with_reducible rfl)
        (try simp only [Act.put, List.setIfInBounds_toArray, List.set_cons_zero, List.set_cons_succ])
        refine PlanO.take (v := ?vG44) (by kernel_rfl) ?yG44 ?rG44
        case yG44 => (intro wz hz; have c0 := Ext.at_ hz r0d; go_simp; try with_reducible rfl)
        (try simp only [Act.put, List.setIfInBounds_toArray, List.set_cons_zero, List.set_cons_succ])
        refine PlanO.take (v := ?vG45) (by kernel_rfl) ?yG45 ?rG45
        case yG45 => (intro wz hz; go_simp; try with_reducible rfl)
        (try simp only [Act.put, List.setIfInBounds_toArray, List.set_cons_zero, List.set_cons_succ])
        refine PlanO.take (v := ?vG46) (by kernel_rfl) ?yG46 ?rG46
        case yG46 => (intro wz hz; go_simp; try with_reducible rfl)
        (try simp only [Act.put, List.setIfInBounds_toArray, List.set_cons_zero, List.set_cons_succ])
        refine PlanO.take (v := ?vG47) (by kernel_rfl) ?yG47 ?rG47
        case yG47 => (intro wz hz; go_simp; try with_reducible rfl)
        (try simp only [Act.put, List.setIfInBounds_toArray, List.set_cons_zero, List.set_cons_succ])
        refine PlanO.take (v := ?vG48) (by kernel_rfl) ?yG48 ?rG48
        case yG48 => (intro wz hz; go_simp; try with_reducible rfl)
        (try simp only [Act.put, List.setIfInBounds_toArray, List.set_cons_zero, List.set_cons_succ])
        refine PlanO.take (v := ?vG49) (by kernel_rfl) ?yG49 ?rG49
        case yG49 => (intro wz hz; have c0 := Ext.at_ hz p0d; have c1 := Ext.at_ hz p1d; go_simp; try with_reducible rfl)
        (try simp only [Act.put, List.setIfInBounds_toArray, List.set_cons_zero, List.set_cons_succ])
        refine PlanO.take (v := ?vG50) (by kernel_rfl) ?yG50 ?rG50
        case yG50 => (intro wz hz; go_simp; try with_reducible rfl)
        (try simp only [Act.put, List.setIfInBounds_toArray, List.set_cons_zero, List.set_cons_succ])
        refine PlanO.take (v := ?vG51) (by kernel_rfl) ?yG51 ?rG51
        case yG51 => (intro wz hz; go_simp; try with_reducible rfl)
        (try simp only [Act.put, List.setIfInBounds_toArray, List.set_cons_zero, List.set_cons_succ])
        refine PlanO.take (v := ?vG52) (by kernel_rfl) ?yG52 ?rG52
        case yG52 => (intro wz hz; go_simp; try with_reducible rfl)
        (try simp only [Act.put, List.setIfInBounds_toArray, List.set_cons_zero, List.set_cons_succ])
        refine PlanO.done (NoPanic.normal ?_)
        go_wp2
        exact ⟨⟨p + 1 + 1, by go_num, by omega, Lib.hid HBI.out.drew⟩, by simp [intOf]; omega⟩
      · obtain rfl : i = 0 := by omega
        have hrz3 : (n : Int) - 1 = (r : Int) := by omega
        replace p0 : ∀ m os, (shiftW wr m os).cell? ⟨gf, 0, none⟩ = some (.string xu) := fun m os => by simpa using p0 m os
        replace p1 : ∀ m os, (shiftW wr m os).cell? ⟨gf, 1, none⟩ = some (.string xv) := fun m os => by simpa using p1 m os
        replace p0d : wr.drew.cell? ⟨gf, 0, none⟩ = some (.string xu) := by simpa using p0d
        replace p1d : wr.drew.cell? ⟨gf, 1, none⟩ = some (.string xv) := by simpa using p1d
        clear hrz hrz2 rn1
        go_upto_region 13 with (fail)
        refine wp_region_plan [(true, 0), (true, 1), (true, 2), (true, 3), (true, 4), (true, 5), (true, 6), (true, 7), (true, 8), (true, 9), (true, 10), (true, 11), (true, 12), (true, 13), (true, 14), (true, 15), (true, 16), (true, 17), (true, 18), (true, 19), (true, 20), (true, 21), (true, 22), (true, 23), (true, 24), (true, 25), (true, 26), (true, 27), (true, 28), (true, 29), (true, 30), (true, 31), (true, 32), (true, 33), (true, 34), (true, 35), (true, 36), (true, 37), (true, 38), (true, 39), (true, 40), (true, 41), (true, 42), (true, 43), (true, 44), (true, 45), (true, 46), (true, 47), (true, 48), (true, 49), (true, 50), (true, 51), (true, 52)] (by kernel_rfl) (by kernel_rfl) (by kernel_rfl) (by kernel_rfl) (by kernel_rfl) ?_
        simp only [planO, List.drop_succ_cons, List.drop_zero]
        refine PlanO.take (v := ?vH0) (by kernel_rfl) ?yH0 ?rH0
        case yH0 => (intro wz hz; go_simp; try with_reducible rfl)
        (try simp only [Act.put, List.setIfInBounds_toArray, List.set_cons_zero, List.set_cons_succ])
        refine PlanO.take (v := ?vH1) (by kernel_rfl) ?yH1 ?rH1
        case yH1 => (intro wz hz; go_simp; try with_reducible rfl)
        (try simp only [Act.put, List.setIfInBounds_toArray, List.set_cons_zero, List.set_cons_succ])
        refine PlanO.take (v := ?vH2) (by kernel_rfl) ?yH2 ?rH2
        case yH2 => (intro wz hz; go_simp; try with_reducible rfl)
        (try simp only [Act.put, List.setIfInBounds_toArray, List.set_cons_zero, List.set_cons_succ])
        refine PlanO.take (v := ?vH3) (by kernel_rfl) ?yH3 ?rH3
        case yH3 => (intro wz hz; have c0 := Ext.at_ hz p0d; have c1 := Ext.at_ hz p1d; go_simp; try with_reducible rfl)
        (try simp only [Act.put, List.setIfInBounds_toArray, List.set_cons_zero, List.set_cons_succ])
        refine PlanO.take (v := ?vH4) (by kernel_rfl) ?yH4 ?rH4
        case yH4 => (intro wz hz; go_simp; try with_reducible rfl)
        (try simp only [Act.put, List.setIfInBounds_toArray, List.set_cons_zero, List.set_cons_succ])
        refine PlanO.take (v := ?vH5) (by kernel_rfl) ?yH5 ?rH5
        case yH5 => (intro wz hz; go_simp; try with_reducible rfl)
        (try simp only [Act.put, List.setIfInBounds_toArray, List.set_cons_zero, List.set_cons_succ])
        refine PlanO.take (v := ?vH6) (by kernel_rfl) ?yH6 ?rH6
        case yH6 => (intro wz hz; go_simp; try with_reducible rfl)
        (try simp only [Act.put, List.setIfInBounds_toArray, List.set_cons_zero, List.set_cons_succ])
        refine PlanO.take (v := ?vH7) (by kernel_rfl) ?yH7 ?rH7
        case yH7 => (intro wz hz; go_simp; try with_reducible rfl)
        (try simp only [Act.put, List.setIfInBounds_toArray, List.set_cons_zero, List.set_cons_succ])
        refine PlanO.take (v := ?vH8) (by kernel_rfl) ?yH8 ?rH8
        case yH8 => (intro wz hz; go_simp; try with_reducible rfl)
        (try simp only [Act.put, List.setIfInBounds_toArray, List.set_cons_zero, List.set_cons_succ])
        refine PlanO.take (v := ?vH9) (by kernel_rfl) ?yH9 ?rH9
        case yH9 => (intro wz hz; go_simp; try with_reducible rfl)
        (try simp only [Act.put, List.setIfInBounds_toArray, List.set_cons_zero, List.set_cons_succ])
        refine PlanO.take (v := ?vH10) (by kernel_rfl) ?yH10 ?rH10
        case yH10 => (intro wz hz; go_simp; try with_reducible rfl)
        (try simp only [Act.put, List.setIfInBounds_toArray, List.set_cons_zero, List.set_cons_succ])
        refine PlanO.take (v := ?vH11) (by kernel_rfl) ?yH11 ?rH11
        case yH11 => (intro wz hz; have c0 := Ext.at_ hz q0d; have c1 := Ext.at_ hz q1d; go_simp; try with_reducible rfl)
        (try simp only [Act.put, List.setIfInBounds_toArray, List.set_cons_zero, List.set_cons_succ])
        refine PlanO.take (v := ?vH12) (by kernel_rfl) ?yH12 ?rH12
        case yH12 => (intro wz hz; go_simp; try with_reducible rfl)
        (try simp only [Act.put, List.setIfInBounds_toArray, List.set_cons_zero, List.set_cons_succ])
        refine PlanO.take (v := ?vH13) (by kernel_rfl) ?yH13 ?rH13
        case yH13 => (intro wz hz; go_simp; try with_reducible rfl)
        (try simp only [Act.put, List.setIfInBounds_toArray, List.set_cons_zero, List.set_cons_succ])
        refine PlanO.take (v := ?vH14) (by kernel_rfl) ?yH14 ?rH14
        case yH14 => (intro wz hz; go_simp; try with_reducible rfl)
        (try simp only [Act.put, List.setIfInBounds_toArray, List.set_cons_zero, List.set_cons_succ])
        refine PlanO.take (v := ?vH15) (by kernel_rfl) ?yH15 ?rH15
        case yH15 => (intro wz hz; go_simp; try with_reducible rfl)
        (try simp only [Act.put, List.setIfInBounds_toArray, List.set_cons_zero, List.set_cons_succ])
        refine PlanO.take (v := ?vH16) (by kernel_rfl) ?yH16 ?rH16
        case yH16 => (intro wz hz; go_simp; try with_reducible rfl)
        (try simp only [Act.put, List.setIfInBounds_toArray, List.set_cons_zero, List.set_cons_succ])
        refine PlanO.take (v := ?vH17) (by kernel_rfl) ?yH17 ?rH17
        case yH17 => (intro wz hz; go_simp; try with_reducible rfl)
        (try simp only [Act.put, List.setIfInBounds_toArray, List.set_cons_zero, List.set_cons_succ])
        refine PlanO.take (v := ?vH18) (by kernel_rfl) ?yH18 ?rH18
        case yH18 => (intro wz hz; have c0 := Ext.at_ hz p0d; have c1 := Ext.at_ hz p1d; go_simp; try with_reducible rfl)
        (try simp only [Act.put, List.setIfInBounds_toArray, List.set_cons_zero, List.set_cons_succ])
        refine PlanO.take (v := ?vH19) (by kernel_rfl) ?yH19 ?rH19
        case yH19 => (intro wz hz; go_simp; try with_reducible rfl)
        (try simp only [Act.put, List.setIfInBounds_toArray, List.set_cons_zero, List.set_cons_succ])
        refine PlanO.take (v := ?vH20) (by kernel_rfl) ?yH20 ?rH20
        case yH20 => (intro wz hz; go_simp; try with_reducible rfl)
        (try simp only [Act.put, List.setIfInBounds_toArray, List.set_cons_zero, List.set_cons_succ])
        refine PlanO.take (v := ?vH21) (by kernel_rfl) ?yH21 ?rH21
        case yH21 => (intro wz hz; go_simp; try with_reducible rfl)
        (try simp only [Act.put, List.setIfInBounds_toArray, List.set_cons_zero, List.set_cons_succ])
        refine PlanO.take (v := ?vH22) (by kernel_rfl) ?yH22 ?rH22
        case yH22 => (intro wz hz; go_simp; try with_reducible rfl)
        (try simp only [Act.put, List.setIfInBounds_toArray, List.set_cons_zero, List.set_cons_succ])
        refine PlanO.take (v := ?vH23) (by kernel_rfl) ?yH23 ?rH23
        case yH23 => (intro wz hz; go_simp; try with_reducible rfl)
        (try simp only [Act.put, List.setIfInBounds_toArray, List.set_cons_zero, List.set_cons_succ])
        refine PlanO.take (v := ?vH24) (by kernel_rfl) ?yH24 ?rH24
        case yH24 => (intro wz hz; go_simp; try with_reducible rfl)
        (try simp only [Act.put, List.setIfInBounds_toArray, List.set_cons_zero, List.set_cons_succ])
        refine PlanO.take (v := ?vH25) (by kernel_rfl) ?yH25 ?rH25
        case yH25 => (intro wz hz; go_simp; try with_reducible rfl)
        (try simp only [Act.put, List.setIfInBounds_toArray, List.set_cons_zero, List.set_cons_succ])
        refine PlanO.skip (by kernel_rfl) ?_
        (try simp only [Act.put, List.setIfInBounds_toArray, List.set_cons_zero, List.set_cons_succ])
        refine PlanO.skip (by kernel_rfl) ?_
        (try simp only [Act.put, List.setIfInBounds_toArray, List.set_cons_zero, List.set_cons_succ])
        refine PlanO.skip (by kernel_rfl) ?_
        (try simp only [Act.put, List.setIfInBounds_toArray, List.set_cons_zero, List.set_cons_succ])
        refine PlanO.skip (by kernel_rfl) ?_
        (try simp only [Act.put, List.setIfInBounds_toArray, List.set_cons_zero, List.set_cons_succ])
        refine PlanO.skip (by kernel_rfl) ?_
        (try simp only [Act.put, List.setIfInBounds_toArray, List.set_cons_zero, List.set_cons_succ])
        refine PlanO.skip (by kernel_rfl) ?_
        (try simp only [Act.put, List.setIfInBounds_toArray, List.set_cons_zero, List.set_cons_succ])
        refine PlanO.skip (by kernel_rfl) ?_
        (try simp only [Act.put, List.setIfInBounds_toArray, List.set_cons_zero, List.set_cons_succ])
        refine PlanO.take (v := ?vH33) (by kernel_rfl) ?yH33 ?rH33
        case yH33 => (intro wz hz; go_simp; try with_reducible rfl)
        (try simp only [Act.put, List.setIfInBounds_toArray, List.set_cons_zero, List.set_cons_succ])
        refine PlanO.take (v := ?vH34) (by kernel_rfl) ?yH34 ?rH34
        case yH34 => (intro wz hz; go_simp; try with_reducible rfl)
        (try simp only [Act.put, List.setIfInBounds_toArray, List.set_cons_zero, List.set_cons_succ])
        refine PlanO.take (v := ?vH35) (by kernel_rfl) ?yH35 ?rH35
        case yH35 => (intro wz hz; go_simp; try with_reducible rfl)
        (try simp only [Act.put, List.setIfInBounds_toArray, List.set_cons_zero, List.set_cons_succ])
        refine PlanO.take (v := ?vH36) (by kernel_rfl) ?yH36 ?rH36
        case yH36 => (intro wz hz; go_simp; try with_reducible rfl)
        (try simp only [Act.put, List.setIfInBounds_toArray, List.set_cons_zero, List.set_cons_succ])
        refine PlanO.take (v := ?vH37) (by kernel_rfl) ?yH37 ?rH37
        case yH37 => (intro wz hz; go_simp; try with_reducible rfl)
        (try simp only [Act.put, List.setIfInBounds_toArray, List.set_cons_zero, List.set_cons_succ])
        refine PlanO.take (v := ?vH38) (by kernel_rfl) ?yH38 ?rH38
        case yH38 => (intro wz hz; go_simp; try with_reducible rfl)
        (try simp only [Act.put, List.setIfInBounds_toArray, List.set_cons_zero, List.set_cons_succ])
        refine PlanO.skip (by kernel_rfl) ?_
        (try simp only [Act.put, List.setIfInBounds_toArray, List.set_cons_zero, List.set_cons_succ])
        refine PlanO.skip (by kernel_rfl) ?_
        (try simp only [Act.put, List.setIfInBounds_toArray, List.set_cons_zero, List.set_cons_succ])
        refine PlanO.skip (by kernel_rfl) ?_
        (try simp only [Act.put, List.setIfInBounds_toArray, List.set_cons_zero, List.set_cons_succ])
        refine PlanO.skip (by kernel_rfl) ?_
        (try simp only [Act.put, List.setIfInBounds_toArray, List.set_cons_zero, List.set_cons_succ])
        refine PlanO.skip (by kernel_rfl) ?_
        (try simp only [Act.put, List.setIfInBounds_toArray, List.set_cons_zero, List.set_cons_succ])
        refine PlanO.skip (by kernel_rfl) ?_
        (try simp only [Act.put, List.setIfInBounds_toArray, List.set_cons_zero, List.set_cons_succ])
        refine PlanO.skip (by kernel_rfl) ?_
        (try simp only [Act.put, List.setIfInBounds_toArray, List.set_cons_zero, List.set_cons_succ])
        refine PlanO.skip (by kernel_rfl) ?_
        (try simp only [Act.put, List.setIfInBounds_toArray, List.set_cons_zero, List.set_cons_succ])
        refine PlanO.skip (by kernel_rfl) ?_
        (try simp only [Act.put, List.setIfInBounds_toArray, List.set_cons_zero, List.set_cons_succ])
        refine PlanO.skip (by kernel_rfl) ?_
        (try simp only [Act.put, List.setIfInBounds_toArray, List.set_cons_zero, List.set_cons_succ])
        refine PlanO.skip (by kernel_rfl) ?_
        (try simp only [Act.put, List.setIfInBounds_toArray, List.set_cons_zero, List.set_cons_succ])
        refine PlanO.skip (by kernel_rfl) ?_
        (try simp only [Act.put, List.setIfInBounds_toArray, List.set_cons_zero, List.set_cons_succ])
        refine PlanO.take (v := ?vH51) (by kernel_rfl) ?yH51 ?rH51
        case yH51 => (intro wz hz; go_simp; try with_reducible rfl)
        (try simp only [Act.put, List.setIfInBounds_toArray, List.set_cons_zero, List.set_cons_succ])
        refine PlanO.take (v := ?vH52) (by kernel_rfl) ?yH52 ?rH52
        case yH52 => (intro wz hz; go_simp; try with_reducible rfl)
        (try simp only [Act.put, List.setIfInBounds_toArray, List.set_cons_zero, List.set_cons_succ])
        refine PlanO.done (NoPanic.normal ?_)
        go_wp2
        exact ⟨⟨1, by go_num, by omega, Lib.hid HBI.out.drew⟩, by simp [intOf]; omega⟩
    · have hltz : ¬ (i : Int) < (n : Int) := by omega
      obtain rfl : i = n := by omega
      obtain ⟨t, ht⟩ : ∃ t, t = min mo i := ⟨_, rfl⟩
      have htz : min (mo : Int) (i : Int) = (t : Int) := by omega
      have htz2 : (if i < mo then (i : Int) else (mo : Int)) = (t : Int) := by split <;> omega
      have htn : t ≤ i := by omega
      have htf : (t : Int) ≤ (fc : Int) := by omega
      have htg : (t : Int) ≤ (gc : Int) := by omega
      have htnz : (t : Int) ≤ (i : Int) := by omega
      have HTF := Lib.hid (show A.take mo = A.take t by rw [List.take_eq_take_min, HN.out, ht])
      have HTG := Lib.hid (show A.reverse.take mo = A.reverse.take t by rw [List.take_eq_take_min, List.length_reverse, HN.out, ht])
      have HRW := Lib.hid ((HR3.out.below HB5.out (Nat.le_refl _)).below HBI.out (Nat.le_refl _))
      have HVF : Hid (∀ u, Below wr.heap.size wr u → Calls Try.prog 17 #[.slice la L.length lc, .int .i64 (sq : Int), .string ua, .string ⟨#[]⟩, .bool false, .int .i64 (mo : Int)] u fun e u' => ∃ x, e = .returned x ∧ OwnP u' 0 x (A.take t) ∧ Below u.heap.size u u') := Lib.hid fun u hu => by
        have h := HC1.out false mo u (by omega) (HRW.out.below hu (Nat.le_refl _))
        rw [HFM.out, HTF.out] at h
        exact h
      have HVG : Hid (∀ u, Below wr.heap.size wr u → Calls Try.prog 17 #[.slice la L.length lc, .int .i64 (sq : Int), .string ua, .string ⟨#[]⟩, .bool true, .int .i64 (mo : Int)] u fun e u' => ∃ x, e = .returned x ∧ OwnP u' 0 x (A.reverse.take t) ∧ Below u.heap.size u u') := Lib.hid fun u hu => by
        have h := HC1.out true mo u (by omega) (HRW.out.below hu (Nat.le_refl _))
        rw [HGM.out, HTG.out] at h
        exact h
      have HPF : Hid (∀ u x, Below wr.heap.size wr u → OwnP u 0 x (A.take t) → Calls Try.prog 16 #[x, .slice fa t fc] u fun e u' => e = .returned (.bool true) ∧ Below u.heap.size u u') := Lib.hid fun u x hu hx =>
        rpairs_any x _ (A.take t) u (by rw [List.length_take]; omega) hx ((ownP_front (HFW.out.below HBI.out) HN.out htn).below hu)
      have HPG : Hid (∀ u x, Below wr.heap.size wr u → OwnP u 0 x (A.reverse.take t) → Calls Try.prog 16 #[x, .slice ga t gc] u fun e u' => e = .returned (.bool true) ∧ Below u.heap.size u u') := Lib.hid fun u x hu hx =>
        rpairs_any x _ (A.reverse.take t) u (by rw [List.length_take]; omega) hx ((ownP_front (HGW.out.below HBI.out) (by rw [List.length_reverse]; exact HN.out) htn).below hu)
      have HBE : Hid (Below W.heap.size W wr) := Lib.hid (belowT HB3.out (belowT HB5.out HBI.out))
      have rsq : IntKind.i64.wrap (sq : Int) = (sq : Int) := by rw [IntKind.wrap_i64]; omega
      have rmo : IntKind.i64.wrap (mo : Int) = (mo : Int) := by rw [IntKind.wrap_i64]; omega
      clear ht
      go_upto_region 16 with (fail)
      refine wp_region_plan [(true, 0), (true, 1), (true, 2), (true, 3), (true, 4), (true, 5), (true, 6), (true, 8), (true, 9), (true, 10), (false, 7), (false, 11), (true, 12), (true, 13), (true, 14), (true, 15), (true, 16), (true, 17), (true, 18), (true, 19), (true, 21), (true, 22), (true, 23), (false, 20), (false, 24), (true, 25), (true, 26), (false, 27), (true, 28), (true, 29)] (by kernel_rfl) (by kernel_rfl) (by kernel_rfl) (by kernel_rfl) (by kernel_rfl) ?_
      simp only [planO, List.drop_succ_cons, List.drop_zero]
      refine PlanO.take (v := ?vF0) (by kernel_rfl) ?yF0 ?rF0
      case yF0 => (intro wz hz; go_simp; try with_reducible rfl)
      (try simp only [Act.put, List.setIfInBounds_toArray, List.set_cons_zero, List.set_cons_succ])
      refine PlanO.take (v := ?vF1) (by kernel_rfl) ?yF1 ?rF1
      case yF1 => (intro wz hz; go_simp; try with_reducible rfl)
      (try simp only [Act.put, List.setIfInBounds_toArray, List.set_cons_zero, List.set_cons_succ])
      refine PlanO.take (v := ?vF2) (by kernel_rfl) ?yF2 ?rF2
      case yF2 => (intro wz hz; go_simp; try with_reducible rfl)
      (try simp only [Act.put, List.setIfInBounds_toArray, List.set_cons_zero, List.set_cons_succ])
      refine PlanO.take (v := ?vF3) (by kernel_rfl) ?yF3 ?rF3
      case yF3 => (intro wz hz; go_simp; try with_reducible rfl)
      (try simp only [Act.put, List.setIfInBounds_toArray, List.set_cons_zero, List.set_cons_succ])
      refine PlanO.take (v := ?vF4) (by kernel_rfl) ?yF4 ?rF4
      case yF4 => (intro wz hz; go_simp; try with_reducible rfl)
      (try simp only [Act.put, List.setIfInBounds_toArray, List.set_cons_zero, List.set_cons_succ])
      refine PlanO.take (v := ?vF5) (by kernel_rfl) ?yF5 ?rF5
      case yF5 => (intro wz hz; go_simp; try with_reducible rfl)
      (try simp only [Act.put, List.setIfInBounds_toArray, List.set_cons_zero, List.set_cons_succ])
      refine PlanO.take (v := ?vF6) (by kernel_rfl) ?yF6 ?rF6
      case yF6 => (intro wz hz; go_simp; try with_reducible rfl)
      (try simp only [Act.put, List.setIfInBounds_toArray, List.set_cons_zero, List.set_cons_succ])
      refine PlanO.take (v := ?vF8) (by kernel_rfl) ?yF8 ?rF8
      case yF8 => (intro wz hz; go_simp; try with_reducible rfl)
      (try simp only [Act.put, List.setIfInBounds_toArray, List.set_cons_zero, List.set_cons_succ])
      refine PlanO.take (v := ?vF9) (by kernel_rfl) ?yF9 ?rF9
      case yF9 => (intro wz hz; go_simp; try with_reducible rfl)
      (try simp only [Act.put, List.setIfInBounds_toArray, List.set_cons_zero, List.set_cons_succ])
      refine PlanO.take (v := ?vF10) (by kernel_rfl) ?yF10 ?rF10
      case yF10 => (intro wz hz; go_simp; try with_reducible rfl)
      (try simp only [Act.put, List.setIfInBounds_toArray, List.set_cons_zero, List.set_cons_succ])
      refine PlanO.exec (fun K hK => ?_)
      go_simp
      go_at_call 17
      (with_reducible refine (HVF.out _ (Below.refl _ _).drew).mono ?_)
      rintro r u1 ⟨x1, rfl, ho1, hb1⟩
      have HX1 := Lib.hid ho1
      have hE1 : Below wr.drew.heap.size wr.drew u1 := hb1
      clear ho1
      go_wp2_with fail
      refine hK.out _ _ hE1 ?_
      clear hK K
      (try simp only [Act.put, List.setIfInBounds_toArray, List.set_cons_zero, List.set_cons_succ])
      refine PlanO.exec (fun K hK => ?_)
      go_simp
      go_at_call 16
      (with_reducible refine (HPF.out _ _ (below_draw10 hE1) HX1.out).mono ?_)
      rintro r u2 ⟨rfl, hb2⟩
      have hE2 := belowT hE1 hb2
      go_wp2_with fail
      refine hK.out _ _ hb2 ?_
      clear hK K
      (try simp only [Act.put, List.setIfInBounds_toArray, List.set_cons_zero, List.set_cons_succ])
      refine PlanO.take (v := .bool true) (by kernel_rfl) ?yF12 ?rF12
      case yF12 => (intro wz hz; go_simp; try with_reducible rfl)
      (try simp only [Act.put, List.setIfInBounds_toArray, List.set_cons_zero, List.set_cons_succ])
      refine PlanO.take (v := ?vF13) (by kernel_rfl) ?yF13 ?rF13
      case yF13 => (intro wz hz; go_simp; try with_reducible rfl)
      (try simp only [Act.put, List.setIfInBounds_toArray, List.set_cons_zero, List.set_cons_succ])
      refine PlanO.take (v := ?vF14) (by kernel_rfl) ?yF14 ?rF14
      case yF14 => (intro wz hz; go_simp; try with_reducible rfl)
      (try simp only [Act.put, List.setIfInBounds_toArray, List.set_cons_zero, List.set_cons_succ])
      refine PlanO.take (v := ?vF15) (by kernel_rfl) ?yF15 ?rF15
      case yF15 => (intro wz hz; go_simp; try with_reducible rfl)
      (try simp only [Act.put, List.setIfInBounds_toArray, List.set_cons_zero, List.set_cons_succ])
      refine PlanO.take (v := ?vF16) (by kernel_rfl) ?yF16 ?rF16
      case yF16 => (intro wz hz; go_simp; try with_reducible rfl)
      (try simp only [Act.put, List.setIfInBounds_toArray, List.set_cons_zero, List.set_cons_succ])
      refine PlanO.take (v := ?vF17) (by kernel_rfl) ?yF17 ?rF17
      case yF17 => (intro wz hz; go_simp; try with_reducible rfl)
      (try simp only [Act.put, List.setIfInBounds_toArray, List.set_cons_zero, List.set_cons_succ])
      refine PlanO.take (v := ?vF18) (by kernel_rfl) ?yF18 ?rF18
      case yF18 => (intro wz hz; go_simp; try with_reducible rfl)
      (try simp only [Act.put, List.setIfInBounds_toArray, List.set_cons_zero, List.set_cons_succ])
      refine PlanO.take (v := ?vF19) (by kernel_rfl) ?yF19 ?rF19
      case yF19 => (intro wz hz; go_simp; try with_reducible rfl)
      (try simp only [Act.put, List.setIfInBounds_toArray, List.set_cons_zero, List.set_cons_succ])
      refine PlanO.take (v := ?vF21) (by kernel_rfl) ?yF21 ?rF21
      case yF21 => (intro wz hz; go_simp; try with_reducible rfl)
      (try simp only [Act.put, List.setIfInBounds_toArray, List.set_cons_zero, List.set_cons_succ])
      refine PlanO.take (v := ?vF22) (by kernel_rfl) ?yF22 ?rF22
      case yF22 => (intro wz hz; go_simp; try with_reducible rfl)
      (try simp only [Act.put, List.setIfInBounds_toArray, List.set_cons_zero, List.set_cons_succ])
      refine PlanO.take (v := ?vF23) (by kernel_rfl) ?yF23 ?rF23
      case yF23 => (intro wz hz; go_simp; try with_reducible rfl)
      (try simp only [Act.put, List.setIfInBounds_toArray, List.set_cons_zero, List.set_cons_succ])
      refine PlanO.exec (fun K hK => ?_)
      go_simp
      go_at_call 17
      (with_reducible refine (HVG.out _ (below_draw10 hE2)).mono ?_)
      rintro r u3 ⟨x3, rfl, ho3, hb3⟩
      have HX3 := Lib.hid ho3
      have hE3 := belowT hE2 hb3
      clear ho3
      go_wp2_with fail
      refine hK.out _ _ hb3 ?_
      clear hK K
      (try simp only [Act.put, List.setIfInBounds_toArray, List.set_cons_zero, List.set_cons_succ])
      refine PlanO.exec (fun K hK => ?_)
      go_simp
      go_at_call 16
      (with_reducible refine (HPG.out _ _ (below_draw10 hE3) HX3.out).mono ?_)
      rintro r u4 ⟨rfl, hb4⟩
      have hE4 := belowT hE3 hb4
      go_wp2_with fail
      refine hK.out _ _ hb4 ?_
      clear hK K
      (try simp only [Act.put, List.setIfInBounds_toArray, List.set_cons_zero, List.set_cons_succ])
      refine PlanO.take (v := .bool true) (by kernel_rfl) ?yF25 ?rF25
      case yF25 => (intro wz hz; go_simp; try with_reducible rfl)
      (try simp only [Act.put, List.setIfInBounds_toArray, List.set_cons_zero, List.set_cons_succ])
      refine PlanO.take (v := .bool true) (by kernel_rfl) ?yF26 ?rF26
      case yF26 => (intro wz hz; go_simp; try with_reducible rfl)
      (try simp only [Act.put, List.setIfInBounds_toArray, List.set_cons_zero, List.set_cons_succ])
      refine PlanO.exec (fun K hK => ?_)
      go_simp
      go_at_call 10
      (with_reducible refine (HAW.out _).mono ?_)
      rintro r u5 ⟨rfl, hb5⟩
      have hE5 := belowT hE4 hb5
      go_wp2_with fail
      refine hK.out _ _ hb5 ?_
      clear hK K
      (try simp only [Act.put, List.setIfInBounds_toArray, List.set_cons_zero, List.set_cons_succ])
      refine PlanO.take (v := .bool true) (by kernel_rfl) ?yF28 ?rF28
      case yF28 => (intro wz hz; go_simp; try with_reducible rfl)
      (try simp only [Act.put, List.setIfInBounds_toArray, List.set_cons_zero, List.set_cons_succ])
      refine PlanO.take (v := ?vF29) (by kernel_rfl) ?yF29 ?rF29
      case yF29 => (intro wz hz; go_simp; try with_reducible rfl)
      (try simp only [Act.put, List.setIfInBounds_toArray, List.set_cons_zero, List.set_cons_succ])
      refine PlanO.done (NoPanic.normal ?_)
      go_wp2
      go_ret
      exact ⟨rfl, HBE.out.trans ((below_draw10 hE5).mono HBE.out.size)⟩
end Go.Proofs.Ytnmmeaoapfampaa
