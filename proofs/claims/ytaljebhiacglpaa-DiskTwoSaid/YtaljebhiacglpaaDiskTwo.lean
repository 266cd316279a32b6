/-
  The walk of the statement DiskTwo.
-/
import Derived.Test.YtaljebhiacglpaaDiskMoved
namespace Go.Proofs.Ytaljebhiacglpaa
open Go.RowKit

theorem fallen_fw (l : List UInt8) (k : Int) : (fw l).fallen k = fsafe (l.take (rest k l.length)) := by
  have hm : manyL (fw l).loose = l.length := by simp [fw, manyL]
  have hk : kept (fw l).loose (rest k l.length) (fw l).safe = l.take (rest k l.length) := by
    show kept [(0, l)] (rest k l.length) [] = _
    generalize rest k l.length = r
    by_cases h : r = 0
    · rw [h, kept_zero, List.take_zero]
    · rw [kept_cons _ _ _ _ h, wr_zero]
      rfl
  unfold PF.fallen
  rw [hm, hk]
  rfl

set_option maxRecDepth 100000 in
set_option maxHeartbeats 8000000 in
set_option linter.unusedSimpArgs false in
theorem two_main (va vb : Option Addr) (ca cb : Nat) (la lb : List UInt8) (x y : Int) (W : World) (h1 : RdB W (.slice va la.length ca) la) (h2 : RdB W (.slice vb lb.length cb) lb) (l1 : la.length ≤ 200) (l2 : lb.length ≤ 200) (hx : (Lit.int .i64 x).wf = true) (hy : (Lit.int .i64 y).wf = true) (X Y n m : Nat) (hX : max 0 x = (X : Int)) (hY : max 0 y = (Y : Int)) (hn : X % (la.length + 1) = n) (hm : Y % (lb.length + 1) = m) :
    Calls Try.prog 12 #[.slice va la.length ca, .slice vb lb.length cb, .int .i64 x, .int .i64 y] W fun e w' => e = .returned (.bool true) ∧ Below W.heap.size W w' := by
  have hrx : rest x la.length = n := by unfold rest; rw [show (max 0 x).toNat = X by omega]; exact hn
  have hry : rest y lb.length = m := by unfold rest; rw [show (max 0 y).toNat = Y by omega]; exact hm
  have hnl : n ≤ la.length := by have := Nat.mod_lt X (show 0 < la.length + 1 by omega); omega
  have hml : m ≤ lb.length := by have := Nat.mod_lt Y (show 0 < lb.length + 1 by omega); omega
  have hfa : (fw la).fallen x = fsafe (la.take n) := by rw [fallen_fw, hrx]
  have hfb : (fw lb).fallen y = fsafe (lb.take m) := by rw [fallen_fw, hry]
  have HN := Lib.hid (on_new W W (Below.refl _ _) 5000 0 0 false (.slice none 0 0))
  have HA := Lib.hid (fun (w : World) (p : Nat) (h : On W w p (PD.new 5000 0 false)) => on_make h (f0_small _) (by decide) ⟨#[112]⟩ (by decide) 0 (dk 5000 1 [PF.new] [([112], 0)] [] [⟨0, [], [112], 0⟩]) (dk_make 5000 0 [] [] [] [] [112] (by kernel_rfl) rfl))
  have HB := Lib.hid (fun (w : World) (p : Nat) (h : On W w p (dk 5000 1 [PF.new] [([112], 0)] [] [⟨0, [], [112], 0⟩])) => on_make h (small_of (by kernel_rfl) (fmem1 fok_new)) (show 1 + 1 < 10000 by omega) ⟨#[113]⟩ (by decide) 0 (dk 5000 2 [PF.new, PF.new] [([112], 0), ([113], 1)] [] [⟨0, [], [112], 0⟩, ⟨0, [], [113], 1⟩]) (dk_make 5000 1 _ _ _ _ [113] (by kernel_rfl) (by kernel_rfl)))
  have HC := Lib.hid (fun (w : World) (p : Nat) (h : On W w p (dk 5000 2 [PF.new, PF.new] [([112], 0), ([113], 1)] [] [⟨0, [], [112], 0⟩, ⟨0, [], [113], 1⟩])) => on_names h (small_of (by kernel_rfl) (fmem2 fok_new fok_new)) (show List.Nodup [0, 1] by decide) (show 2 + 1 < 10000 by omega) 0 (dk 5000 3 [PF.new, PF.new] [([112], 0), ([113], 1)] [([112], 0), ([113], 1)] []) (dk_names 5000 2 _ _ _ _))
  have HD := Lib.hid (fun (w : World) (p : Nat) (h : On W w p (dk 5000 3 [PF.new, PF.new] [([112], 0), ([113], 1)] [([112], 0), ([113], 1)] [])) => on_write h (small_of (by kernel_rfl) (fmem2 fok_new fok_new)) (show 3 + 1 < 10000 by omega) ⟨#[113]⟩ (by decide) 0 _ lb h2 (by omega) 0 (dk 5000 4 [PF.new, fw lb] [([112], 0), ([113], 1)] [([112], 0), ([113], 1)] []) (dk_write 5000 3 _ _ _ _ [113] 1 0 0 lb (by kernel_rfl) (by kernel_rfl) (Nat.zero_le _) (by omega) (by omega)))
  have HE := Lib.hid (fun (w : World) (p : Nat) (h : On W w p (dk 5000 4 [PF.new, fw lb] [([112], 0), ([113], 1)] [([112], 0), ([113], 1)] [])) => on_write h (small_of (by kernel_rfl) (fmem2 fok_new (fok_fw2 lb (by omega)))) (show 4 + 1 < 10000 by omega) ⟨#[112]⟩ (by decide) 0 _ la h1 (by omega) 0 (dk 5000 5 [fw la, fw lb] [([112], 0), ([113], 1)] [([112], 0), ([113], 1)] []) (dk_write 5000 4 _ _ _ _ [112] 0 lb.length 0 la (by kernel_rfl) (by show 0 + ((wr [] 0 lb).length + 0) = lb.length; rw [wr_zero]; omega) (Nat.zero_le _) (by omega) (by omega)))
  have HF := Lib.hid (fun (w : World) (p : Nat) (h : On W w p (dk 5000 5 [fw la, fw lb] [([112], 0), ([113], 1)] [([112], 0), ([113], 1)] [])) => on_fallQ h.toR (w.alloc (.cells #[.int .i64 x, .int .i64 y] 3)) ((Below.refl _ _).alloc (Nat.le_refl _) _) 0 0 0 false (.slice (some ⟨w.heap.size, 0, none⟩) 2 2) [x, y] 0 rfl (by decide) (by simp; exact ⟨hx, hy⟩) (by simp)
    (.inr ⟨w.heap.size, 2, rfl, by simp, Nat.le_refl _, by simp, fun i v hv => by rw [blk_cell (heap_alloc_new w _)]; match i, hv with | 0, hv => simpa using hv | 1, hv => simpa using hv | i + 2, hv => simp at hv⟩)
    (fun k hk => by have hk3 : k = 0 := (by have : k ≤ 0 := hk; omega); subst hk3; exact small_of (by kernel_rfl) (fmem2 (fok_fw2 la (by omega)) (fok_fw2 lb (by omega)))) (show List.Nodup [0, 1] by decide) (dk 0 0 [fsafe (la.take n), fsafe (lb.take m)] [([112], 0), ([113], 1)] [([112], 0), ([113], 1)] []) (by rw [← hfa, ← hfb]; rfl))
  have HG := Lib.hid (fun (w : World) (p : Nat) (h : On W w p (dk 0 0 [fsafe (la.take n), fsafe (lb.take m)] [([112], 0), ([113], 1)] [([112], 0), ([113], 1)] [])) => on_files h (small_of (by kernel_rfl) (fmem2 (fok_fsafe _ (by rw [List.length_take]; omega)) (fok_fsafe _ (by rw [List.length_take]; omega)))) [([112], la.take n, 0), ([113], lb.take m, 0)] rfl)
  have g1 : ¬ (200 : Int) < (la.length : Int) := by omega
  have g2 : ¬ (200 : Int) < (lb.length : Int) := by omega
  have hn1 : (X : Int).tmod ((la.length : Int) + 1) = (n : Int) := by rw [Int.tmod_eq_emod_of_nonneg (by omega), ← hn]; simp
  have hm1 : (Y : Int).tmod ((lb.length : Int) + 1) = (m : Int) := by rw [Int.tmod_eq_emod_of_nonneg (by omega), ← hm]; simp
  have hn2 : (X : Int) % ((la.length : Int) + 1) = (n : Int) := by rw [← hn]; simp
  have hm2 : (Y : Int) % ((lb.length : Int) + 1) = (m : Int) := by rw [← hm]; simp
  have hwA : IntKind.i64.wrap ((la.length : Int) + 1) = (la.length : Int) + 1 := IntWalk.i64_in _ (by omega)
  have hwB : IntKind.i64.wrap ((lb.length : Int) + 1) = (lb.length : Int) + 1 := IntWalk.i64_in _ (by omega)
  have hzA : ¬ (la.length : Int) + 1 = 0 := by omega
  have hzB : ¬ (lb.length : Int) + 1 = 0 := by omega
  have hnca : n ≤ ca := by obtain ⟨_, _, e, h, _⟩ := RdB.form h1; cases e; omega
  have hmcb : m ≤ cb := by obtain ⟨_, _, e, h, _⟩ := RdB.form h2; cases e; omega
  have HR1 := Lib.hid h1
  have HR2 := Lib.hid h2
  have HNL := Lib.hid (And.intro hnl hml)
  clear h1 h2 hrx hry hfa hfb hn hm
  go_enter Try.func12, Try.ntmps12
  go_wp2_with (first | (go_at_call 15; (with_reducible refine (HN.out).mono ?_); rintro e w0 ⟨p, rfl, h0⟩; have H0 := Lib.hid h0; clear h0) | (go_at_call 26; (with_reducible refine (HA.out _ _ H0.out).mono ?_); rintro e w1 ⟨rfl, h1⟩; have H1 := Lib.hid h1; clear h1) | (go_at_call 26; (with_reducible refine (HB.out _ _ H1.out).mono ?_); rintro e w2 ⟨rfl, h2⟩; have H2 := Lib.hid h2; clear h2) | (go_at_call 29; (with_reducible refine (HC.out _ _ H2.out).mono ?_); rintro e w3 ⟨rfl, h3⟩; have H3 := Lib.hid h3; clear h3) | (go_at_call 27; (with_reducible refine (HD.out _ _ H3.out).mono ?_); rintro e w4 ⟨rfl, h4⟩; have H4 := Lib.hid h4; clear h4) | (go_at_call 27; (with_reducible refine (HE.out _ _ H4.out).mono ?_); rintro e w5 ⟨rfl, h5⟩; have H5 := Lib.hid h5; clear h5) | (go_at_call 30; (with_reducible refine (HF.out _ _ H5.out).mono ?_); rintro e w6 ⟨rfl, h6⟩; have H6 := Lib.hid h6.on; clear h6) | (go_at_call 20; (with_reducible refine (HG.out _ _ H6.out).mono ?_); rintro e w7 ⟨fa, fc, rfl, h7, hr7⟩; have H7 := Lib.hid h7; have HRF := Lib.hid hr7; clear h7 hr7))
  obtain ⟨fa', fc', hfe, hfc1, hfc2, _, hcell⟩ := HRF.out
  rcases hcell with ⟨h0, _⟩ | ⟨fb, fo, hfa, hfbl, hcell⟩
  · simp at h0
  cases hfe
  subst hfa
  obtain ⟨w8, hw8⟩ : ∃ w8, w8 = w7.drew := ⟨_, rfl⟩
  have HB8 := Lib.hid (show Below w7.heap.size w7 w8 by rw [hw8]; exact (Below.refl _ _).drew)
  have Hw8 := Lib.hid hw8
  clear hw8
  have HLT := Lib.hid (show fb < w8.heap.size by have := HB8.out.size; omega)
  have HC1 := Lib.hid ((HB8.out.cell (p := ⟨fb, fo + 1, none⟩) hfbl).trans (hcell 1 (.string (strB (la.take n))) rfl))
  have HC2 := Lib.hid ((HB8.out.cell (p := ⟨fb, fo + 4, none⟩) hfbl).trans (hcell 4 (.string (strB (lb.take m))) rfl))
  have hBW := H7.out.below.trans (HB8.out.mono H7.out.below.size)
  have HBW := Lib.hid hBW
  have HRA := Lib.hid (HR1.out.below hBW (Nat.le_refl _))
  have HRB := Lib.hid (HR2.out.below hBW (Nat.le_refl _))
  clear hcell hBW
  refine wp_region_two (fun wz => Below w8.heap.size w8 wz) (fun wz => Below w8.heap.size w8 wz) [(0, 0), (0, 1), (0, 2), (0, 3), (0, 4), (0, 5), (0, 6), (0, 7), (0, 8), (0, 9), (0, 10), (0, 11), (0, 12), (0, 13), (0, 14), (0, 15), (0, 16), (0, 17), (0, 18), (0, 19), (0, 20), (0, 21), (0, 22), (0, 23), (0, 24), (0, 25), (0, 26), (0, 27), (0, 28), (0, 29), (0, 30), (0, 31), (0, 32), (0, 33), (0, 34), (0, 35), (2, 36), (0, 37), (0, 38)] [] (by kernel_rfl) (by kernel_rfl) (by kernel_rfl) (by kernel_rfl) (by kernel_rfl) (by rw [← Hw8.out]; exact Below.refl _ _) (by rw [← Hw8.out]; exact Below.refl _ _) ?_
  simp only [planT, List.drop_succ_cons, List.drop_zero]
  rw [← Hw8.out]
  refine PlanT.take0 (v := ?vT0) (by kernel_rfl) ?yT0 ?rT0
  case yT0 => (intro wz hz; have kc1 := (hz.cell (p := ⟨fb, fo + 1, none⟩) HLT.out).trans HC1.out; have kc2 := (hz.cell (p := ⟨fb, fo + 4, none⟩) HLT.out).trans HC2.out; have hcA := rdB_convert (P := Try.prog) (RdB.front (HRA.out.below hz (Nat.le_refl _)) n HNL.out.1) 32 5 9 Try.underlying32 Try.underlying5 Try.underlying9; have hcB := rdB_convert (P := Try.prog) (RdB.front (HRB.out.below hz (Nat.le_refl _)) m HNL.out.2) 32 5 9 Try.underlying32 Try.underlying5 Try.underlying9; clear hz; go_simp; try with_reducible rfl)
  (try simp only [Act.put, List.setIfInBounds_toArray, List.set_cons_zero, List.set_cons_succ])
  refine PlanT.take0 (v := ?vT1) (by kernel_rfl) ?yT1 ?rT1
  case yT1 => (intro wz hz; have kc1 := (hz.cell (p := ⟨fb, fo + 1, none⟩) HLT.out).trans HC1.out; have kc2 := (hz.cell (p := ⟨fb, fo + 4, none⟩) HLT.out).trans HC2.out; have hcA := rdB_convert (P := Try.prog) (RdB.front (HRA.out.below hz (Nat.le_refl _)) n HNL.out.1) 32 5 9 Try.underlying32 Try.underlying5 Try.underlying9; have hcB := rdB_convert (P := Try.prog) (RdB.front (HRB.out.below hz (Nat.le_refl _)) m HNL.out.2) 32 5 9 Try.underlying32 Try.underlying5 Try.underlying9; clear hz; go_simp; try with_reducible rfl)
  (try simp only [Act.put, List.setIfInBounds_toArray, List.set_cons_zero, List.set_cons_succ])
  refine PlanT.take0 (v := ?vT2) (by kernel_rfl) ?yT2 ?rT2
  case yT2 => (intro wz hz; have kc1 := (hz.cell (p := ⟨fb, fo + 1, none⟩) HLT.out).trans HC1.out; have kc2 := (hz.cell (p := ⟨fb, fo + 4, none⟩) HLT.out).trans HC2.out; have hcA := rdB_convert (P := Try.prog) (RdB.front (HRA.out.below hz (Nat.le_refl _)) n HNL.out.1) 32 5 9 Try.underlying32 Try.underlying5 Try.underlying9; have hcB := rdB_convert (P := Try.prog) (RdB.front (HRB.out.below hz (Nat.le_refl _)) m HNL.out.2) 32 5 9 Try.underlying32 Try.underlying5 Try.underlying9; clear hz; go_simp; try with_reducible rfl)
  (try simp only [Act.put, List.setIfInBounds_toArray, List.set_cons_zero, List.set_cons_succ])
  refine PlanT.take0 (v := ?vT3) (by kernel_rfl) ?yT3 ?rT3
  case yT3 => (intro wz hz; have kc1 := (hz.cell (p := ⟨fb, fo + 1, none⟩) HLT.out).trans HC1.out; have kc2 := (hz.cell (p := ⟨fb, fo + 4, none⟩) HLT.out).trans HC2.out; have hcA := rdB_convert (P := Try.prog) (RdB.front (HRA.out.below hz (Nat.le_refl _)) n HNL.out.1) 32 5 9 Try.underlying32 Try.underlying5 Try.underlying9; have hcB := rdB_convert (P := Try.prog) (RdB.front (HRB.out.below hz (Nat.le_refl _)) m HNL.out.2) 32 5 9 Try.underlying32 Try.underlying5 Try.underlying9; clear hz; go_simp; try with_reducible rfl)
  (try simp only [Act.put, List.setIfInBounds_toArray, List.set_cons_zero, List.set_cons_succ])
  refine PlanT.take0 (v := ?vT4) (by kernel_rfl) ?yT4 ?rT4
  case yT4 => (intro wz hz; have kc1 := (hz.cell (p := ⟨fb, fo + 1, none⟩) HLT.out).trans HC1.out; have kc2 := (hz.cell (p := ⟨fb, fo + 4, none⟩) HLT.out).trans HC2.out; have hcA := rdB_convert (P := Try.prog) (RdB.front (HRA.out.below hz (Nat.le_refl _)) n HNL.out.1) 32 5 9 Try.underlying32 Try.underlying5 Try.underlying9; have hcB := rdB_convert (P := Try.prog) (RdB.front (HRB.out.below hz (Nat.le_refl _)) m HNL.out.2) 32 5 9 Try.underlying32 Try.underlying5 Try.underlying9; clear hz; go_simp; try with_reducible rfl)
  (try simp only [Act.put, List.setIfInBounds_toArray, List.set_cons_zero, List.set_cons_succ])
  refine PlanT.take0 (v := ?vT5) (by kernel_rfl) ?yT5 ?rT5
  case yT5 => (intro wz hz; have kc1 := (hz.cell (p := ⟨fb, fo + 1, none⟩) HLT.out).trans HC1.out; have kc2 := (hz.cell (p := ⟨fb, fo + 4, none⟩) HLT.out).trans HC2.out; have hcA := rdB_convert (P := Try.prog) (RdB.front (HRA.out.below hz (Nat.le_refl _)) n HNL.out.1) 32 5 9 Try.underlying32 Try.underlying5 Try.underlying9; have hcB := rdB_convert (P := Try.prog) (RdB.front (HRB.out.below hz (Nat.le_refl _)) m HNL.out.2) 32 5 9 Try.underlying32 Try.underlying5 Try.underlying9; clear hz; go_simp; try with_reducible rfl)
  (try simp only [Act.put, List.setIfInBounds_toArray, List.set_cons_zero, List.set_cons_succ])
  refine PlanT.take0 (v := ?vT6) (by kernel_rfl) ?yT6 ?rT6
  case yT6 => (intro wz hz; have kc1 := (hz.cell (p := ⟨fb, fo + 1, none⟩) HLT.out).trans HC1.out; have kc2 := (hz.cell (p := ⟨fb, fo + 4, none⟩) HLT.out).trans HC2.out; have hcA := rdB_convert (P := Try.prog) (RdB.front (HRA.out.below hz (Nat.le_refl _)) n HNL.out.1) 32 5 9 Try.underlying32 Try.underlying5 Try.underlying9; have hcB := rdB_convert (P := Try.prog) (RdB.front (HRB.out.below hz (Nat.le_refl _)) m HNL.out.2) 32 5 9 Try.underlying32 Try.underlying5 Try.underlying9; clear hz; go_simp; try with_reducible rfl)
  (try simp only [Act.put, List.setIfInBounds_toArray, List.set_cons_zero, List.set_cons_succ])
  refine PlanT.take0 (v := ?vT7) (by kernel_rfl) ?yT7 ?rT7
  case yT7 => (intro wz hz; have kc1 := (hz.cell (p := ⟨fb, fo + 1, none⟩) HLT.out).trans HC1.out; have kc2 := (hz.cell (p := ⟨fb, fo + 4, none⟩) HLT.out).trans HC2.out; have hcA := rdB_convert (P := Try.prog) (RdB.front (HRA.out.below hz (Nat.le_refl _)) n HNL.out.1) 32 5 9 Try.underlying32 Try.underlying5 Try.underlying9; have hcB := rdB_convert (P := Try.prog) (RdB.front (HRB.out.below hz (Nat.le_refl _)) m HNL.out.2) 32 5 9 Try.underlying32 Try.underlying5 Try.underlying9; clear hz; go_simp; try with_reducible rfl)
  (try simp only [Act.put, List.setIfInBounds_toArray, List.set_cons_zero, List.set_cons_succ])
  refine PlanT.take0 (v := ?vT8) (by kernel_rfl) ?yT8 ?rT8
  case yT8 => (intro wz hz; have kc1 := (hz.cell (p := ⟨fb, fo + 1, none⟩) HLT.out).trans HC1.out; have kc2 := (hz.cell (p := ⟨fb, fo + 4, none⟩) HLT.out).trans HC2.out; have hcA := rdB_convert (P := Try.prog) (RdB.front (HRA.out.below hz (Nat.le_refl _)) n HNL.out.1) 32 5 9 Try.underlying32 Try.underlying5 Try.underlying9; have hcB := rdB_convert (P := Try.prog) (RdB.front (HRB.out.below hz (Nat.le_refl _)) m HNL.out.2) 32 5 9 Try.underlying32 Try.underlying5 Try.underlying9; clear hz; go_simp; try with_reducible rfl)
  (try simp only [Act.put, List.setIfInBounds_toArray, List.set_cons_zero, List.set_cons_succ])
  refine PlanT.take0 (v := ?vT9) (by kernel_rfl) ?yT9 ?rT9
  case yT9 => (intro wz hz; have kc1 := (hz.cell (p := ⟨fb, fo + 1, none⟩) HLT.out).trans HC1.out; have kc2 := (hz.cell (p := ⟨fb, fo + 4, none⟩) HLT.out).trans HC2.out; have hcA := rdB_convert (P := Try.prog) (RdB.front (HRA.out.below hz (Nat.le_refl _)) n HNL.out.1) 32 5 9 Try.underlying32 Try.underlying5 Try.underlying9; have hcB := rdB_convert (P := Try.prog) (RdB.front (HRB.out.below hz (Nat.le_refl _)) m HNL.out.2) 32 5 9 Try.underlying32 Try.underlying5 Try.underlying9; clear hz; go_simp; try with_reducible rfl)
  (try simp only [Act.put, List.setIfInBounds_toArray, List.set_cons_zero, List.set_cons_succ])
  refine PlanT.take0 (v := ?vT10) (by kernel_rfl) ?yT10 ?rT10
  case yT10 => (intro wz hz; have kc1 := (hz.cell (p := ⟨fb, fo + 1, none⟩) HLT.out).trans HC1.out; have kc2 := (hz.cell (p := ⟨fb, fo + 4, none⟩) HLT.out).trans HC2.out; have hcA := rdB_convert (P := Try.prog) (RdB.front (HRA.out.below hz (Nat.le_refl _)) n HNL.out.1) 32 5 9 Try.underlying32 Try.underlying5 Try.underlying9; have hcB := rdB_convert (P := Try.prog) (RdB.front (HRB.out.below hz (Nat.le_refl _)) m HNL.out.2) 32 5 9 Try.underlying32 Try.underlying5 Try.underlying9; clear hz; go_simp; try with_reducible rfl)
  (try simp only [Act.put, List.setIfInBounds_toArray, List.set_cons_zero, List.set_cons_succ])
  refine PlanT.take0 (v := ?vT11) (by kernel_rfl) ?yT11 ?rT11
  case yT11 => (intro wz hz; have kc1 := (hz.cell (p := ⟨fb, fo + 1, none⟩) HLT.out).trans HC1.out; have kc2 := (hz.cell (p := ⟨fb, fo + 4, none⟩) HLT.out).trans HC2.out; have hcA := rdB_convert (P := Try.prog) (RdB.front (HRA.out.below hz (Nat.le_refl _)) n HNL.out.1) 32 5 9 Try.underlying32 Try.underlying5 Try.underlying9; have hcB := rdB_convert (P := Try.prog) (RdB.front (HRB.out.below hz (Nat.le_refl _)) m HNL.out.2) 32 5 9 Try.underlying32 Try.underlying5 Try.underlying9; clear hz; go_simp; try with_reducible rfl)
  (try simp only [Act.put, List.setIfInBounds_toArray, List.set_cons_zero, List.set_cons_succ])
  refine PlanT.take0 (v := ?vT12) (by kernel_rfl) ?yT12 ?rT12
  case yT12 => (intro wz hz; have kc1 := (hz.cell (p := ⟨fb, fo + 1, none⟩) HLT.out).trans HC1.out; have kc2 := (hz.cell (p := ⟨fb, fo + 4, none⟩) HLT.out).trans HC2.out; have hcA := rdB_convert (P := Try.prog) (RdB.front (HRA.out.below hz (Nat.le_refl _)) n HNL.out.1) 32 5 9 Try.underlying32 Try.underlying5 Try.underlying9; have hcB := rdB_convert (P := Try.prog) (RdB.front (HRB.out.below hz (Nat.le_refl _)) m HNL.out.2) 32 5 9 Try.underlying32 Try.underlying5 Try.underlying9; clear hz; go_simp; try with_reducible rfl)
  (try simp only [Act.put, List.setIfInBounds_toArray, List.set_cons_zero, List.set_cons_succ])
  refine PlanT.take0 (v := ?vT13) (by kernel_rfl) ?yT13 ?rT13
  case yT13 => (intro wz hz; have kc1 := (hz.cell (p := ⟨fb, fo + 1, none⟩) HLT.out).trans HC1.out; have kc2 := (hz.cell (p := ⟨fb, fo + 4, none⟩) HLT.out).trans HC2.out; have hcA := rdB_convert (P := Try.prog) (RdB.front (HRA.out.below hz (Nat.le_refl _)) n HNL.out.1) 32 5 9 Try.underlying32 Try.underlying5 Try.underlying9; have hcB := rdB_convert (P := Try.prog) (RdB.front (HRB.out.below hz (Nat.le_refl _)) m HNL.out.2) 32 5 9 Try.underlying32 Try.underlying5 Try.underlying9; clear hz; go_simp; try with_reducible rfl)
  (try simp only [Act.put, List.setIfInBounds_toArray, List.set_cons_zero, List.set_cons_succ])
  refine PlanT.take0 (v := ?vT14) (by kernel_rfl) ?yT14 ?rT14
  case yT14 => (intro wz hz; have kc1 := (hz.cell (p := ⟨fb, fo + 1, none⟩) HLT.out).trans HC1.out; have kc2 := (hz.cell (p := ⟨fb, fo + 4, none⟩) HLT.out).trans HC2.out; have hcA := rdB_convert (P := Try.prog) (RdB.front (HRA.out.below hz (Nat.le_refl _)) n HNL.out.1) 32 5 9 Try.underlying32 Try.underlying5 Try.underlying9; have hcB := rdB_convert (P := Try.prog) (RdB.front (HRB.out.below hz (Nat.le_refl _)) m HNL.out.2) 32 5 9 Try.underlying32 Try.underlying5 Try.underlying9; clear hz; go_simp; try with_reducible rfl)
  (try simp only [Act.put, List.setIfInBounds_toArray, List.set_cons_zero, List.set_cons_succ])
  refine PlanT.take0 (v := ?vT15) (by kernel_rfl) ?yT15 ?rT15
  case yT15 => (intro wz hz; have kc1 := (hz.cell (p := ⟨fb, fo + 1, none⟩) HLT.out).trans HC1.out; have kc2 := (hz.cell (p := ⟨fb, fo + 4, none⟩) HLT.out).trans HC2.out; have hcA := rdB_convert (P := Try.prog) (RdB.front (HRA.out.below hz (Nat.le_refl _)) n HNL.out.1) 32 5 9 Try.underlying32 Try.underlying5 Try.underlying9; have hcB := rdB_convert (P := Try.prog) (RdB.front (HRB.out.below hz (Nat.le_refl _)) m HNL.out.2) 32 5 9 Try.underlying32 Try.underlying5 Try.underlying9; clear hz; go_simp; try with_reducible rfl)
  (try simp only [Act.put, List.setIfInBounds_toArray, List.set_cons_zero, List.set_cons_succ])
  refine PlanT.take0 (v := ?vT16) (by kernel_rfl) ?yT16 ?rT16
  case yT16 => (intro wz hz; have kc1 := (hz.cell (p := ⟨fb, fo + 1, none⟩) HLT.out).trans HC1.out; have kc2 := (hz.cell (p := ⟨fb, fo + 4, none⟩) HLT.out).trans HC2.out; have hcA := rdB_convert (P := Try.prog) (RdB.front (HRA.out.below hz (Nat.le_refl _)) n HNL.out.1) 32 5 9 Try.underlying32 Try.underlying5 Try.underlying9; have hcB := rdB_convert (P := Try.prog) (RdB.front (HRB.out.below hz (Nat.le_refl _)) m HNL.out.2) 32 5 9 Try.underlying32 Try.underlying5 Try.underlying9; clear hz; go_simp; try with_reducible rfl)
  (try simp only [Act.put, List.setIfInBounds_toArray, List.set_cons_zero, List.set_cons_succ])
  refine PlanT.take0 (v := ?vT17) (by kernel_rfl) ?yT17 ?rT17
  case yT17 => (intro wz hz; have kc1 := (hz.cell (p := ⟨fb, fo + 1, none⟩) HLT.out).trans HC1.out; have kc2 := (hz.cell (p := ⟨fb, fo + 4, none⟩) HLT.out).trans HC2.out; have hcA := rdB_convert (P := Try.prog) (RdB.front (HRA.out.below hz (Nat.le_refl _)) n HNL.out.1) 32 5 9 Try.underlying32 Try.underlying5 Try.underlying9; have hcB := rdB_convert (P := Try.prog) (RdB.front (HRB.out.below hz (Nat.le_refl _)) m HNL.out.2) 32 5 9 Try.underlying32 Try.underlying5 Try.underlying9; clear hz; go_simp; try with_reducible rfl)
  (try simp only [Act.put, List.setIfInBounds_toArray, List.set_cons_zero, List.set_cons_succ])
  refine PlanT.take0 (v := ?vT18) (by kernel_rfl) ?yT18 ?rT18
  case yT18 => (intro wz hz; have kc1 := (hz.cell (p := ⟨fb, fo + 1, none⟩) HLT.out).trans HC1.out; have kc2 := (hz.cell (p := ⟨fb, fo + 4, none⟩) HLT.out).trans HC2.out; have hcA := rdB_convert (P := Try.prog) (RdB.front (HRA.out.below hz (Nat.le_refl _)) n HNL.out.1) 32 5 9 Try.underlying32 Try.underlying5 Try.underlying9; have hcB := rdB_convert (P := Try.prog) (RdB.front (HRB.out.below hz (Nat.le_refl _)) m HNL.out.2) 32 5 9 Try.underlying32 Try.underlying5 Try.underlying9; clear hz; go_simp; try with_reducible rfl)
  (try simp only [Act.put, List.setIfInBounds_toArray, List.set_cons_zero, List.set_cons_succ])
  refine PlanT.take0 (v := ?vT19) (by kernel_rfl) ?yT19 ?rT19
  case yT19 => (intro wz hz; have kc1 := (hz.cell (p := ⟨fb, fo + 1, none⟩) HLT.out).trans HC1.out; have kc2 := (hz.cell (p := ⟨fb, fo + 4, none⟩) HLT.out).trans HC2.out; have hcA := rdB_convert (P := Try.prog) (RdB.front (HRA.out.below hz (Nat.le_refl _)) n HNL.out.1) 32 5 9 Try.underlying32 Try.underlying5 Try.underlying9; have hcB := rdB_convert (P := Try.prog) (RdB.front (HRB.out.below hz (Nat.le_refl _)) m HNL.out.2) 32 5 9 Try.underlying32 Try.underlying5 Try.underlying9; clear hz; go_simp; try with_reducible rfl)
  (try simp only [Act.put, List.setIfInBounds_toArray, List.set_cons_zero, List.set_cons_succ])
  refine PlanT.take0 (v := ?vT20) (by kernel_rfl) ?yT20 ?rT20
  case yT20 => (intro wz hz; have kc1 := (hz.cell (p := ⟨fb, fo + 1, none⟩) HLT.out).trans HC1.out; have kc2 := (hz.cell (p := ⟨fb, fo + 4, none⟩) HLT.out).trans HC2.out; have hcA := rdB_convert (P := Try.prog) (RdB.front (HRA.out.below hz (Nat.le_refl _)) n HNL.out.1) 32 5 9 Try.underlying32 Try.underlying5 Try.underlying9; have hcB := rdB_convert (P := Try.prog) (RdB.front (HRB.out.below hz (Nat.le_refl _)) m HNL.out.2) 32 5 9 Try.underlying32 Try.underlying5 Try.underlying9; clear hz; go_simp; try with_reducible rfl)
  (try simp only [Act.put, List.setIfInBounds_toArray, List.set_cons_zero, List.set_cons_succ])
  refine PlanT.take0 (v := ?vT21) (by kernel_rfl) ?yT21 ?rT21
  case yT21 => (intro wz hz; have kc1 := (hz.cell (p := ⟨fb, fo + 1, none⟩) HLT.out).trans HC1.out; have kc2 := (hz.cell (p := ⟨fb, fo + 4, none⟩) HLT.out).trans HC2.out; have hcA := rdB_convert (P := Try.prog) (RdB.front (HRA.out.below hz (Nat.le_refl _)) n HNL.out.1) 32 5 9 Try.underlying32 Try.underlying5 Try.underlying9; have hcB := rdB_convert (P := Try.prog) (RdB.front (HRB.out.below hz (Nat.le_refl _)) m HNL.out.2) 32 5 9 Try.underlying32 Try.underlying5 Try.underlying9; clear hz; go_simp; try with_reducible rfl)
  (try simp only [Act.put, List.setIfInBounds_toArray, List.set_cons_zero, List.set_cons_succ])
  refine PlanT.take0 (v := ?vT22) (by kernel_rfl) ?yT22 ?rT22
  case yT22 => (intro wz hz; have kc1 := (hz.cell (p := ⟨fb, fo + 1, none⟩) HLT.out).trans HC1.out; have kc2 := (hz.cell (p := ⟨fb, fo + 4, none⟩) HLT.out).trans HC2.out; have hcA := rdB_convert (P := Try.prog) (RdB.front (HRA.out.below hz (Nat.le_refl _)) n HNL.out.1) 32 5 9 Try.underlying32 Try.underlying5 Try.underlying9; have hcB := rdB_convert (P := Try.prog) (RdB.front (HRB.out.below hz (Nat.le_refl _)) m HNL.out.2) 32 5 9 Try.underlying32 Try.underlying5 Try.underlying9; clear hz; go_simp; try with_reducible rfl)
  (try simp only [Act.put, List.setIfInBounds_toArray, List.set_cons_zero, List.set_cons_succ])
  refine PlanT.take0 (v := ?vT23) (by kernel_rfl) ?yT23 ?rT23
  case yT23 => (intro wz hz; have kc1 := (hz.cell (p := ⟨fb, fo + 1, none⟩) HLT.out).trans HC1.out; have kc2 := (hz.cell (p := ⟨fb, fo + 4, none⟩) HLT.out).trans HC2.out; have hcA := rdB_convert (P := Try.prog) (RdB.front (HRA.out.below hz (Nat.le_refl _)) n HNL.out.1) 32 5 9 Try.underlying32 Try.underlying5 Try.underlying9; have hcB := rdB_convert (P := Try.prog) (RdB.front (HRB.out.below hz (Nat.le_refl _)) m HNL.out.2) 32 5 9 Try.underlying32 Try.underlying5 Try.underlying9; clear hz; go_simp; try with_reducible rfl)
  (try simp only [Act.put, List.setIfInBounds_toArray, List.set_cons_zero, List.set_cons_succ])
  refine PlanT.take0 (v := ?vT24) (by kernel_rfl) ?yT24 ?rT24
  case yT24 => (intro wz hz; have kc1 := (hz.cell (p := ⟨fb, fo + 1, none⟩) HLT.out).trans HC1.out; have kc2 := (hz.cell (p := ⟨fb, fo + 4, none⟩) HLT.out).trans HC2.out; have hcA := rdB_convert (P := Try.prog) (RdB.front (HRA.out.below hz (Nat.le_refl _)) n HNL.out.1) 32 5 9 Try.underlying32 Try.underlying5 Try.underlying9; have hcB := rdB_convert (P := Try.prog) (RdB.front (HRB.out.below hz (Nat.le_refl _)) m HNL.out.2) 32 5 9 Try.underlying32 Try.underlying5 Try.underlying9; clear hz; go_simp; try with_reducible rfl)
  (try simp only [Act.put, List.setIfInBounds_toArray, List.set_cons_zero, List.set_cons_succ])
  refine PlanT.take0 (v := ?vT25) (by kernel_rfl) ?yT25 ?rT25
  case yT25 => (intro wz hz; have kc1 := (hz.cell (p := ⟨fb, fo + 1, none⟩) HLT.out).trans HC1.out; have kc2 := (hz.cell (p := ⟨fb, fo + 4, none⟩) HLT.out).trans HC2.out; have hcA := rdB_convert (P := Try.prog) (RdB.front (HRA.out.below hz (Nat.le_refl _)) n HNL.out.1) 32 5 9 Try.underlying32 Try.underlying5 Try.underlying9; have hcB := rdB_convert (P := Try.prog) (RdB.front (HRB.out.below hz (Nat.le_refl _)) m HNL.out.2) 32 5 9 Try.underlying32 Try.underlying5 Try.underlying9; clear hz; go_simp; try with_reducible rfl)
  (try simp only [Act.put, List.setIfInBounds_toArray, List.set_cons_zero, List.set_cons_succ])
  refine PlanT.take0 (v := ?vT26) (by kernel_rfl) ?yT26 ?rT26
  case yT26 => (intro wz hz; have kc1 := (hz.cell (p := ⟨fb, fo + 1, none⟩) HLT.out).trans HC1.out; have kc2 := (hz.cell (p := ⟨fb, fo + 4, none⟩) HLT.out).trans HC2.out; have hcA := rdB_convert (P := Try.prog) (RdB.front (HRA.out.below hz (Nat.le_refl _)) n HNL.out.1) 32 5 9 Try.underlying32 Try.underlying5 Try.underlying9; have hcB := rdB_convert (P := Try.prog) (RdB.front (HRB.out.below hz (Nat.le_refl _)) m HNL.out.2) 32 5 9 Try.underlying32 Try.underlying5 Try.underlying9; clear hz; go_simp; try with_reducible rfl)
  (try simp only [Act.put, List.setIfInBounds_toArray, List.set_cons_zero, List.set_cons_succ])
  refine PlanT.take0 (v := ?vT27) (by kernel_rfl) ?yT27 ?rT27
  case yT27 => (intro wz hz; have kc1 := (hz.cell (p := ⟨fb, fo + 1, none⟩) HLT.out).trans HC1.out; have kc2 := (hz.cell (p := ⟨fb, fo + 4, none⟩) HLT.out).trans HC2.out; have hcA := rdB_convert (P := Try.prog) (RdB.front (HRA.out.below hz (Nat.le_refl _)) n HNL.out.1) 32 5 9 Try.underlying32 Try.underlying5 Try.underlying9; have hcB := rdB_convert (P := Try.prog) (RdB.front (HRB.out.below hz (Nat.le_refl _)) m HNL.out.2) 32 5 9 Try.underlying32 Try.underlying5 Try.underlying9; clear hz; go_simp; try with_reducible rfl)
  (try simp only [Act.put, List.setIfInBounds_toArray, List.set_cons_zero, List.set_cons_succ])
  refine PlanT.take0 (v := ?vT28) (by kernel_rfl) ?yT28 ?rT28
  case yT28 => (intro wz hz; have kc1 := (hz.cell (p := ⟨fb, fo + 1, none⟩) HLT.out).trans HC1.out; have kc2 := (hz.cell (p := ⟨fb, fo + 4, none⟩) HLT.out).trans HC2.out; have hcA := rdB_convert (P := Try.prog) (RdB.front (HRA.out.below hz (Nat.le_refl _)) n HNL.out.1) 32 5 9 Try.underlying32 Try.underlying5 Try.underlying9; have hcB := rdB_convert (P := Try.prog) (RdB.front (HRB.out.below hz (Nat.le_refl _)) m HNL.out.2) 32 5 9 Try.underlying32 Try.underlying5 Try.underlying9; clear hz; go_simp; try with_reducible rfl)
  (try simp only [Act.put, List.setIfInBounds_toArray, List.set_cons_zero, List.set_cons_succ])
  refine PlanT.take0 (v := ?vT29) (by kernel_rfl) ?yT29 ?rT29
  case yT29 => (intro wz hz; have kc1 := (hz.cell (p := ⟨fb, fo + 1, none⟩) HLT.out).trans HC1.out; have kc2 := (hz.cell (p := ⟨fb, fo + 4, none⟩) HLT.out).trans HC2.out; have hcA := rdB_convert (P := Try.prog) (RdB.front (HRA.out.below hz (Nat.le_refl _)) n HNL.out.1) 32 5 9 Try.underlying32 Try.underlying5 Try.underlying9; have hcB := rdB_convert (P := Try.prog) (RdB.front (HRB.out.below hz (Nat.le_refl _)) m HNL.out.2) 32 5 9 Try.underlying32 Try.underlying5 Try.underlying9; clear hz; go_simp; try with_reducible rfl)
  (try simp only [Act.put, List.setIfInBounds_toArray, List.set_cons_zero, List.set_cons_succ])
  refine PlanT.take0 (v := ?vT30) (by kernel_rfl) ?yT30 ?rT30
  case yT30 => (intro wz hz; have kc1 := (hz.cell (p := ⟨fb, fo + 1, none⟩) HLT.out).trans HC1.out; have kc2 := (hz.cell (p := ⟨fb, fo + 4, none⟩) HLT.out).trans HC2.out; have hcA := rdB_convert (P := Try.prog) (RdB.front (HRA.out.below hz (Nat.le_refl _)) n HNL.out.1) 32 5 9 Try.underlying32 Try.underlying5 Try.underlying9; have hcB := rdB_convert (P := Try.prog) (RdB.front (HRB.out.below hz (Nat.le_refl _)) m HNL.out.2) 32 5 9 Try.underlying32 Try.underlying5 Try.underlying9; clear hz; go_simp; try with_reducible rfl)
  (try simp only [Act.put, List.setIfInBounds_toArray, List.set_cons_zero, List.set_cons_succ])
  refine PlanT.take0 (v := ?vT31) (by kernel_rfl) ?yT31 ?rT31
  case yT31 => (intro wz hz; have kc1 := (hz.cell (p := ⟨fb, fo + 1, none⟩) HLT.out).trans HC1.out; have kc2 := (hz.cell (p := ⟨fb, fo + 4, none⟩) HLT.out).trans HC2.out; have hcA := rdB_convert (P := Try.prog) (RdB.front (HRA.out.below hz (Nat.le_refl _)) n HNL.out.1) 32 5 9 Try.underlying32 Try.underlying5 Try.underlying9; have hcB := rdB_convert (P := Try.prog) (RdB.front (HRB.out.below hz (Nat.le_refl _)) m HNL.out.2) 32 5 9 Try.underlying32 Try.underlying5 Try.underlying9; clear hz; go_simp; try with_reducible rfl)
  (try simp only [Act.put, List.setIfInBounds_toArray, List.set_cons_zero, List.set_cons_succ])
  refine PlanT.take0 (v := ?vT32) (by kernel_rfl) ?yT32 ?rT32
  case yT32 => (intro wz hz; have kc1 := (hz.cell (p := ⟨fb, fo + 1, none⟩) HLT.out).trans HC1.out; have kc2 := (hz.cell (p := ⟨fb, fo + 4, none⟩) HLT.out).trans HC2.out; have hcA := rdB_convert (P := Try.prog) (RdB.front (HRA.out.below hz (Nat.le_refl _)) n HNL.out.1) 32 5 9 Try.underlying32 Try.underlying5 Try.underlying9; have hcB := rdB_convert (P := Try.prog) (RdB.front (HRB.out.below hz (Nat.le_refl _)) m HNL.out.2) 32 5 9 Try.underlying32 Try.underlying5 Try.underlying9; clear hz; go_simp; try with_reducible rfl)
  (try simp only [Act.put, List.setIfInBounds_toArray, List.set_cons_zero, List.set_cons_succ])
  refine PlanT.take0 (v := ?vT33) (by kernel_rfl) ?yT33 ?rT33
  case yT33 => (intro wz hz; have kc1 := (hz.cell (p := ⟨fb, fo + 1, none⟩) HLT.out).trans HC1.out; have kc2 := (hz.cell (p := ⟨fb, fo + 4, none⟩) HLT.out).trans HC2.out; have hcA := rdB_convert (P := Try.prog) (RdB.front (HRA.out.below hz (Nat.le_refl _)) n HNL.out.1) 32 5 9 Try.underlying32 Try.underlying5 Try.underlying9; have hcB := rdB_convert (P := Try.prog) (RdB.front (HRB.out.below hz (Nat.le_refl _)) m HNL.out.2) 32 5 9 Try.underlying32 Try.underlying5 Try.underlying9; clear hz; go_simp; try with_reducible rfl)
  (try simp only [Act.put, List.setIfInBounds_toArray, List.set_cons_zero, List.set_cons_succ])
  refine PlanT.take0 (v := ?vT34) (by kernel_rfl) ?yT34 ?rT34
  case yT34 => (intro wz hz; have kc1 := (hz.cell (p := ⟨fb, fo + 1, none⟩) HLT.out).trans HC1.out; have kc2 := (hz.cell (p := ⟨fb, fo + 4, none⟩) HLT.out).trans HC2.out; have hcA := rdB_convert (P := Try.prog) (RdB.front (HRA.out.below hz (Nat.le_refl _)) n HNL.out.1) 32 5 9 Try.underlying32 Try.underlying5 Try.underlying9; have hcB := rdB_convert (P := Try.prog) (RdB.front (HRB.out.below hz (Nat.le_refl _)) m HNL.out.2) 32 5 9 Try.underlying32 Try.underlying5 Try.underlying9; clear hz; go_simp; try with_reducible rfl)
  (try simp only [Act.put, List.setIfInBounds_toArray, List.set_cons_zero, List.set_cons_succ])
  refine PlanT.take0 (v := ?vT35) (by kernel_rfl) ?yT35 ?rT35
  case yT35 => (intro wz hz; have kc1 := (hz.cell (p := ⟨fb, fo + 1, none⟩) HLT.out).trans HC1.out; have kc2 := (hz.cell (p := ⟨fb, fo + 4, none⟩) HLT.out).trans HC2.out; have hcA := rdB_convert (P := Try.prog) (RdB.front (HRA.out.below hz (Nat.le_refl _)) n HNL.out.1) 32 5 9 Try.underlying32 Try.underlying5 Try.underlying9; have hcB := rdB_convert (P := Try.prog) (RdB.front (HRB.out.below hz (Nat.le_refl _)) m HNL.out.2) 32 5 9 Try.underlying32 Try.underlying5 Try.underlying9; clear hz; go_simp; try with_reducible rfl)
  (try simp only [Act.put, List.setIfInBounds_toArray, List.set_cons_zero, List.set_cons_succ])
  refine PlanT.exec2 (fun K hK => ⟨by kernel_rfl, ?_⟩)
  go_simp
  refine (awake4_any w8).mono ?_
  rintro e w15 ⟨rfl, B15⟩
  refine hK.out _ _ B15 B15 ?_
  clear hK K
  (try simp only [Act.put, List.setIfInBounds_toArray, List.set_cons_zero, List.set_cons_succ])
  refine PlanT.take0 (v := ?vT37) (by kernel_rfl) ?yT37 ?rT37
  case yT37 => (intro wz hz; have kc1 := (hz.cell (p := ⟨fb, fo + 1, none⟩) HLT.out).trans HC1.out; have kc2 := (hz.cell (p := ⟨fb, fo + 4, none⟩) HLT.out).trans HC2.out; have hcA := rdB_convert (P := Try.prog) (RdB.front (HRA.out.below hz (Nat.le_refl _)) n HNL.out.1) 32 5 9 Try.underlying32 Try.underlying5 Try.underlying9; have hcB := rdB_convert (P := Try.prog) (RdB.front (HRB.out.below hz (Nat.le_refl _)) m HNL.out.2) 32 5 9 Try.underlying32 Try.underlying5 Try.underlying9; clear hz; go_simp; try with_reducible rfl)
  (try simp only [Act.put, List.setIfInBounds_toArray, List.set_cons_zero, List.set_cons_succ])
  refine PlanT.take0 (v := ?vT38) (by kernel_rfl) ?yT38 ?rT38
  case yT38 => (intro wz hz; have kc1 := (hz.cell (p := ⟨fb, fo + 1, none⟩) HLT.out).trans HC1.out; have kc2 := (hz.cell (p := ⟨fb, fo + 4, none⟩) HLT.out).trans HC2.out; have hcA := rdB_convert (P := Try.prog) (RdB.front (HRA.out.below hz (Nat.le_refl _)) n HNL.out.1) 32 5 9 Try.underlying32 Try.underlying5 Try.underlying9; have hcB := rdB_convert (P := Try.prog) (RdB.front (HRB.out.below hz (Nat.le_refl _)) m HNL.out.2) 32 5 9 Try.underlying32 Try.underlying5 Try.underlying9; clear hz; go_simp; try with_reducible rfl)
  (try simp only [Act.put, List.setIfInBounds_toArray, List.set_cons_zero, List.set_cons_succ])
  refine PlanT.done (NoPanic.normal ?_)
  go_wp2
  go_ret
  exact ⟨rfl, HBW.out.trans (Kept.below (Kept.of B15 (R := fun k => k < w8.heap.size) fun _ h => h) fun k hk => Nat.lt_of_lt_of_le hk HBW.out.size)⟩

set_option maxRecDepth 100000 in
set_option maxHeartbeats 8000000 in
set_option linter.unusedSimpArgs false in
theorem diskTwo_walk (v0 : Value) (l0 : List UInt8) (v1 : Value) (l1 : List UInt8) (x y : Int) (W : World) (h0 : RdB W v0 l0) (h1 : RdB W v1 l1) (hx : (Lit.int .i64 x).wf = true) (hy : (Lit.int .i64 y).wf = true) :
    Calls Try.prog 12 #[v0, v1, .int .i64 x, .int .i64 y] W fun e w' => e = .returned (.bool true) ∧ Below W.heap.size W w' := by
  have k0 := h0
  have k1 := h1
  obtain ⟨a0, c0, rfl, _, _⟩ := RdB.form h0
  obtain ⟨a1, c1, rfl, _, _⟩ := RdB.form h1
  obtain ⟨X, hX⟩ := Int.eq_ofNat_of_zero_le (show 0 ≤ max 0 x by omega)
  obtain ⟨Y, hY⟩ := Int.eq_ofNat_of_zero_le (show 0 ≤ max 0 y by omega)
  by_cases q0 : l0.length ≤ 200
  · by_cases q1 : l1.length ≤ 200
    · exact two_main a0 a1 c0 c1 l0 l1 x y W k0 k1 q0 q1 hx hy X Y _ _ hX hY rfl rfl
    · clear h0 h1 k0 k1 hX hY
      go_enter Try.func12, Try.ntmps12
      go_wp2_with (go_at_call 14; (with_reducible refine (awake4_any _).mono ?_); rintro e w15 ⟨rfl, B15⟩)
      go_ret
      exact ⟨rfl, B15⟩
  · clear h0 h1 k0 k1 hX hY
    go_enter Try.func12, Try.ntmps12
    go_wp2_with (go_at_call 14; (with_reducible refine (awake4_any _).mono ?_); rintro e w15 ⟨rfl, B15⟩)
    go_ret
    exact ⟨rfl, B15⟩
end Go.Proofs.Ytaljebhiacglpaa
