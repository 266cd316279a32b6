/-
  The walk of the statement DiskSafe.
-/
import Derived.Test.YtaljebhiacglpaaDiskMoved
import Derived.Lib.TrimByte
namespace Go.Proofs.Ytaljebhiacglpaa
open Go.RowKit

theorem strB_app (a b : List UInt8) : strB a ++ strB b = strB (a ++ b) := by
  apply ByteArray.ext
  simp

theorem safe_fallen (la lb lm : List UInt8) (k : Int) : (((fsafe la).wrote la.length lb).wrote (la.length + lb.length) lm).fallen k = fsafe (la ++ (lb ++ lm).take (rest k (lb.length + lm.length))) := by
  have hm : manyL (((fsafe la).wrote la.length lb).wrote (la.length + lb.length) lm).loose = lb.length + lm.length := by simp [PF.wrote, fsafe, manyL]
  have hk : kept (((fsafe la).wrote la.length lb).wrote (la.length + lb.length) lm).loose (rest k (lb.length + lm.length)) (((fsafe la).wrote la.length lb).wrote (la.length + lb.length) lm).safe = la ++ (lb ++ lm).take (rest k (lb.length + lm.length)) := by
    show kept [(la.length, lb), (la.length + lb.length, lm)] (rest k (lb.length + lm.length)) la = _
    generalize rest k (lb.length + lm.length) = r
    by_cases h : r = 0
    · rw [h, kept_zero, List.take_zero, List.append_nil]
    · rw [kept_cons _ _ _ _ h]
      dsimp only
      rw [wr_end]
      by_cases h2 : r ≤ lb.length
      · rw [show r - lb.length = 0 by omega, kept_zero, List.take_append_of_le_length h2]
      · rw [kept_cons _ _ _ _ (by omega), List.take_of_length_le (by omega : lb.length ≤ r)]
        dsimp only
        rw [show la.length + lb.length = (la ++ lb).length by rw [List.length_append], wr_end, List.take_append, List.take_of_length_le (by omega : lb.length ≤ r)]
        show la ++ lb ++ lm.take (r - lb.length) = _
        rw [List.append_assoc]
  unfold PF.fallen
  rw [hm, hk]
  rfl

set_option maxRecDepth 100000 in
set_option maxHeartbeats 8000000 in
set_option linter.unusedSimpArgs false in
theorem safe_0 (va vb vm : Option Addr) (ca cb cm : Nat) (la lb lm : List UInt8) (keep names : Int) (W : World) (h1 : RdB W (.slice va la.length ca) la) (h2 : RdB W (.slice vb lb.length cb) lb) (h3 : RdB W (.slice vm lm.length cm) lm) (l1 : la.length ≤ 500) (l2 : lb.length ≤ 500) (l3 : lm.length ≤ 500) (hk : (Lit.int .i64 keep).wf = true) (hwf : (Lit.int .i64 names).wf = true) (K M n : Nat) (hK : max 0 keep = (K : Int)) (hM : max 0 names = (M : Int)) (hn : K % (lb.length + lm.length + 1) = n) (hr : M % 2 = 0) :
    Calls Try.prog 4 #[.slice va la.length ca, .slice vb lb.length cb, .int .i64 keep, .int .i64 names, .slice vm lm.length cm] W fun e w' => e = .returned (.bool true) ∧ Below W.heap.size W w' := by
  have hrr : rest names 1 = 0 := by unfold rest; rw [show (max 0 names).toNat = M by omega]; exact hr
  have hrk : rest keep (lb.length + lm.length) = n := by unfold rest; rw [show (max 0 keep).toNat = K by omega]; exact hn
  have hnl : n ≤ lb.length + lm.length := by have := Nat.mod_lt K (show 0 < lb.length + lm.length + 1 by omega); omega
  have hff : (((fsafe la).wrote la.length lb).wrote (la.length + lb.length) lm).fallen keep = fsafe (la ++ (lb ++ lm).take n) := by rw [safe_fallen, hrk]
  have hl5 : ((fsafe la).wrote la.length lb).now.length = la.length + lb.length := by show (wr la la.length lb).length = _; rw [wr_end, List.length_append]
  have hl6 : (((fsafe la).wrote la.length lb).wrote (la.length + lb.length) lm).now.length = la.length + lb.length + lm.length := by show (wr (wr la la.length lb) (la.length + lb.length) lm).length = _; rw [wr_length _ _ _ (by rw [wr_end, List.length_append]; omega), wr_end, List.length_append]; omega
  have hf5 : FOk ((fsafe la).wrote la.length lb) := fok_of (by simp [PF.wrote, fsafe, manyL]; omega) (by rw [hl5]; omega) (by simp [PF.wrote, fsafe]) ⟨Nat.le_refl _, trivial⟩
  have hf6 : FOk (((fsafe la).wrote la.length lb).wrote (la.length + lb.length) lm) := fok_of (by simp [PF.wrote, fsafe, manyL]; omega) (by rw [hl6]; omega) (by simp [PF.wrote, fsafe]) ⟨Nat.le_refl _, by show la.length + lb.length ≤ (wr la la.length lb).length; rw [wr_end, List.length_append]; omega, trivial⟩
  have hlR : (la ++ (lb ++ lm).take n).length = la.length + n := by rw [List.length_append, List.length_take, List.length_append]; omega
  have hf8 : FOk (fsafe (la ++ (lb ++ lm).take n)) := fok_fsafe _ (by rw [hlR]; omega)
  have HN := Lib.hid (on_new W W (Below.refl _ _) 5000 0 0 false (.slice none 0 0))
  have HA := Lib.hid (fun (w : World) (p : Nat) (h : On W w p (PD.new 5000 0 false)) => on_make h (f0_small _) (by decide) ⟨#[120]⟩ (by decide) 0 (dk 5000 1 [PF.new] [([120], 0)] [] [⟨0, [], [120], 0⟩]) (dk_make 5000 0 [] [] [] [] [120] (by kernel_rfl) rfl))
  have HB := Lib.hid (fun (w : World) (p : Nat) (h : On W w p (dk 5000 1 [PF.new] [([120], 0)] [] [⟨0, [], [120], 0⟩])) => on_write h (small_of (by kernel_rfl) (fmem1 fok_new)) (show 1 + 1 < 10000 by omega) ⟨#[120]⟩ (by decide) 0 _ la h1 (by omega) 0 (dk 5000 2 [fw la] [([120], 0)] [] [⟨0, [], [120], 0⟩]) (dk_write 5000 1 _ _ _ _ [120] 0 0 0 la (by kernel_rfl) (by kernel_rfl) (Nat.zero_le _) (by omega) (by omega)))
  have HC := Lib.hid (fun (w : World) (p : Nat) (h : On W w p (dk 5000 2 [fw la] [([120], 0)] [] [⟨0, [], [120], 0⟩])) => on_safe h (small_of (by kernel_rfl) (fmem1 (fok_fw2 la (by omega)))) (show 2 + 1 < 10000 by omega) ⟨#[120]⟩ (by decide) 0 (dk 5000 3 [fsafe la] [([120], 0)] [] [⟨0, [], [120], 0⟩]) (by rw [← safed_fw la]; exact dk_safe 5000 2 _ _ _ _ [120] 0 (by kernel_rfl)))
  have HD := Lib.hid (fun (w : World) (p : Nat) (h : On W w p (dk 5000 3 [fsafe la] [([120], 0)] [] [⟨0, [], [120], 0⟩])) => on_names h (small_of (by kernel_rfl) (fmem1 (fok_fsafe la (by omega)))) (show List.Nodup [0] by decide) (show 3 + 1 < 10000 by omega) 0 (dk 5000 4 [fsafe la] [([120], 0)] [([120], 0)] []) (dk_names 5000 3 _ _ _ _))
  have HE := Lib.hid (fun (w : World) (p : Nat) (h : On W w p (dk 5000 4 [fsafe la] [([120], 0)] [([120], 0)] [])) => on_write h (small_of (by kernel_rfl) (fmem1 (fok_fsafe la (by omega)))) (show 4 + 1 < 10000 by omega) ⟨#[120]⟩ (by decide) (la.length : Int) _ lb h2 (by omega) 0 (dk 5000 5 [(fsafe la).wrote la.length lb] [([120], 0)] [([120], 0)] []) (dk_write 5000 4 _ _ _ _ [120] 0 la.length la.length lb (by kernel_rfl) (by show la.length + 0 = la.length; omega) (Nat.le_refl _) (by omega) (by omega)))
  have HF := Lib.hid (fun (w : World) (p : Nat) (h : On W w p (dk 5000 5 [(fsafe la).wrote la.length lb] [([120], 0)] [([120], 0)] [])) => on_write h (small_of (by kernel_rfl) (fmem1 hf5)) (show 5 + 1 < 10000 by omega) ⟨#[120]⟩ (by decide) ((la.length : Int) + (lb.length : Int)) _ lm h3 (by omega) 0 (dk 5000 6 [((fsafe la).wrote la.length lb).wrote (la.length + lb.length) lm] [([120], 0)] [([120], 0)] []) (by have e := dk_write 5000 5 [(fsafe la).wrote la.length lb] [([120], 0)] [([120], 0)] [] [120] 0 (la.length + lb.length) (la.length + lb.length) lm (by kernel_rfl) (by show ((fsafe la).wrote la.length lb).now.length + 0 = _; rw [hl5]; omega) (by show _ ≤ ((fsafe la).wrote la.length lb).now.length; rw [hl5]; omega) (by omega) (by omega); rw [show ((la.length : Int) + (lb.length : Int)) = ((la.length + lb.length : Nat) : Int) by omega]; exact e))
  have HG := Lib.hid (fun (w : World) (p : Nat) (h : On W w p (dk 5000 6 [((fsafe la).wrote la.length lb).wrote (la.length + lb.length) lm] [([120], 0)] [([120], 0)] [])) => on_make h (small_of (by kernel_rfl) (fmem1 hf6)) (show 6 + 1 < 10000 by omega) ⟨#[121]⟩ (by decide) 0 (dk 5000 7 [((fsafe la).wrote la.length lb).wrote (la.length + lb.length) lm, PF.new] [([120], 0), ([121], 1)] [([120], 0)] [⟨0, [], [121], 1⟩]) (dk_make 5000 6 _ _ _ _ [121] (by kernel_rfl) (by kernel_rfl)))
  have HI := Lib.hid (fun (w : World) (p : Nat) (h : On W w p (dk 5000 7 [((fsafe la).wrote la.length lb).wrote (la.length + lb.length) lm, PF.new] [([120], 0), ([121], 1)] [([120], 0)] [⟨0, [], [121], 1⟩])) => on_fallQ h.toR (w.alloc (.cells #[.int .i64 keep] 3)) ((Below.refl _ _).alloc (Nat.le_refl _) _) 5000 0 names false (.slice (some ⟨w.heap.size, 0, none⟩) 1 1) [keep] 0 hrr hwf (by simp; exact hk) (by simp)
    (.inr ⟨w.heap.size, 1, rfl, by simp, Nat.le_refl _, by simp, fun i v hv => by rw [blk_cell (heap_alloc_new w _)]; match i, hv with | 0, hv => simpa using hv | i + 1, hv => simp at hv⟩)
    (fun k hk => by have hk2 : k ≤ 1 := hk; have hk3 : k = 0 ∨ k = 1 := (by omega); rcases hk3 with rfl | rfl <;> exact small_of (by kernel_rfl) (fmem2 hf6 fok_new)) (show List.Nodup [0] by decide) (dk 5000 0 [fsafe (la ++ (lb ++ lm).take n)] [([120], 0)] [([120], 0)] []) (by rw [← hff]; rfl))
  have HJ := Lib.hid (fun (w : World) (p : Nat) (h : On W w p (dk 5000 0 [fsafe (la ++ (lb ++ lm).take n)] [([120], 0)] [([120], 0)] [])) => on_files h (small_of (by kernel_rfl) (fmem1 hf8)) [([120], (la ++ (lb ++ lm).take n), 0)] rfl)
  have HDN := Lib.hid (fun (w : World) (p : Nat) (h : On W w p (dk 5000 0 [fsafe (la ++ (lb ++ lm).take n)] [([120], 0)] [([120], 0)] [])) => (show Calls Try.prog 22 #[.pointer (some ⟨p, 0, none⟩)] w fun e w' => e = .returned (.bool false) ∧ w = w' from on_down h))
  have HCL := Lib.hid (fun (w : World) (p : Nat) (h : On W w p (dk 5000 0 [fsafe (la ++ (lb ++ lm).take n)] [([120], 0)] [([120], 0)] [])) => on_calls h 0 rfl)
  have g1 : ¬ (500 : Int) < (la.length : Int) := by omega
  have g2 : ¬ (500 : Int) < (lb.length : Int) := by omega
  have g3 : ¬ (500 : Int) < (lm.length : Int) := by omega
  have hn1 : (K : Int).tmod ((lb.length : Int) + (lm.length : Int) + 1) = (n : Int) := by rw [Int.tmod_eq_emod_of_nonneg (by omega), ← hn]; simp
  have hn2 : (K : Int) % ((lb.length : Int) + (lm.length : Int) + 1) = (n : Int) := by rw [← hn]; simp
  have hm1 : (M : Int).tmod 2 = 0 := by rw [Int.tmod_eq_emod_of_nonneg (by omega)]; omega
  have hm2 : (M : Int) % 2 = 0 := by omega
  have hzA : ¬ (lb.length : Int) + (lm.length : Int) + 1 = 0 := by omega
  have HALL := Lib.hid (show (strB la ++ strB lb ++ strB lm).extract 0 (la.length + n) = strB (la ++ (lb ++ lm).take n) by rw [strB_app la lb, strB_app (la ++ lb) lm, Lib.extract_mk, List.drop_zero, Nat.sub_zero, List.append_assoc, List.take_length_add_append])
  have HALN := Lib.hid (show (strB la ++ strB lb ++ strB lm).size = la.length + lb.length + lm.length by rw [strB_app la lb, strB_app (la ++ lb) lm, strB_size, List.length_append, List.length_append])
  have hwr : IntKind.i64.wrap ((la.length : Int) + (n : Int)) = (la.length : Int) + (n : Int) := IntWalk.i64_in _ (by omega)
  have hp1 : 0 ≤ (la.length : Int) + (n : Int) := by omega
  have hp2 : (la.length : Int) + (n : Int) ≤ (la.length : Int) + (lb.length : Int) + (lm.length : Int) := by omega
  have htn : ((la.length : Int) + (n : Int)).toNat = la.length + n := by omega
  have HR1 := Lib.hid h1
  have HR2 := Lib.hid h2
  have HR3 := Lib.hid h3
  have HNL := Lib.hid hnl
  clear h1 h2 h3 hrr hrk hff hl5 hl6 hf5 hf6 hf8 hlR hn hr
  go_enter Try.func4, Try.ntmps4
  go_wp2_with (first | (go_at_call 15; (with_reducible refine (HN.out).mono ?_); rintro e w0 ⟨p, rfl, h0⟩; have H0 := Lib.hid h0; clear h0) | (go_at_call 26; (with_reducible refine (HA.out _ _ H0.out).mono ?_); rintro e w1 ⟨rfl, h1⟩; have H1 := Lib.hid h1; clear h1) | (go_at_call 27; (with_reducible refine (HB.out _ _ H1.out).mono ?_); rintro e w2 ⟨rfl, h2⟩; have H2 := Lib.hid h2; clear h2) | (go_at_call 28; (with_reducible refine (HC.out _ _ H2.out).mono ?_); rintro e w3 ⟨rfl, h3⟩; have H3 := Lib.hid h3; clear h3) | (go_at_call 29; (with_reducible refine (HD.out _ _ H3.out).mono ?_); rintro e w4 ⟨rfl, h4⟩; have H4 := Lib.hid h4; clear h4) | (go_at_call 27; (with_reducible refine (HE.out _ _ H4.out).mono ?_); rintro e w5 ⟨rfl, h5⟩; have H5 := Lib.hid h5; clear h5) | (go_at_call 27; (with_reducible refine (HF.out _ _ H5.out).mono ?_); rintro e w6 ⟨rfl, h6⟩; have H6 := Lib.hid h6; clear h6) | (go_at_call 26; (with_reducible refine (HG.out _ _ H6.out).mono ?_); rintro e w7 ⟨rfl, h7⟩; have H7 := Lib.hid h7; clear h7) | (go_at_call 30; (with_reducible refine (HI.out _ _ H7.out).mono ?_); rintro e w8 ⟨rfl, h8⟩; have H8 := Lib.hid h8.on; clear h8) | (go_at_call 20; (with_reducible refine (HJ.out _ _ H8.out).mono ?_); rintro e w9a ⟨fa, fc, rfl, h9, hr9⟩; obtain ⟨fa', fc', hfe, hfc1, hfc2, _, hcell⟩ := hr9; have hcell2 := hcell.resolve_left (fun h => by simp at h); clear hcell; obtain ⟨fb, fo, hfa, hfbl, hcell⟩ := hcell2; cases hfe; subst hfa; have kn : w9a.cell? ⟨fb, fo, none⟩ = some (.string (strB [120])) := hcell 0 _ rfl; have kd : w9a.cell? ⟨fb, fo + 1, none⟩ = some (.string (strB (la ++ (lb ++ lm).take n))) := hcell 1 _ rfl; have kl : w9a.cell? ⟨fb, fo + 2, none⟩ = some (.int .i64 0) := hcell 2 _ rfl; have H9A := Lib.hid h9; have HFB := Lib.hid hfbl; have hcA := rdB_convert (P := Try.prog) (HR1.out.below h9.below (Nat.le_refl _)) 32 5 9 Try.underlying32 Try.underlying5 Try.underlying9; have hcB := rdB_convert (P := Try.prog) (HR2.out.below h9.below (Nat.le_refl _)) 32 5 9 Try.underlying32 Try.underlying5 Try.underlying9; have hcC := rdB_convert (P := Try.prog) (HR3.out.below h9.below (Nat.le_refl _)) 32 5 9 Try.underlying32 Try.underlying5 Try.underlying9; clear h9 hcell hfbl) | (go_at_call 31; (with_reducible refine (num1_any _ _).mono ?_); rintro e w14 ⟨rfl, rfl⟩))
  obtain ⟨w9, hw9⟩ : ∃ w9, w9 = w9a.drew := ⟨_, rfl⟩
  have HB9 := Lib.hid (show Below w9a.heap.size w9a w9 by rw [hw9]; exact (Below.refl _ _).drew)
  have Hw9 := Lib.hid hw9
  clear hw9
  have HLT := Lib.hid (show fb < w9.heap.size by have := HB9.out.size; have := HFB.out; omega)
  have HC1 := Lib.hid ((HB9.out.cell (p := ⟨fb, fo + 1, none⟩) HFB.out).trans kd)
  have H9 := Lib.hid (show On W w9 p (dk 5000 0 [fsafe (la ++ (lb ++ lm).take n)] [([120], 0)] [([120], 0)] []) by obtain ⟨g, q1, q2, q3⟩ := H9A.out; exact ⟨g, q1.below HB9.out, q2.trans (HB9.out.mono q2.size), q3⟩)
  clear kn kd kl hcA hcB hcC
  refine wp_region_two (fun wz => Below w9.heap.size w9 wz) (fun wz => Below w9.heap.size w9 wz) [(0, 0), (0, 1), (0, 2), (0, 3), (0, 4), (0, 5), (0, 6), (0, 7), (0, 8), (0, 9), (0, 10), (0, 11), (0, 12), (0, 13), (0, 14), (0, 15), (0, 16), (0, 17), (0, 18), (0, 19), (0, 20), (0, 21), (0, 22), (2, 23), (0, 24), (0, 25), (0, 26), (0, 27), (2, 28), (0, 29), (0, 30), (0, 31), (2, 32), (0, 33), (0, 34)] [] (by kernel_rfl) (by kernel_rfl) (by kernel_rfl) (by kernel_rfl) (by kernel_rfl) (by rw [← Hw9.out]; exact Below.refl _ _) (by rw [← Hw9.out]; exact Below.refl _ _) ?_
  simp only [planT, List.drop_succ_cons, List.drop_zero]
  rw [← Hw9.out]
  refine PlanT.take0 (v := ?vS00) (by kernel_rfl) ?yS00 ?rS00
  case yS00 => (intro wz hz; have kc1 := (hz.cell (p := ⟨fb, fo + 1, none⟩) HLT.out).trans HC1.out; clear hz; go_simp; try with_reducible rfl)
  (try simp only [Act.put, List.setIfInBounds_toArray, List.set_cons_zero, List.set_cons_succ])
  refine PlanT.take0 (v := ?vS01) (by kernel_rfl) ?yS01 ?rS01
  case yS01 => (intro wz hz; have kc1 := (hz.cell (p := ⟨fb, fo + 1, none⟩) HLT.out).trans HC1.out; clear hz; go_simp; try with_reducible rfl)
  (try simp only [Act.put, List.setIfInBounds_toArray, List.set_cons_zero, List.set_cons_succ])
  refine PlanT.take0 (v := ?vS02) (by kernel_rfl) ?yS02 ?rS02
  case yS02 => (intro wz hz; have kc1 := (hz.cell (p := ⟨fb, fo + 1, none⟩) HLT.out).trans HC1.out; clear hz; go_simp; try with_reducible rfl)
  (try simp only [Act.put, List.setIfInBounds_toArray, List.set_cons_zero, List.set_cons_succ])
  refine PlanT.take0 (v := ?vS03) (by kernel_rfl) ?yS03 ?rS03
  case yS03 => (intro wz hz; have kc1 := (hz.cell (p := ⟨fb, fo + 1, none⟩) HLT.out).trans HC1.out; clear hz; go_simp; try with_reducible rfl)
  (try simp only [Act.put, List.setIfInBounds_toArray, List.set_cons_zero, List.set_cons_succ])
  refine PlanT.take0 (v := ?vS04) (by kernel_rfl) ?yS04 ?rS04
  case yS04 => (intro wz hz; have kc1 := (hz.cell (p := ⟨fb, fo + 1, none⟩) HLT.out).trans HC1.out; clear hz; go_simp; try with_reducible rfl)
  (try simp only [Act.put, List.setIfInBounds_toArray, List.set_cons_zero, List.set_cons_succ])
  refine PlanT.take0 (v := ?vS05) (by kernel_rfl) ?yS05 ?rS05
  case yS05 => (intro wz hz; have kc1 := (hz.cell (p := ⟨fb, fo + 1, none⟩) HLT.out).trans HC1.out; clear hz; go_simp; try with_reducible rfl)
  (try simp only [Act.put, List.setIfInBounds_toArray, List.set_cons_zero, List.set_cons_succ])
  refine PlanT.take0 (v := ?vS06) (by kernel_rfl) ?yS06 ?rS06
  case yS06 => (intro wz hz; have kc1 := (hz.cell (p := ⟨fb, fo + 1, none⟩) HLT.out).trans HC1.out; clear hz; go_simp; try with_reducible rfl)
  (try simp only [Act.put, List.setIfInBounds_toArray, List.set_cons_zero, List.set_cons_succ])
  refine PlanT.take0 (v := ?vS07) (by kernel_rfl) ?yS07 ?rS07
  case yS07 => (intro wz hz; have kc1 := (hz.cell (p := ⟨fb, fo + 1, none⟩) HLT.out).trans HC1.out; clear hz; go_simp; try with_reducible rfl)
  (try simp only [Act.put, List.setIfInBounds_toArray, List.set_cons_zero, List.set_cons_succ])
  refine PlanT.take0 (v := ?vS08) (by kernel_rfl) ?yS08 ?rS08
  case yS08 => (intro wz hz; have kc1 := (hz.cell (p := ⟨fb, fo + 1, none⟩) HLT.out).trans HC1.out; clear hz; go_simp; try with_reducible rfl)
  (try simp only [Act.put, List.setIfInBounds_toArray, List.set_cons_zero, List.set_cons_succ])
  refine PlanT.take0 (v := .string (strB (la ++ (lb ++ lm).take n))) (by kernel_rfl) ?yS09 ?rS09
  case yS09 => (intro wz hz; have kc1 := (hz.cell (p := ⟨fb, fo + 1, none⟩) HLT.out).trans HC1.out; clear hz; go_simp; exact HALL.out)
  (try simp only [Act.put, List.setIfInBounds_toArray, List.set_cons_zero, List.set_cons_succ])
  refine PlanT.take0 (v := ?vS010) (by kernel_rfl) ?yS010 ?rS010
  case yS010 => (intro wz hz; have kc1 := (hz.cell (p := ⟨fb, fo + 1, none⟩) HLT.out).trans HC1.out; clear hz; go_simp; try with_reducible rfl)
  (try simp only [Act.put, List.setIfInBounds_toArray, List.set_cons_zero, List.set_cons_succ])
  refine PlanT.take0 (v := ?vS011) (by kernel_rfl) ?yS011 ?rS011
  case yS011 => (intro wz hz; have kc1 := (hz.cell (p := ⟨fb, fo + 1, none⟩) HLT.out).trans HC1.out; clear hz; go_simp; try with_reducible rfl)
  (try simp only [Act.put, List.setIfInBounds_toArray, List.set_cons_zero, List.set_cons_succ])
  refine PlanT.take0 (v := ?vS012) (by kernel_rfl) ?yS012 ?rS012
  case yS012 => (intro wz hz; have kc1 := (hz.cell (p := ⟨fb, fo + 1, none⟩) HLT.out).trans HC1.out; clear hz; go_simp; try with_reducible rfl)
  (try simp only [Act.put, List.setIfInBounds_toArray, List.set_cons_zero, List.set_cons_succ])
  refine PlanT.take0 (v := ?vS013) (by kernel_rfl) ?yS013 ?rS013
  case yS013 => (intro wz hz; have kc1 := (hz.cell (p := ⟨fb, fo + 1, none⟩) HLT.out).trans HC1.out; clear hz; go_simp; try with_reducible rfl)
  (try simp only [Act.put, List.setIfInBounds_toArray, List.set_cons_zero, List.set_cons_succ])
  refine PlanT.take0 (v := ?vS014) (by kernel_rfl) ?yS014 ?rS014
  case yS014 => (intro wz hz; have kc1 := (hz.cell (p := ⟨fb, fo + 1, none⟩) HLT.out).trans HC1.out; clear hz; go_simp; try with_reducible rfl)
  (try simp only [Act.put, List.setIfInBounds_toArray, List.set_cons_zero, List.set_cons_succ])
  refine PlanT.take0 (v := ?vS015) (by kernel_rfl) ?yS015 ?rS015
  case yS015 => (intro wz hz; have kc1 := (hz.cell (p := ⟨fb, fo + 1, none⟩) HLT.out).trans HC1.out; clear hz; go_simp; try with_reducible rfl)
  (try simp only [Act.put, List.setIfInBounds_toArray, List.set_cons_zero, List.set_cons_succ])
  refine PlanT.take0 (v := ?vS016) (by kernel_rfl) ?yS016 ?rS016
  case yS016 => (intro wz hz; have kc1 := (hz.cell (p := ⟨fb, fo + 1, none⟩) HLT.out).trans HC1.out; clear hz; go_simp; try with_reducible rfl)
  (try simp only [Act.put, List.setIfInBounds_toArray, List.set_cons_zero, List.set_cons_succ])
  refine PlanT.take0 (v := ?vS017) (by kernel_rfl) ?yS017 ?rS017
  case yS017 => (intro wz hz; have kc1 := (hz.cell (p := ⟨fb, fo + 1, none⟩) HLT.out).trans HC1.out; clear hz; go_simp; try with_reducible rfl)
  (try simp only [Act.put, List.setIfInBounds_toArray, List.set_cons_zero, List.set_cons_succ])
  refine PlanT.take0 (v := ?vS018) (by kernel_rfl) ?yS018 ?rS018
  case yS018 => (intro wz hz; have kc1 := (hz.cell (p := ⟨fb, fo + 1, none⟩) HLT.out).trans HC1.out; clear hz; go_simp; try with_reducible rfl)
  (try simp only [Act.put, List.setIfInBounds_toArray, List.set_cons_zero, List.set_cons_succ])
  refine PlanT.take0 (v := ?vS019) (by kernel_rfl) ?yS019 ?rS019
  case yS019 => (intro wz hz; have kc1 := (hz.cell (p := ⟨fb, fo + 1, none⟩) HLT.out).trans HC1.out; clear hz; go_simp; try with_reducible rfl)
  (try simp only [Act.put, List.setIfInBounds_toArray, List.set_cons_zero, List.set_cons_succ])
  refine PlanT.take0 (v := ?vS020) (by kernel_rfl) ?yS020 ?rS020
  case yS020 => (intro wz hz; have kc1 := (hz.cell (p := ⟨fb, fo + 1, none⟩) HLT.out).trans HC1.out; clear hz; go_simp; try with_reducible rfl)
  (try simp only [Act.put, List.setIfInBounds_toArray, List.set_cons_zero, List.set_cons_succ])
  refine PlanT.take0 (v := ?vS021) (by kernel_rfl) ?yS021 ?rS021
  case yS021 => (intro wz hz; have kc1 := (hz.cell (p := ⟨fb, fo + 1, none⟩) HLT.out).trans HC1.out; clear hz; go_simp; try with_reducible rfl)
  (try simp only [Act.put, List.setIfInBounds_toArray, List.set_cons_zero, List.set_cons_succ])
  refine PlanT.take0 (v := ?vS022) (by kernel_rfl) ?yS022 ?rS022
  case yS022 => (intro wz hz; have kc1 := (hz.cell (p := ⟨fb, fo + 1, none⟩) HLT.out).trans HC1.out; clear hz; go_simp; try with_reducible rfl)
  (try simp only [Act.put, List.setIfInBounds_toArray, List.set_cons_zero, List.set_cons_succ])
  refine PlanT.exec2 (fun K hK => ⟨by kernel_rfl, ?_⟩)
  go_simp
  refine (HDN.out _ _ (H9.out)).mono ?_
  rintro e w10 ⟨rfl, rfl⟩
  have hb10 : Below w9.heap.size w9 w9 := Below.refl _ _
  refine hK.out _ _ hb10 hb10 ?_
  clear hK K
  (try simp only [Act.put, List.setIfInBounds_toArray, List.set_cons_zero, List.set_cons_succ])
  refine PlanT.take0 (v := ?vS024) (by kernel_rfl) ?yS024 ?rS024
  case yS024 => (intro wz hz; have kc1 := (hz.cell (p := ⟨fb, fo + 1, none⟩) HLT.out).trans HC1.out; clear hz; go_simp; try with_reducible rfl)
  (try simp only [Act.put, List.setIfInBounds_toArray, List.set_cons_zero, List.set_cons_succ])
  refine PlanT.take0 (v := ?vS025) (by kernel_rfl) ?yS025 ?rS025
  case yS025 => (intro wz hz; have kc1 := (hz.cell (p := ⟨fb, fo + 1, none⟩) HLT.out).trans HC1.out; clear hz; go_simp; try with_reducible rfl)
  (try simp only [Act.put, List.setIfInBounds_toArray, List.set_cons_zero, List.set_cons_succ])
  refine PlanT.take0 (v := ?vS026) (by kernel_rfl) ?yS026 ?rS026
  case yS026 => (intro wz hz; have kc1 := (hz.cell (p := ⟨fb, fo + 1, none⟩) HLT.out).trans HC1.out; clear hz; go_simp; try with_reducible rfl)
  (try simp only [Act.put, List.setIfInBounds_toArray, List.set_cons_zero, List.set_cons_succ])
  refine PlanT.take0 (v := ?vS027) (by kernel_rfl) ?yS027 ?rS027
  case yS027 => (intro wz hz; have kc1 := (hz.cell (p := ⟨fb, fo + 1, none⟩) HLT.out).trans HC1.out; clear hz; go_simp; try with_reducible rfl)
  (try simp only [Act.put, List.setIfInBounds_toArray, List.set_cons_zero, List.set_cons_succ])
  refine PlanT.exec2 (fun K hK => ⟨by kernel_rfl, ?_⟩)
  go_simp
  refine (HCL.out _ _ (H9.out)).mono ?_
  rintro e w10 ⟨rfl, rfl⟩
  have hb11 : Below w9.heap.size w9 w9 := Below.refl _ _
  refine hK.out _ _ hb11 hb11 ?_
  clear hK K
  (try simp only [Act.put, List.setIfInBounds_toArray, List.set_cons_zero, List.set_cons_succ])
  refine PlanT.take0 (v := ?vS029) (by kernel_rfl) ?yS029 ?rS029
  case yS029 => (intro wz hz; have kc1 := (hz.cell (p := ⟨fb, fo + 1, none⟩) HLT.out).trans HC1.out; clear hz; go_simp; try with_reducible rfl)
  (try simp only [Act.put, List.setIfInBounds_toArray, List.set_cons_zero, List.set_cons_succ])
  refine PlanT.take0 (v := ?vS030) (by kernel_rfl) ?yS030 ?rS030
  case yS030 => (intro wz hz; have kc1 := (hz.cell (p := ⟨fb, fo + 1, none⟩) HLT.out).trans HC1.out; clear hz; go_simp; try with_reducible rfl)
  (try simp only [Act.put, List.setIfInBounds_toArray, List.set_cons_zero, List.set_cons_succ])
  refine PlanT.take0 (v := ?vS031) (by kernel_rfl) ?yS031 ?rS031
  case yS031 => (intro wz hz; have kc1 := (hz.cell (p := ⟨fb, fo + 1, none⟩) HLT.out).trans HC1.out; clear hz; go_simp; try with_reducible rfl)
  (try simp only [Act.put, List.setIfInBounds_toArray, List.set_cons_zero, List.set_cons_succ])
  refine PlanT.exec2 (fun K hK => ⟨by kernel_rfl, ?_⟩)
  go_simp
  refine (awake4_any w9).mono ?_
  rintro e w15 ⟨rfl, B15⟩
  refine hK.out _ _ B15 B15 ?_
  clear hK K
  (try simp only [Act.put, List.setIfInBounds_toArray, List.set_cons_zero, List.set_cons_succ])
  refine PlanT.take0 (v := ?vS033) (by kernel_rfl) ?yS033 ?rS033
  case yS033 => (intro wz hz; have kc1 := (hz.cell (p := ⟨fb, fo + 1, none⟩) HLT.out).trans HC1.out; clear hz; go_simp; try with_reducible rfl)
  (try simp only [Act.put, List.setIfInBounds_toArray, List.set_cons_zero, List.set_cons_succ])
  refine PlanT.take0 (v := ?vS034) (by kernel_rfl) ?yS034 ?rS034
  case yS034 => (intro wz hz; have kc1 := (hz.cell (p := ⟨fb, fo + 1, none⟩) HLT.out).trans HC1.out; clear hz; go_simp; try with_reducible rfl)
  (try simp only [Act.put, List.setIfInBounds_toArray, List.set_cons_zero, List.set_cons_succ])
  refine PlanT.done (NoPanic.normal ?_)
  go_wp2
  go_ret
  exact ⟨rfl, H9.out.below.trans (Kept.below (Kept.of B15 (R := fun k => k < w9.heap.size) fun _ h => h) fun k hk => Nat.lt_of_lt_of_le hk H9.out.below.size)⟩

set_option maxRecDepth 100000 in
set_option maxHeartbeats 8000000 in
set_option linter.unusedSimpArgs false in
theorem safe_1 (va vb vm : Option Addr) (ca cb cm : Nat) (la lb lm : List UInt8) (keep names : Int) (W : World) (h1 : RdB W (.slice va la.length ca) la) (h2 : RdB W (.slice vb lb.length cb) lb) (h3 : RdB W (.slice vm lm.length cm) lm) (l1 : la.length ≤ 500) (l2 : lb.length ≤ 500) (l3 : lm.length ≤ 500) (hk : (Lit.int .i64 keep).wf = true) (hwf : (Lit.int .i64 names).wf = true) (K M n : Nat) (hK : max 0 keep = (K : Int)) (hM : max 0 names = (M : Int)) (hn : K % (lb.length + lm.length + 1) = n) (hr : M % 2 = 1) :
    Calls Try.prog 4 #[.slice va la.length ca, .slice vb lb.length cb, .int .i64 keep, .int .i64 names, .slice vm lm.length cm] W fun e w' => e = .returned (.bool true) ∧ Below W.heap.size W w' := by
  have hrr : rest names 1 = 1 := by unfold rest; rw [show (max 0 names).toNat = M by omega]; exact hr
  have hrk : rest keep (lb.length + lm.length) = n := by unfold rest; rw [show (max 0 keep).toNat = K by omega]; exact hn
  have hnl : n ≤ lb.length + lm.length := by have := Nat.mod_lt K (show 0 < lb.length + lm.length + 1 by omega); omega
  have hff : (((fsafe la).wrote la.length lb).wrote (la.length + lb.length) lm).fallen keep = fsafe (la ++ (lb ++ lm).take n) := by rw [safe_fallen, hrk]
  have hl5 : ((fsafe la).wrote la.length lb).now.length = la.length + lb.length := by show (wr la la.length lb).length = _; rw [wr_end, List.length_append]
  have hl6 : (((fsafe la).wrote la.length lb).wrote (la.length + lb.length) lm).now.length = la.length + lb.length + lm.length := by show (wr (wr la la.length lb) (la.length + lb.length) lm).length = _; rw [wr_length _ _ _ (by rw [wr_end, List.length_append]; omega), wr_end, List.length_append]; omega
  have hf5 : FOk ((fsafe la).wrote la.length lb) := fok_of (by simp [PF.wrote, fsafe, manyL]; omega) (by rw [hl5]; omega) (by simp [PF.wrote, fsafe]) ⟨Nat.le_refl _, trivial⟩
  have hf6 : FOk (((fsafe la).wrote la.length lb).wrote (la.length + lb.length) lm) := fok_of (by simp [PF.wrote, fsafe, manyL]; omega) (by rw [hl6]; omega) (by simp [PF.wrote, fsafe]) ⟨Nat.le_refl _, by show la.length + lb.length ≤ (wr la la.length lb).length; rw [wr_end, List.length_append]; omega, trivial⟩
  have hlR : (la ++ (lb ++ lm).take n).length = la.length + n := by rw [List.length_append, List.length_take, List.length_append]; omega
  have hf8 : FOk (fsafe (la ++ (lb ++ lm).take n)) := fok_fsafe _ (by rw [hlR]; omega)
  have HN := Lib.hid (on_new W W (Below.refl _ _) 5000 0 0 false (.slice none 0 0))
  have HA := Lib.hid (fun (w : World) (p : Nat) (h : On W w p (PD.new 5000 0 false)) => on_make h (f0_small _) (by decide) ⟨#[120]⟩ (by decide) 0 (dk 5000 1 [PF.new] [([120], 0)] [] [⟨0, [], [120], 0⟩]) (dk_make 5000 0 [] [] [] [] [120] (by kernel_rfl) rfl))
  have HB := Lib.hid (fun (w : World) (p : Nat) (h : On W w p (dk 5000 1 [PF.new] [([120], 0)] [] [⟨0, [], [120], 0⟩])) => on_write h (small_of (by kernel_rfl) (fmem1 fok_new)) (show 1 + 1 < 10000 by omega) ⟨#[120]⟩ (by decide) 0 _ la h1 (by omega) 0 (dk 5000 2 [fw la] [([120], 0)] [] [⟨0, [], [120], 0⟩]) (dk_write 5000 1 _ _ _ _ [120] 0 0 0 la (by kernel_rfl) (by kernel_rfl) (Nat.zero_le _) (by omega) (by omega)))
  have HC := Lib.hid (fun (w : World) (p : Nat) (h : On W w p (dk 5000 2 [fw la] [([120], 0)] [] [⟨0, [], [120], 0⟩])) => on_safe h (small_of (by kernel_rfl) (fmem1 (fok_fw2 la (by omega)))) (show 2 + 1 < 10000 by omega) ⟨#[120]⟩ (by decide) 0 (dk 5000 3 [fsafe la] [([120], 0)] [] [⟨0, [], [120], 0⟩]) (by rw [← safed_fw la]; exact dk_safe 5000 2 _ _ _ _ [120] 0 (by kernel_rfl)))
  have HD := Lib.hid (fun (w : World) (p : Nat) (h : On W w p (dk 5000 3 [fsafe la] [([120], 0)] [] [⟨0, [], [120], 0⟩])) => on_names h (small_of (by kernel_rfl) (fmem1 (fok_fsafe la (by omega)))) (show List.Nodup [0] by decide) (show 3 + 1 < 10000 by omega) 0 (dk 5000 4 [fsafe la] [([120], 0)] [([120], 0)] []) (dk_names 5000 3 _ _ _ _))
  have HE := Lib.hid (fun (w : World) (p : Nat) (h : On W w p (dk 5000 4 [fsafe la] [([120], 0)] [([120], 0)] [])) => on_write h (small_of (by kernel_rfl) (fmem1 (fok_fsafe la (by omega)))) (show 4 + 1 < 10000 by omega) ⟨#[120]⟩ (by decide) (la.length : Int) _ lb h2 (by omega) 0 (dk 5000 5 [(fsafe la).wrote la.length lb] [([120], 0)] [([120], 0)] []) (dk_write 5000 4 _ _ _ _ [120] 0 la.length la.length lb (by kernel_rfl) (by show la.length + 0 = la.length; omega) (Nat.le_refl _) (by omega) (by omega)))
  have HF := Lib.hid (fun (w : World) (p : Nat) (h : On W w p (dk 5000 5 [(fsafe la).wrote la.length lb] [([120], 0)] [([120], 0)] [])) => on_write h (small_of (by kernel_rfl) (fmem1 hf5)) (show 5 + 1 < 10000 by omega) ⟨#[120]⟩ (by decide) ((la.length : Int) + (lb.length : Int)) _ lm h3 (by omega) 0 (dk 5000 6 [((fsafe la).wrote la.length lb).wrote (la.length + lb.length) lm] [([120], 0)] [([120], 0)] []) (by have e := dk_write 5000 5 [(fsafe la).wrote la.length lb] [([120], 0)] [([120], 0)] [] [120] 0 (la.length + lb.length) (la.length + lb.length) lm (by kernel_rfl) (by show ((fsafe la).wrote la.length lb).now.length + 0 = _; rw [hl5]; omega) (by show _ ≤ ((fsafe la).wrote la.length lb).now.length; rw [hl5]; omega) (by omega) (by omega); rw [show ((la.length : Int) + (lb.length : Int)) = ((la.length + lb.length : Nat) : Int) by omega]; exact e))
  have HG := Lib.hid (fun (w : World) (p : Nat) (h : On W w p (dk 5000 6 [((fsafe la).wrote la.length lb).wrote (la.length + lb.length) lm] [([120], 0)] [([120], 0)] [])) => on_make h (small_of (by kernel_rfl) (fmem1 hf6)) (show 6 + 1 < 10000 by omega) ⟨#[121]⟩ (by decide) 0 (dk 5000 7 [((fsafe la).wrote la.length lb).wrote (la.length + lb.length) lm, PF.new] [([120], 0), ([121], 1)] [([120], 0)] [⟨0, [], [121], 1⟩]) (dk_make 5000 6 _ _ _ _ [121] (by kernel_rfl) (by kernel_rfl)))
  have HI := Lib.hid (fun (w : World) (p : Nat) (h : On W w p (dk 5000 7 [((fsafe la).wrote la.length lb).wrote (la.length + lb.length) lm, PF.new] [([120], 0), ([121], 1)] [([120], 0)] [⟨0, [], [121], 1⟩])) => on_fallQ h.toR (w.alloc (.cells #[.int .i64 keep] 3)) ((Below.refl _ _).alloc (Nat.le_refl _) _) 5000 0 names false (.slice (some ⟨w.heap.size, 0, none⟩) 1 1) [keep] 1 hrr hwf (by simp; exact hk) (by simp)
    (.inr ⟨w.heap.size, 1, rfl, by simp, Nat.le_refl _, by simp, fun i v hv => by rw [blk_cell (heap_alloc_new w _)]; match i, hv with | 0, hv => simpa using hv | i + 1, hv => simp at hv⟩)
    (fun k hk => by have hk2 : k ≤ 1 := hk; have hk3 : k = 0 ∨ k = 1 := (by omega); rcases hk3 with rfl | rfl <;> exact small_of (by kernel_rfl) (fmem2 hf6 fok_new)) (show List.Nodup [0, 1] by decide) (dk 5000 0 [fsafe (la ++ (lb ++ lm).take n), PF.new] [([120], 0), ([121], 1)] [([120], 0), ([121], 1)] []) (by rw [← hff]; rfl))
  have HJ := Lib.hid (fun (w : World) (p : Nat) (h : On W w p (dk 5000 0 [fsafe (la ++ (lb ++ lm).take n), PF.new] [([120], 0), ([121], 1)] [([120], 0), ([121], 1)] [])) => on_files h (small_of (by kernel_rfl) (fmem2 hf8 fok_new)) [([120], (la ++ (lb ++ lm).take n), 0), ([121], [], 0)] rfl)
  have HDN := Lib.hid (fun (w : World) (p : Nat) (h : On W w p (dk 5000 0 [fsafe (la ++ (lb ++ lm).take n), PF.new] [([120], 0), ([121], 1)] [([120], 0), ([121], 1)] [])) => (show Calls Try.prog 22 #[.pointer (some ⟨p, 0, none⟩)] w fun e w' => e = .returned (.bool false) ∧ w = w' from on_down h))
  have HCL := Lib.hid (fun (w : World) (p : Nat) (h : On W w p (dk 5000 0 [fsafe (la ++ (lb ++ lm).take n), PF.new] [([120], 0), ([121], 1)] [([120], 0), ([121], 1)] [])) => on_calls h 0 rfl)
  have g1 : ¬ (500 : Int) < (la.length : Int) := by omega
  have g2 : ¬ (500 : Int) < (lb.length : Int) := by omega
  have g3 : ¬ (500 : Int) < (lm.length : Int) := by omega
  have hn1 : (K : Int).tmod ((lb.length : Int) + (lm.length : Int) + 1) = (n : Int) := by rw [Int.tmod_eq_emod_of_nonneg (by omega), ← hn]; simp
  have hn2 : (K : Int) % ((lb.length : Int) + (lm.length : Int) + 1) = (n : Int) := by rw [← hn]; simp
  have hm1 : (M : Int).tmod 2 = 1 := by rw [Int.tmod_eq_emod_of_nonneg (by omega)]; omega
  have hm2 : (M : Int) % 2 = 1 := by omega
  have hzA : ¬ (lb.length : Int) + (lm.length : Int) + 1 = 0 := by omega
  have HALL := Lib.hid (show (strB la ++ strB lb ++ strB lm).extract 0 (la.length + n) = strB (la ++ (lb ++ lm).take n) by rw [strB_app la lb, strB_app (la ++ lb) lm, Lib.extract_mk, List.drop_zero, Nat.sub_zero, List.append_assoc, List.take_length_add_append])
  have HALN := Lib.hid (show (strB la ++ strB lb ++ strB lm).size = la.length + lb.length + lm.length by rw [strB_app la lb, strB_app (la ++ lb) lm, strB_size, List.length_append, List.length_append])
  have hwr : IntKind.i64.wrap ((la.length : Int) + (n : Int)) = (la.length : Int) + (n : Int) := IntWalk.i64_in _ (by omega)
  have hp1 : 0 ≤ (la.length : Int) + (n : Int) := by omega
  have hp2 : (la.length : Int) + (n : Int) ≤ (la.length : Int) + (lb.length : Int) + (lm.length : Int) := by omega
  have htn : ((la.length : Int) + (n : Int)).toNat = la.length + n := by omega
  have HR1 := Lib.hid h1
  have HR2 := Lib.hid h2
  have HR3 := Lib.hid h3
  have HNL := Lib.hid hnl
  clear h1 h2 h3 hrr hrk hff hl5 hl6 hf5 hf6 hf8 hlR hn hr
  go_enter Try.func4, Try.ntmps4
  go_wp2_with (first | (go_at_call 15; (with_reducible refine (HN.out).mono ?_); rintro e w0 ⟨p, rfl, h0⟩; have H0 := Lib.hid h0; clear h0) | (go_at_call 26; (with_reducible refine (HA.out _ _ H0.out).mono ?_); rintro e w1 ⟨rfl, h1⟩; have H1 := Lib.hid h1; clear h1) | (go_at_call 27; (with_reducible refine (HB.out _ _ H1.out).mono ?_); rintro e w2 ⟨rfl, h2⟩; have H2 := Lib.hid h2; clear h2) | (go_at_call 28; (with_reducible refine (HC.out _ _ H2.out).mono ?_); rintro e w3 ⟨rfl, h3⟩; have H3 := Lib.hid h3; clear h3) | (go_at_call 29; (with_reducible refine (HD.out _ _ H3.out).mono ?_); rintro e w4 ⟨rfl, h4⟩; have H4 := Lib.hid h4; clear h4) | (go_at_call 27; (with_reducible refine (HE.out _ _ H4.out).mono ?_); rintro e w5 ⟨rfl, h5⟩; have H5 := Lib.hid h5; clear h5) | (go_at_call 27; (with_reducible refine (HF.out _ _ H5.out).mono ?_); rintro e w6 ⟨rfl, h6⟩; have H6 := Lib.hid h6; clear h6) | (go_at_call 26; (with_reducible refine (HG.out _ _ H6.out).mono ?_); rintro e w7 ⟨rfl, h7⟩; have H7 := Lib.hid h7; clear h7) | (go_at_call 30; (with_reducible refine (HI.out _ _ H7.out).mono ?_); rintro e w8 ⟨rfl, h8⟩; have H8 := Lib.hid h8.on; clear h8) | (go_at_call 20; (with_reducible refine (HJ.out _ _ H8.out).mono ?_); rintro e w9a ⟨fa, fc, rfl, h9, hr9⟩; obtain ⟨fa', fc', hfe, hfc1, hfc2, _, hcell⟩ := hr9; have hcell2 := hcell.resolve_left (fun h => by simp at h); clear hcell; obtain ⟨fb, fo, hfa, hfbl, hcell⟩ := hcell2; cases hfe; subst hfa; have kn : w9a.cell? ⟨fb, fo, none⟩ = some (.string (strB [120])) := hcell 0 _ rfl; have kd : w9a.cell? ⟨fb, fo + 1, none⟩ = some (.string (strB (la ++ (lb ++ lm).take n))) := hcell 1 _ rfl; have kl : w9a.cell? ⟨fb, fo + 2, none⟩ = some (.int .i64 0) := hcell 2 _ rfl; have H9A := Lib.hid h9; have HFB := Lib.hid hfbl; have hcA := rdB_convert (P := Try.prog) (HR1.out.below h9.below (Nat.le_refl _)) 32 5 9 Try.underlying32 Try.underlying5 Try.underlying9; have hcB := rdB_convert (P := Try.prog) (HR2.out.below h9.below (Nat.le_refl _)) 32 5 9 Try.underlying32 Try.underlying5 Try.underlying9; have hcC := rdB_convert (P := Try.prog) (HR3.out.below h9.below (Nat.le_refl _)) 32 5 9 Try.underlying32 Try.underlying5 Try.underlying9; clear h9 hcell hfbl) | (go_at_call 31; (with_reducible refine (num1_any _ _).mono ?_); rintro e w14 ⟨rfl, rfl⟩))
  obtain ⟨w9, hw9⟩ : ∃ w9, w9 = w9a.drew := ⟨_, rfl⟩
  have HB9 := Lib.hid (show Below w9a.heap.size w9a w9 by rw [hw9]; exact (Below.refl _ _).drew)
  have Hw9 := Lib.hid hw9
  clear hw9
  have HLT := Lib.hid (show fb < w9.heap.size by have := HB9.out.size; have := HFB.out; omega)
  have HC1 := Lib.hid ((HB9.out.cell (p := ⟨fb, fo + 1, none⟩) HFB.out).trans kd)
  have H9 := Lib.hid (show On W w9 p (dk 5000 0 [fsafe (la ++ (lb ++ lm).take n), PF.new] [([120], 0), ([121], 1)] [([120], 0), ([121], 1)] []) by obtain ⟨g, q1, q2, q3⟩ := H9A.out; exact ⟨g, q1.below HB9.out, q2.trans (HB9.out.mono q2.size), q3⟩)
  clear kn kd kl hcA hcB hcC
  refine wp_region_two (fun wz => Below w9.heap.size w9 wz) (fun wz => Below w9.heap.size w9 wz) [(0, 0), (0, 1), (0, 2), (0, 3), (0, 4), (0, 5), (0, 6), (0, 7), (0, 8), (0, 9), (0, 10), (0, 11), (0, 12), (0, 13), (0, 14), (0, 15), (0, 16), (0, 17), (0, 18), (0, 19), (0, 20), (0, 21), (0, 22), (2, 23), (0, 24), (0, 25), (0, 26), (0, 27), (2, 28), (0, 29), (0, 30), (0, 31), (2, 32), (0, 33), (0, 34)] [] (by kernel_rfl) (by kernel_rfl) (by kernel_rfl) (by kernel_rfl) (by kernel_rfl) (by rw [← Hw9.out]; exact Below.refl _ _) (by rw [← Hw9.out]; exact Below.refl _ _) ?_
  simp only [planT, List.drop_succ_cons, List.drop_zero]
  rw [← Hw9.out]
  refine PlanT.take0 (v := ?vS10) (by kernel_rfl) ?yS10 ?rS10
  case yS10 => (intro wz hz; have kc1 := (hz.cell (p := ⟨fb, fo + 1, none⟩) HLT.out).trans HC1.out; clear hz; go_simp; try with_reducible rfl)
  (try simp only [Act.put, List.setIfInBounds_toArray, List.set_cons_zero, List.set_cons_succ])
  refine PlanT.take0 (v := ?vS11) (by kernel_rfl) ?yS11 ?rS11
  case yS11 => (intro wz hz; have kc1 := (hz.cell (p := ⟨fb, fo + 1, none⟩) HLT.out).trans HC1.out; clear hz; go_simp; try with_reducible rfl)
  (try simp only [Act.put, List.setIfInBounds_toArray, List.set_cons_zero, List.set_cons_succ])
  refine PlanT.take0 (v := ?vS12) (by kernel_rfl) ?yS12 ?rS12
  case yS12 => (intro wz hz; have kc1 := (hz.cell (p := ⟨fb, fo + 1, none⟩) HLT.out).trans HC1.out; clear hz; go_simp; try with_reducible rfl)
  (try simp only [Act.put, List.setIfInBounds_toArray, List.set_cons_zero, List.set_cons_succ])
  refine PlanT.take0 (v := ?vS13) (by kernel_rfl) ?yS13 ?rS13
  case yS13 => (intro wz hz; have kc1 := (hz.cell (p := ⟨fb, fo + 1, none⟩) HLT.out).trans HC1.out; clear hz; go_simp; try with_reducible rfl)
  (try simp only [Act.put, List.setIfInBounds_toArray, List.set_cons_zero, List.set_cons_succ])
  refine PlanT.take0 (v := ?vS14) (by kernel_rfl) ?yS14 ?rS14
  case yS14 => (intro wz hz; have kc1 := (hz.cell (p := ⟨fb, fo + 1, none⟩) HLT.out).trans HC1.out; clear hz; go_simp; try with_reducible rfl)
  (try simp only [Act.put, List.setIfInBounds_toArray, List.set_cons_zero, List.set_cons_succ])
  refine PlanT.take0 (v := ?vS15) (by kernel_rfl) ?yS15 ?rS15
  case yS15 => (intro wz hz; have kc1 := (hz.cell (p := ⟨fb, fo + 1, none⟩) HLT.out).trans HC1.out; clear hz; go_simp; try with_reducible rfl)
  (try simp only [Act.put, List.setIfInBounds_toArray, List.set_cons_zero, List.set_cons_succ])
  refine PlanT.take0 (v := ?vS16) (by kernel_rfl) ?yS16 ?rS16
  case yS16 => (intro wz hz; have kc1 := (hz.cell (p := ⟨fb, fo + 1, none⟩) HLT.out).trans HC1.out; clear hz; go_simp; try with_reducible rfl)
  (try simp only [Act.put, List.setIfInBounds_toArray, List.set_cons_zero, List.set_cons_succ])
  refine PlanT.take0 (v := ?vS17) (by kernel_rfl) ?yS17 ?rS17
  case yS17 => (intro wz hz; have kc1 := (hz.cell (p := ⟨fb, fo + 1, none⟩) HLT.out).trans HC1.out; clear hz; go_simp; try with_reducible rfl)
  (try simp only [Act.put, List.setIfInBounds_toArray, List.set_cons_zero, List.set_cons_succ])
  refine PlanT.take0 (v := ?vS18) (by kernel_rfl) ?yS18 ?rS18
  case yS18 => (intro wz hz; have kc1 := (hz.cell (p := ⟨fb, fo + 1, none⟩) HLT.out).trans HC1.out; clear hz; go_simp; try with_reducible rfl)
  (try simp only [Act.put, List.setIfInBounds_toArray, List.set_cons_zero, List.set_cons_succ])
  refine PlanT.take0 (v := .string (strB (la ++ (lb ++ lm).take n))) (by kernel_rfl) ?yS19 ?rS19
  case yS19 => (intro wz hz; have kc1 := (hz.cell (p := ⟨fb, fo + 1, none⟩) HLT.out).trans HC1.out; clear hz; go_simp; exact HALL.out)
  (try simp only [Act.put, List.setIfInBounds_toArray, List.set_cons_zero, List.set_cons_succ])
  refine PlanT.take0 (v := ?vS110) (by kernel_rfl) ?yS110 ?rS110
  case yS110 => (intro wz hz; have kc1 := (hz.cell (p := ⟨fb, fo + 1, none⟩) HLT.out).trans HC1.out; clear hz; go_simp; try with_reducible rfl)
  (try simp only [Act.put, List.setIfInBounds_toArray, List.set_cons_zero, List.set_cons_succ])
  refine PlanT.take0 (v := ?vS111) (by kernel_rfl) ?yS111 ?rS111
  case yS111 => (intro wz hz; have kc1 := (hz.cell (p := ⟨fb, fo + 1, none⟩) HLT.out).trans HC1.out; clear hz; go_simp; try with_reducible rfl)
  (try simp only [Act.put, List.setIfInBounds_toArray, List.set_cons_zero, List.set_cons_succ])
  refine PlanT.take0 (v := ?vS112) (by kernel_rfl) ?yS112 ?rS112
  case yS112 => (intro wz hz; have kc1 := (hz.cell (p := ⟨fb, fo + 1, none⟩) HLT.out).trans HC1.out; clear hz; go_simp; try with_reducible rfl)
  (try simp only [Act.put, List.setIfInBounds_toArray, List.set_cons_zero, List.set_cons_succ])
  refine PlanT.take0 (v := ?vS113) (by kernel_rfl) ?yS113 ?rS113
  case yS113 => (intro wz hz; have kc1 := (hz.cell (p := ⟨fb, fo + 1, none⟩) HLT.out).trans HC1.out; clear hz; go_simp; try with_reducible rfl)
  (try simp only [Act.put, List.setIfInBounds_toArray, List.set_cons_zero, List.set_cons_succ])
  refine PlanT.take0 (v := ?vS114) (by kernel_rfl) ?yS114 ?rS114
  case yS114 => (intro wz hz; have kc1 := (hz.cell (p := ⟨fb, fo + 1, none⟩) HLT.out).trans HC1.out; clear hz; go_simp; try with_reducible rfl)
  (try simp only [Act.put, List.setIfInBounds_toArray, List.set_cons_zero, List.set_cons_succ])
  refine PlanT.take0 (v := ?vS115) (by kernel_rfl) ?yS115 ?rS115
  case yS115 => (intro wz hz; have kc1 := (hz.cell (p := ⟨fb, fo + 1, none⟩) HLT.out).trans HC1.out; clear hz; go_simp; try with_reducible rfl)
  (try simp only [Act.put, List.setIfInBounds_toArray, List.set_cons_zero, List.set_cons_succ])
  refine PlanT.take0 (v := ?vS116) (by kernel_rfl) ?yS116 ?rS116
  case yS116 => (intro wz hz; have kc1 := (hz.cell (p := ⟨fb, fo + 1, none⟩) HLT.out).trans HC1.out; clear hz; go_simp; try with_reducible rfl)
  (try simp only [Act.put, List.setIfInBounds_toArray, List.set_cons_zero, List.set_cons_succ])
  refine PlanT.take0 (v := ?vS117) (by kernel_rfl) ?yS117 ?rS117
  case yS117 => (intro wz hz; have kc1 := (hz.cell (p := ⟨fb, fo + 1, none⟩) HLT.out).trans HC1.out; clear hz; go_simp; try with_reducible rfl)
  (try simp only [Act.put, List.setIfInBounds_toArray, List.set_cons_zero, List.set_cons_succ])
  refine PlanT.take0 (v := ?vS118) (by kernel_rfl) ?yS118 ?rS118
  case yS118 => (intro wz hz; have kc1 := (hz.cell (p := ⟨fb, fo + 1, none⟩) HLT.out).trans HC1.out; clear hz; go_simp; try with_reducible rfl)
  (try simp only [Act.put, List.setIfInBounds_toArray, List.set_cons_zero, List.set_cons_succ])
  refine PlanT.take0 (v := ?vS119) (by kernel_rfl) ?yS119 ?rS119
  case yS119 => (intro wz hz; have kc1 := (hz.cell (p := ⟨fb, fo + 1, none⟩) HLT.out).trans HC1.out; clear hz; go_simp; try with_reducible rfl)
  (try simp only [Act.put, List.setIfInBounds_toArray, List.set_cons_zero, List.set_cons_succ])
  refine PlanT.take0 (v := ?vS120) (by kernel_rfl) ?yS120 ?rS120
  case yS120 => (intro wz hz; have kc1 := (hz.cell (p := ⟨fb, fo + 1, none⟩) HLT.out).trans HC1.out; clear hz; go_simp; try with_reducible rfl)
  (try simp only [Act.put, List.setIfInBounds_toArray, List.set_cons_zero, List.set_cons_succ])
  refine PlanT.take0 (v := ?vS121) (by kernel_rfl) ?yS121 ?rS121
  case yS121 => (intro wz hz; have kc1 := (hz.cell (p := ⟨fb, fo + 1, none⟩) HLT.out).trans HC1.out; clear hz; go_simp; try with_reducible rfl)
  (try simp only [Act.put, List.setIfInBounds_toArray, List.set_cons_zero, List.set_cons_succ])
  refine PlanT.take0 (v := ?vS122) (by kernel_rfl) ?yS122 ?rS122
  case yS122 => (intro wz hz; have kc1 := (hz.cell (p := ⟨fb, fo + 1, none⟩) HLT.out).trans HC1.out; clear hz; go_simp; try with_reducible rfl)
  (try simp only [Act.put, List.setIfInBounds_toArray, List.set_cons_zero, List.set_cons_succ])
  refine PlanT.exec2 (fun K hK => ⟨by kernel_rfl, ?_⟩)
  go_simp
  refine (HDN.out _ _ (H9.out)).mono ?_
  rintro e w10 ⟨rfl, rfl⟩
  have hb10 : Below w9.heap.size w9 w9 := Below.refl _ _
  refine hK.out _ _ hb10 hb10 ?_
  clear hK K
  (try simp only [Act.put, List.setIfInBounds_toArray, List.set_cons_zero, List.set_cons_succ])
  refine PlanT.take0 (v := ?vS124) (by kernel_rfl) ?yS124 ?rS124
  case yS124 => (intro wz hz; have kc1 := (hz.cell (p := ⟨fb, fo + 1, none⟩) HLT.out).trans HC1.out; clear hz; go_simp; try with_reducible rfl)
  (try simp only [Act.put, List.setIfInBounds_toArray, List.set_cons_zero, List.set_cons_succ])
  refine PlanT.take0 (v := ?vS125) (by kernel_rfl) ?yS125 ?rS125
  case yS125 => (intro wz hz; have kc1 := (hz.cell (p := ⟨fb, fo + 1, none⟩) HLT.out).trans HC1.out; clear hz; go_simp; try with_reducible rfl)
  (try simp only [Act.put, List.setIfInBounds_toArray, List.set_cons_zero, List.set_cons_succ])
  refine PlanT.take0 (v := ?vS126) (by kernel_rfl) ?yS126 ?rS126
  case yS126 => (intro wz hz; have kc1 := (hz.cell (p := ⟨fb, fo + 1, none⟩) HLT.out).trans HC1.out; clear hz; go_simp; try with_reducible rfl)
  (try simp only [Act.put, List.setIfInBounds_toArray, List.set_cons_zero, List.set_cons_succ])
  refine PlanT.take0 (v := ?vS127) (by kernel_rfl) ?yS127 ?rS127
  case yS127 => (intro wz hz; have kc1 := (hz.cell (p := ⟨fb, fo + 1, none⟩) HLT.out).trans HC1.out; clear hz; go_simp; try with_reducible rfl)
  (try simp only [Act.put, List.setIfInBounds_toArray, List.set_cons_zero, List.set_cons_succ])
  refine PlanT.exec2 (fun K hK => ⟨by kernel_rfl, ?_⟩)
  go_simp
  refine (HCL.out _ _ (H9.out)).mono ?_
  rintro e w10 ⟨rfl, rfl⟩
  have hb11 : Below w9.heap.size w9 w9 := Below.refl _ _
  refine hK.out _ _ hb11 hb11 ?_
  clear hK K
  (try simp only [Act.put, List.setIfInBounds_toArray, List.set_cons_zero, List.set_cons_succ])
  refine PlanT.take0 (v := ?vS129) (by kernel_rfl) ?yS129 ?rS129
  case yS129 => (intro wz hz; have kc1 := (hz.cell (p := ⟨fb, fo + 1, none⟩) HLT.out).trans HC1.out; clear hz; go_simp; try with_reducible rfl)
  (try simp only [Act.put, List.setIfInBounds_toArray, List.set_cons_zero, List.set_cons_succ])
  refine PlanT.take0 (v := ?vS130) (by kernel_rfl) ?yS130 ?rS130
  case yS130 => (intro wz hz; have kc1 := (hz.cell (p := ⟨fb, fo + 1, none⟩) HLT.out).trans HC1.out; clear hz; go_simp; try with_reducible rfl)
  (try simp only [Act.put, List.setIfInBounds_toArray, List.set_cons_zero, List.set_cons_succ])
  refine PlanT.take0 (v := ?vS131) (by kernel_rfl) ?yS131 ?rS131
  case yS131 => (intro wz hz; have kc1 := (hz.cell (p := ⟨fb, fo + 1, none⟩) HLT.out).trans HC1.out; clear hz; go_simp; try with_reducible rfl)
  (try simp only [Act.put, List.setIfInBounds_toArray, List.set_cons_zero, List.set_cons_succ])
  refine PlanT.exec2 (fun K hK => ⟨by kernel_rfl, ?_⟩)
  go_simp
  refine (awake4_any w9).mono ?_
  rintro e w15 ⟨rfl, B15⟩
  refine hK.out _ _ B15 B15 ?_
  clear hK K
  (try simp only [Act.put, List.setIfInBounds_toArray, List.set_cons_zero, List.set_cons_succ])
  refine PlanT.take0 (v := ?vS133) (by kernel_rfl) ?yS133 ?rS133
  case yS133 => (intro wz hz; have kc1 := (hz.cell (p := ⟨fb, fo + 1, none⟩) HLT.out).trans HC1.out; clear hz; go_simp; try with_reducible rfl)
  (try simp only [Act.put, List.setIfInBounds_toArray, List.set_cons_zero, List.set_cons_succ])
  refine PlanT.take0 (v := ?vS134) (by kernel_rfl) ?yS134 ?rS134
  case yS134 => (intro wz hz; have kc1 := (hz.cell (p := ⟨fb, fo + 1, none⟩) HLT.out).trans HC1.out; clear hz; go_simp; try with_reducible rfl)
  (try simp only [Act.put, List.setIfInBounds_toArray, List.set_cons_zero, List.set_cons_succ])
  refine PlanT.done (NoPanic.normal ?_)
  go_wp2
  go_ret
  exact ⟨rfl, H9.out.below.trans (Kept.below (Kept.of B15 (R := fun k => k < w9.heap.size) fun _ h => h) fun k hk => Nat.lt_of_lt_of_le hk H9.out.below.size)⟩

set_option maxRecDepth 100000 in
set_option maxHeartbeats 8000000 in
set_option linter.unusedSimpArgs false in
theorem diskSafe_walk (v0 : Value) (l0 : List UInt8) (v1 : Value) (l1 : List UInt8) (keep names : Int) (v2 : Value) (l2 : List UInt8) (W : World) (h0 : RdB W v0 l0) (h1 : RdB W v1 l1) (hk : (Lit.int .i64 keep).wf = true) (hw : (Lit.int .i64 names).wf = true) (h2 : RdB W v2 l2) :
    Calls Try.prog 4 #[v0, v1, .int .i64 keep, .int .i64 names, v2] W fun e w' => e = .returned (.bool true) ∧ Below W.heap.size W w' := by
  have k0 := h0
  have k1 := h1
  have k2 := h2
  obtain ⟨a0, c0, rfl, _, _⟩ := RdB.form h0
  obtain ⟨a1, c1, rfl, _, _⟩ := RdB.form h1
  obtain ⟨a2, c2, rfl, _, _⟩ := RdB.form h2
  obtain ⟨K, hK⟩ := Int.eq_ofNat_of_zero_le (show 0 ≤ max 0 keep by omega)
  obtain ⟨M, hM⟩ := Int.eq_ofNat_of_zero_le (show 0 ≤ max 0 names by omega)
  by_cases q0 : l0.length ≤ 500
  · by_cases q1 : l1.length ≤ 500
    · by_cases q2 : l2.length ≤ 500
      · have hM2 : M % 2 = 0 ∨ M % 2 = 1 := by omega
        rcases hM2 with h | h
        · exact safe_0 a0 a1 a2 c0 c1 c2 l0 l1 l2 keep names W k0 k1 k2 q0 q1 q2 hk hw K M _ hK hM rfl h
        · exact safe_1 a0 a1 a2 c0 c1 c2 l0 l1 l2 keep names W k0 k1 k2 q0 q1 q2 hk hw K M _ hK hM rfl h
      · clear h0 h1 h2 k0 k1 k2 hK hM
        go_enter Try.func4, Try.ntmps4
        go_wp2_with (go_at_call 14; (with_reducible refine (awake4_any _).mono ?_); rintro e w15 ⟨rfl, B15⟩)
        go_ret
        exact ⟨rfl, B15⟩
    · clear h0 h1 h2 k0 k1 k2 hK hM
      go_enter Try.func4, Try.ntmps4
      go_wp2_with (go_at_call 14; (with_reducible refine (awake4_any _).mono ?_); rintro e w15 ⟨rfl, B15⟩)
      go_ret
      exact ⟨rfl, B15⟩
  · clear h0 h1 h2 k0 k1 k2 hK hM
    go_enter Try.func4, Try.ntmps4
    go_wp2_with (go_at_call 14; (with_reducible refine (awake4_any _).mono ?_); rintro e w15 ⟨rfl, B15⟩)
    go_ret
    exact ⟨rfl, B15⟩
end Go.Proofs.Ytaljebhiacglpaa
