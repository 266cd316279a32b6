/-
  The walk of FilterHas.
-/
import Derived.Test.YtlgfodlimehppaaFilGreat
import Derived.Test.YtlgfodlimehppaaOpenS
import Derived.Test.YtlgfodlimehppaaRegion
namespace Go.Proofs.Ytlgfodlimehppaa
open Go.RowKit Ieee

/-- The numbers that FilterHas asks with. -/
def nine (b : Nat) : List Nat := [b, nanD, infD, ninfD, nzeroD, 0, oneD, 1, 9214871658872686752]
theorem nine_wf {b : Nat} (h : (Lit.float .f64 b).wf = true) (k : Nat) (hk : k < 9) : (Lit.float .f64 ((nine b).getD k 0)).wf = true := by
  rcases (show k = 0 ∨ k = 1 ∨ k = 2 ∨ k = 3 ∨ k = 4 ∨ k = 5 ∨ k = 6 ∨ k = 7 ∨ k = 8 by omega) with rfl | rfl | rfl | rfl | rfl | rfl | rfl | rfl | rfl
  · exact h
  all_goals rfl

set_option maxRecDepth 100000 in
set_option maxHeartbeats 8000000 in
theorem filterHas_walkC (HP : ProbesC) (HM : MakeC) (HY : MayC) (v0 : Value) (l : List ByteArray) (b : Nat) (W : World) (w0 : RdS W v0 l) (wb : (Lit.float .f64 b).wf = true) :
    Calls Try.prog 4 #[v0, .float .f64 b] W fun r w' => r = .returned (.bool true) ∧ Below W.heap.size W w' := by
  obtain ⟨va, vc, rfl, hc1, hc2⟩ : ∃ a c, v0 = .slice a l.length c ∧ l.length ≤ c ∧ c ≤ maxLen := by obtain ⟨a, c, h, h1, h2, _⟩ := w0.1; exact ⟨a, c, h, h1, h2⟩
  have HG := Lib.hid (great_any _ l W w0.1 w0.2)
  have HAW := Lib.hid (awake11_any HP)
  have HL := Lib.hid w0
  have HWB := Lib.hid wb
  have HMc := Lib.hid (fun (b : Nat) (wb : (Lit.float .f64 b).wf = true) v w h1 h2 h3 => HM v l b wb w h1 h2 h3)
  clear w0 
  go_enter Try.func4, Try.ntmps4
  go_wp2_with (first | (go_at_call 7; (with_reducible refine HG.out.mono ?_); rintro e w1 ⟨⟨g, rfl, hg⟩, rfl⟩; cases g) | (go_at_call 8; (with_reducible refine (HAW.out _).mono ?_); rintro e w2 ⟨rfl, rfl⟩) | (go_at_call 16; first | ((with_reducible refine (mathInf_neg _).mono ?_); rintro e w1 ⟨rfl, rfl⟩) | ((with_reducible refine (mathInf_one _).mono ?_); rintro e w1 ⟨rfl, rfl⟩)) | (go_at_call 15; (with_reducible refine (mathNaN_any _).mono ?_); rintro e w1 ⟨rfl, rfl⟩) | (go_at_call 17; (with_reducible refine (mathCopysign_nought _).mono ?_); rintro e w1 ⟨rfl, rfl⟩))
  rotate_left
  · go_ret
    exact ⟨rfl, Below.refl _ _⟩
  have HLN := Lib.hid (show l.length ≤ 80 from hg trivial)
  obtain ⟨W1, hW1⟩ : ∃ W1, W1 = W.alloc (.cells #[.float .f64 b, .float .f64 nanD, .float .f64 infD, .float .f64 ninfD, .float .f64 nzeroD, .float .f64 0, .float .f64 4607182418800017408, .float .f64 1, .float .f64 9214871658872686752] 23) := ⟨_, rfl⟩
  rw [← hW1]
  have HE1 : Hid (Below W.heap.size W W1) := Lib.hid (by rw [hW1]; exact (Below.refl _ _).alloc (Nat.le_refl _) _)
  have hblk : W1.heap[W.heap.size]? = some (.cells #[.float .f64 b, .float .f64 nanD, .float .f64 infD, .float .f64 ninfD, .float .f64 nzeroD, .float .f64 0, .float .f64 4607182418800017408, .float .f64 1, .float .f64 9214871658872686752] 23 (0, 0)) := by rw [hW1]; exact heap_alloc_new W _
  have HLT := Lib.hid (blk_lt hblk)
  have HCELL : Hid (∀ k, k < 9 → W1.cell? ⟨W.heap.size, k, none⟩ = some (.float .f64 ((nine b).getD k 0))) := Lib.hid (by
    intro k hk
    rw [blk_cell (i := k) hblk]
    rcases (show k = 0 ∨ k = 1 ∨ k = 2 ∨ k = 3 ∨ k = 4 ∨ k = 5 ∨ k = 6 ∨ k = 7 ∨ k = 8 by omega) with rfl | rfl | rfl | rfl | rfl | rfl | rfl | rfl | rfl <;> rfl)
  have HNW := Lib.hid (nine_wf wb)
  clear hblk hW1 hg
  go_loopw [6] (fun i wr => ∃ k : Nat, k ≤ 9 ∧ i = .int .i64 (k : Int) ∧ Hid (Below W1.heap.size W1 wr)) (fun i _ => 9 - (intOf i).toNat)
  case atStart => exact ⟨0, by omega, rfl, Lib.hid (Below.refl _ _)⟩
  case round =>
    obtain ⟨i, hi, rfl, HB⟩ := hrel
    by_cases hin : i < 9
    · have hc := (HB.out.cell (p := ⟨W.heap.size, i, none⟩) HLT.out).trans (HCELL.out i hin)
      have hbw := HNW.out i hin
      have hi9 : (i : Int) < 9 := by omega
      generalize (nine b).getD i 0 = x at *
      have HMK := Lib.hid (HMc.out x hbw _ wr ((HL.out.1.below HE1.out (Nat.le_refl _)).below HB.out (Nat.le_refl _)) HL.out.2 (by have := HLN.out; omega))
      clear hbw
      go_wp2_with (go_at_call 11; (with_reducible refine HMK.out.mono ?_); rintro e w2 ⟨v, rfl, ho, hb2⟩; (have HO := Lib.hid ho.read); (have HB2 := Lib.hid hb2); clear ho hb2)
      have HV2 := Lib.hid (((HL.out.1.below HE1.out (Nat.le_refl _)).below HB.out (Nat.le_refl _)).below HB2.out (Nat.le_refl _))
      have HB3 := Lib.hid (belowT HB.out HB2.out)
      have HF := Lib.hid (makeL_few (hashes l) x (by unfold hashes; rw [List.length_map]; have := HLN.out; omega))
      have HHAS := Lib.hid (fun k (hk : k ∈ hashes l) => makeL_has x hk)
      generalize makeL (hashes l) x = F at *
      have HYc := Lib.hid (fun key wk w h => HY v F key wk w h HF.out)
      obtain ⟨wa, hwa⟩ : ∃ wa, wa = wr := ⟨_, rfl⟩
      subst hwa
      go_loopw [8] (fun j wq => ∃ k : Nat, k ≤ l.length ∧ j = .int .i64 (k : Int) ∧ Hid (Below w2.heap.size w2 wq)) (fun j _ => l.length - (intOf j).toNat)
      case atStart => exact ⟨0, Nat.zero_le _, rfl, Lib.hid (Below.refl _ _)⟩
      case round =>
        obtain ⟨k, hk, rfl, HX⟩ := hrel
        have hl80 := HLN.out
        by_cases hlt : k < l.length
        · obtain ⟨sb, so, rfl, hsb, hsc⟩ := rd_str (HV2.out.below HX.out (Nat.le_refl _)) hlt
          have HC := Lib.hid (HYc.out (l.getD k ⟨#[]⟩) (HL.out.2 _ (by simp only [List.getD, List.getElem?_eq_getElem hlt, Option.getD_some]; exact List.getElem_mem hlt)) wr (HO.out.below HX.out (Nat.le_refl _)))
          rw [HHAS.out _ (hashes_mem hlt)] at HC
          generalize l.getD k ⟨#[]⟩ = str at *
          go_wp2_with (go_at_call 13; (with_reducible refine HC.out.mono ?_); rintro e w3 ⟨rfl, hb3⟩)
          exact ⟨⟨k + 1, hlt, by go_num, Lib.hid (belowT HX.out hb3)⟩, by simp [intOf]; omega⟩
        · have hke : ¬ (k : Int) < (l.length : Int) := by omega
          go_wp2
          exact ⟨⟨i + 1, hin, by go_num, Lib.hid (belowT HB3.out HX.out)⟩, by simp [intOf]; omega⟩
    · have hie : ¬ (i : Int) < 9 := by omega
      go_wp2_with (go_at_call 8; (with_reducible refine (HAW.out _).mono ?_); rintro e w2 ⟨rfl, rfl⟩)
      go_ret
      exact ⟨rfl, belowT HE1.out HB.out⟩
end Go.Proofs.Ytlgfodlimehppaa
