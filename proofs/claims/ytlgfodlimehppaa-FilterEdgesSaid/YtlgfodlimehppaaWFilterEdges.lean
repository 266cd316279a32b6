/-
  The walk of FilterEdges.
-/
import Derived.Test.YtlgfodlimehppaaFilC
import Derived.Test.YtlgfodlimehppaaCells
namespace Go.Proofs.Ytlgfodlimehppaa
open Go.RowKit Ieee

theorem rd_one (w : World) (s : Value) (e : TypeId) : Rd (w.alloc (.cells #[s] e)) 1 (.slice (some ⟨w.heap.size, 0, none⟩) 1 1) 1 [s] := by
  refine ⟨_, _, rfl, Nat.le_refl _, by decide, rfl, .inr ⟨w.heap.size, 0, rfl, ?_, ?_⟩⟩
  · exact blk_lt (heap_alloc_new w (.cells #[s] e))
  · intro j u hj
    have hj0 : j = 0 := by
      rcases j with _ | j
      · rfl
      · cases hj
    subst hj0
    cases hj
    exact blk_cell (i := 0) (heap_alloc_new w (.cells #[s] e))

set_option maxRecDepth 100000 in
set_option maxHeartbeats 8000000 in
theorem edges_fork (HP : ProbesC) (HM : MakeC) (a b : Nat) (W : World) (wa : (Lit.float .f64 a).wf = true) (wb : (Lit.float .f64 b).wf = true) (o : Option Ordering) (ho : FloatKind.f64.format.order a b = o) (hp : o = some .lt ∨ o = some .eq → probesW a ≤ probesW b) :
    Calls Try.prog 5 #[.float .f64 a, .float .f64 b] W fun r w' => r = .returned (.bool true) ∧ Below W.heap.size W w' := by
  have pa := probesW_le a
  have pb := probesW_le b
  have HA := Lib.hid (HP a wa)
  have HB := Lib.hid (HP b wb)
  have K1 := Lib.hid (HP nanD (by decide))
  rw [show probesW nanD = 0 from probesW_none (by decide)] at K1
  have K2 := Lib.hid (HP nzeroD (by decide))
  rw [show probesW nzeroD = 0 from probesW_none (by decide)] at K2
  have K3 := Lib.hid (HP ninfD (by decide))
  rw [show probesW ninfD = 0 from probesW_none (by decide)] at K3
  have K4 := Lib.hid (HP oneD (by decide))
  rw [probesW_one] at K4
  have K5 := Lib.hid (HP 4607182418800017407 (by decide))
  rw [show probesW 4607182418800017407 = 0 from probesW_none (by decide)] at K5
  have K6 := Lib.hid (HP 9094988921128908188 (by decide))
  rw [show probesW 9094988921128908188 = 12 from probesW_most (by decide) (by decide)] at K6
  have HMK := Lib.hid (HM _ [⟨#[120]⟩] a wa _ (rd_one W (.string ⟨#[120]⟩) 9) (by simp; decide) (by decide))
  have HAW := Lib.hid (awake11_any HP)
  have HL := makeL_nil (b := a) (hs := hashes [⟨#[120]⟩])
  generalize makeL (hashes [⟨#[120]⟩]) a = F at *
  generalize probesW a = n at *
  generalize probesW b = k at *
  have HW := Lib.hid ((Below.refl W.heap.size W).alloc (Nat.le_refl _) (.cells #[.string ⟨#[120]⟩] 9))
  obtain ⟨W0, hW0⟩ : ∃ W0, W0 = W := ⟨_, rfl⟩
  by_cases hz : n = 0
  · have hl := HL.2 hz
    subst hz
    have HFL := Lib.hid hl
    clear HL hl
    rcases o with _ | _ | _ | _
    all_goals go_enter Try.func5, Try.ntmps5
    all_goals go_wp2_with (first | (go_at_call 16; (with_reducible refine (mathInf_neg _).mono ?_); rintro e w1 ⟨rfl, rfl⟩) | (go_at_call 15; (with_reducible refine (mathNaN_any _).mono ?_); rintro e w1 ⟨rfl, rfl⟩) | (go_at_call 17; (with_reducible refine (mathCopysign_nought _).mono ?_); rintro e w1 ⟨rfl, rfl⟩) | (go_at_call 18; (with_reducible refine (mathNextafter_one _).mono ?_); rintro e w1 ⟨rfl, rfl⟩) | (go_at_call 9; first | ((with_reducible refine (HA.out _).mono ?_); rintro e w1 ⟨rfl, rfl⟩) | ((with_reducible refine (HB.out _).mono ?_); rintro e w1 ⟨rfl, rfl⟩) | ((with_reducible refine (K1.out _).mono ?_); rintro e w1 ⟨rfl, rfl⟩) | ((with_reducible refine (K2.out _).mono ?_); rintro e w1 ⟨rfl, rfl⟩) | ((with_reducible refine (K3.out _).mono ?_); rintro e w1 ⟨rfl, rfl⟩) | ((with_reducible refine (K4.out _).mono ?_); rintro e w1 ⟨rfl, rfl⟩) | ((with_reducible refine (K5.out _).mono ?_); rintro e w1 ⟨rfl, rfl⟩) | ((with_reducible refine (K6.out _).mono ?_); rintro e w1 ⟨rfl, rfl⟩)) | (go_at_call 11; (with_reducible refine HMK.out.mono ?_); rintro e w1 ⟨v, rfl, h1, h2⟩; obtain ⟨va, vc, rfl, _, _⟩ := h1.read.form; rw [HFL.out]; have HB1 := Lib.hid h2; clear h1 h2) | (go_at_call 8; (with_reducible refine (HAW.out _).mono ?_); rintro e w2 ⟨rfl, rfl⟩))
    all_goals go_ret
    all_goals exact ⟨rfl, belowT HW.out HB1.out⟩
  · obtain ⟨m, hm⟩ : ∃ m, F.length = m + 1 := ⟨F.length - 1, by
      have : F.length ≠ 0 := fun h => hz (HL.1 h)
      omega⟩
    have hz' : ((n : Int) == 0) = false := by
      have : (n : Int) ≠ 0 := by omega
      simpa using this
    have hm' : ((m : Int) + 1 == 0) = false := by
      have : (m : Int) + 1 ≠ 0 := by omega
      simpa using this
    have HFL := Lib.hid hm
    clear HL hm
    have hp' : (o = some .lt ∨ o = some .eq) → (n : Int) ≤ (k : Int) := fun h => by have := hp h; omega
    clear hp
    have hlt : (o = some .lt) → (n : Int) ≤ (k : Int) := fun h => hp' (.inl h)
    have heq : (o = some .eq) → (n : Int) ≤ (k : Int) := fun h => hp' (.inr h)
    clear hp'
    rcases o with _ | _ | _ | _
    all_goals simp only [reduceCtorEq, Option.some.injEq, false_implies, forall_const] at hlt heq
    all_goals go_enter Try.func5, Try.ntmps5
    all_goals go_wp2_with (first | (go_at_call 16; (with_reducible refine (mathInf_neg _).mono ?_); rintro e w1 ⟨rfl, rfl⟩) | (go_at_call 15; (with_reducible refine (mathNaN_any _).mono ?_); rintro e w1 ⟨rfl, rfl⟩) | (go_at_call 17; (with_reducible refine (mathCopysign_nought _).mono ?_); rintro e w1 ⟨rfl, rfl⟩) | (go_at_call 18; (with_reducible refine (mathNextafter_one _).mono ?_); rintro e w1 ⟨rfl, rfl⟩) | (go_at_call 9; first | ((with_reducible refine (HA.out _).mono ?_); rintro e w1 ⟨rfl, rfl⟩) | ((with_reducible refine (HB.out _).mono ?_); rintro e w1 ⟨rfl, rfl⟩) | ((with_reducible refine (K1.out _).mono ?_); rintro e w1 ⟨rfl, rfl⟩) | ((with_reducible refine (K2.out _).mono ?_); rintro e w1 ⟨rfl, rfl⟩) | ((with_reducible refine (K3.out _).mono ?_); rintro e w1 ⟨rfl, rfl⟩) | ((with_reducible refine (K4.out _).mono ?_); rintro e w1 ⟨rfl, rfl⟩) | ((with_reducible refine (K5.out _).mono ?_); rintro e w1 ⟨rfl, rfl⟩) | ((with_reducible refine (K6.out _).mono ?_); rintro e w1 ⟨rfl, rfl⟩)) | (go_at_call 11; (with_reducible refine HMK.out.mono ?_); rintro e w1 ⟨v, rfl, h1, h2⟩; obtain ⟨va, vc, rfl, _, _⟩ := h1.read.form; rw [HFL.out]; have HB1 := Lib.hid h2; clear h1 h2) | (go_at_call 8; (with_reducible refine (HAW.out _).mono ?_); rintro e w2 ⟨rfl, rfl⟩))
    all_goals go_ret
    all_goals exact ⟨rfl, belowT HW.out HB1.out⟩

theorem filterEdges_walkC (HP : ProbesC) (HM : MakeC) (a b : Nat) (W : World) (wa : (Lit.float .f64 a).wf = true) (wb : (Lit.float .f64 b).wf = true) :
    Calls Try.prog 5 #[.float .f64 a, .float .f64 b] W fun r w' => r = .returned (.bool true) ∧ Below W.heap.size W w' :=
  edges_fork HP HM a b W wa wb _ rfl (probes_ordered (a := a) (b := b) (by simpa [Lit.wf] using wa) (by simpa [Lit.wf] using wb))
end Go.Proofs.Ytlgfodlimehppaa
