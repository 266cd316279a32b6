/-
  What is landed of package filter: how often a filter is asked, for every word.
-/
import Derived.Test.YtlgfodlimehppaaFilC
namespace Go.Proofs.Ytlgfodlimehppaa
open Go.RowKit Ieee

theorem wrap_word {b : Nat} (hb : b < 2 ^ 64) : IntKind.i64.wrap (b : Int) = if b < nzeroD then (b : Int) else (b : Int) - 18446744073709551616 := by
  unfold nzeroD
  by_cases h : b < 9223372036854775808
  · rw [if_pos h]; exact IntWalk.i64_in _ (by omega)
  · rw [if_neg h]
    rw [show (b : Int) = ((b : Int) - 18446744073709551616) + 18446744073709551616 by omega]
    have e : ∀ x : Int, IntKind.i64.wrap (x + 18446744073709551616) = IntKind.i64.wrap x := by
      intro x
      unfold IntKind.wrap
      simp [IntKind.bits, IntKind.signed]
    rw [e, IntWalk.i64_in _ (by omega)]
    omega

set_option maxRecDepth 100000 in
theorem signbit_any {b : Nat} (hb : b < 2 ^ 64) (w : World) : Calls Try.prog 20 #[.float .f64 b] w fun e w' => e = .returned (.bool (decide (nzeroD ≤ b))) ∧ w = w' := by
  have hbt := run_bits64
  have hw := wrap_word hb
  by_cases h : b < nzeroD
  · rw [if_pos h] at hw
    rw [show decide (nzeroD ≤ b) = false by simpa using h]
    obtain ⟨z, hz⟩ : ∃ z, IntKind.i64.wrap (b : Int) = z := ⟨_, rfl⟩
    have hzn : ¬ z < 0 := by omega
    clear hw h hb
    go_enter Try.func20, Try.ntmps20
    go_wp2
    go_ret
    exact ⟨rfl, rfl⟩
  · rw [if_neg h] at hw
    rw [show decide (nzeroD ≤ b) = true by simpa using h]
    obtain ⟨z, hz⟩ : ∃ z, IntKind.i64.wrap (b : Int) = z := ⟨_, rfl⟩
    have hzn : z < 0 := by omega
    clear hw h hb
    go_enter Try.func20, Try.ntmps20
    go_wp2
    go_ret
    exact ⟨rfl, rfl⟩

set_option maxRecDepth 100000 in
theorem isInf_one {b : Nat} (h2 : b ≤ infD) (w : World) : Calls Try.prog 21 #[.float .f64 b, .int .i64 1] w fun e w' => e = .returned (.bool (b == infD)) ∧ w = w' := by
  have ho : FloatKind.f64.format.order b 9218868437227405311 = some (compare b 9218868437227405311) := order_words h2 (by decide)
  rw [compare_nat] at ho
  by_cases hb : b = infD
  · subst hb
    rw [if_neg (by decide), if_neg (by decide)] at ho
    rw [show (infD == infD) = true from rfl]
    go_enter Try.func21, Try.ntmps21
    go_wp2
    go_ret
    exact ⟨rfl, rfl⟩
  · have hg : (FloatKind.f64.format.order b 9218868437227405311 == some .gt) = false := by
      rw [ho]
      have : b ≤ 9218868437227405311 := by unfold infD at hb h2; omega
      split
      · rfl
      · rw [if_pos (by omega)]; rfl
    rw [show (b == infD) = false by simpa using hb]
    clear ho hb h2
    go_enter Try.func21, Try.ntmps21
    go_wp2
    go_ret
    exact ⟨rfl, rfl⟩

set_option maxRecDepth 100000 in
set_option maxHeartbeats 2000000 in
theorem probes_any : ProbesC := by
  intro b hb w
  have hb' : b < 2 ^ 64 := by simpa [Lit.wf] using hb
  rcases probes_ways hb' with ⟨h1, h2⟩ | ⟨h1, h2, h3⟩ | ⟨h1, h2, h3⟩
  · have hn := order_nan h1 b
    rw [h2]
    have HN := Lib.hid (isNaN_any b)
    rw [hn] at HN
    clear h1 h2 hb hb' hn
    go_enter Try.func9, Try.ntmps9
    go_wp2_with (go_at_call 19; (refine (HN.out _).mono ?_); rintro e w1 ⟨rfl, rfl⟩)
    go_ret
    exact ⟨rfl, rfl⟩
  · have ho : FloatKind.f64.format.order b oneD = some .lt := h2
    have hn := order_self h1
    rw [h3]
    have HN := Lib.hid (isNaN_any b)
    rw [hn] at HN
    have HS := Lib.hid (signbit_any hb')
    clear h1 h2 h3 hb hb' hn
    cases hd : decide (nzeroD ≤ b) with
    | true =>
      rw [hd] at HS
      clear hd
      go_enter Try.func9, Try.ntmps9
      go_wp2_with (first | (go_at_call 19; (refine (HN.out _).mono ?_); rintro e w1 ⟨rfl, rfl⟩) | (go_at_call 20; (refine (HS.out _).mono ?_); rintro e w1 ⟨rfl, rfl⟩))
      go_ret
      exact ⟨rfl, rfl⟩
    | false =>
      rw [hd] at HS
      clear hd
      go_enter Try.func9, Try.ntmps9
      go_wp2_with (first | (go_at_call 19; (refine (HN.out _).mono ?_); rintro e w1 ⟨rfl, rfl⟩) | (go_at_call 20; (refine (HS.out _).mono ?_); rintro e w1 ⟨rfl, rfl⟩))
      go_ret
      exact ⟨rfl, rfl⟩
  · have hn := order_self h3
    have HN := Lib.hid (isNaN_any b)
    rw [hn] at HN
    have HS := Lib.hid (signbit_any hb')
    rw [show decide (nzeroD ≤ b) = false by simp; unfold nzeroD; unfold infD at h2; omega] at HS
    have HI := Lib.hid (isInf_one h2)
    have ho : (FloatKind.f64.format.order b oneD == some .lt) = false := by
      have : FloatKind.f64.format.order b oneD = some (compare b oneD) := order_words h2 (by decide)
      rw [this]
      have : compare b oneD ≠ .lt := by
        show compareOfLessAndEq b oneD ≠ .lt
        unfold compareOfLessAndEq
        rw [if_neg (by omega)]
        split <;> decide
      simpa using this
    by_cases hbi : b = infD
    · rw [show (b == infD) = true by simpa using hbi] at HI
      rw [show probesW b = 12 by rw [hbi]; exact probes_inf]
      clear hbi h1 h2 h3 hb hb' hn
      go_enter Try.func9, Try.ntmps9
      go_wp2_with (first | (go_at_call 19; (refine (HN.out _).mono ?_); rintro e w1 ⟨rfl, rfl⟩) | (go_at_call 20; (refine (HS.out _).mono ?_); rintro e w1 ⟨rfl, rfl⟩) | (go_at_call 21; (refine (HI.out _).mono ?_); rintro e w1 ⟨rfl, rfl⟩))
      go_ret
      exact ⟨rfl, rfl⟩
    · rw [show (b == infD) = false by simpa using hbi] at HI
      obtain ⟨r, hr, hrn, hrw⟩ := seven_times h1 h2
      have hmul : ∀ (t : TypeId) (w : World), (binOp .mul t (.float .f64 sevenD) (.float .f64 b)).run Try.prog w = .ok (.float .f64 r) w := fun t w => run_float_arith w .mul t .f64 sevenD b r hr
      have HF := Lib.hid (floor_any hrn)
      have e12 : wordN 12 = 4622945017495814144 := by decide
      have e1 : wordN 1 = oneD := by decide
      obtain ⟨W, hW⟩ : ∃ W, W = double.write ((double.read r).integral .down) := ⟨_, rfl⟩
      have hfin : W ≤ infD ∧ min (max W (wordN 1)) (wordN 12) = wordN (probesW b) ∧ probesW b ≤ 12 := by
        rcases hrw with ⟨g1, g2⟩ | ⟨k, g1, g2⟩
        · rw [hW, g1, g2, Nat.max_eq_left (wordN_le 1), Nat.min_eq_right (wordN_le 12)]
          exact ⟨Nat.le_refl _, rfl, by omega⟩
        · rw [hW, g1, g2, max_wordN, min_wordN]
          exact ⟨wordN_le k, by congr 1; omega, by omega⟩
      rw [← hW] at HF
      have hmax := fun ts t w => run_max_words (P := Try.prog) hfin.1 (wordN_le 1) ts t w
      have hmin := fun ts t w => run_min_words (P := Try.prog) (show max W (wordN 1) ≤ infD from Nat.max_le.2 ⟨hfin.1, wordN_le 1⟩) (wordN_le 12) ts t w
      have hcv := fun w => run_convert_float_int (P := Try.prog) w 23 3 .f64 .i64 (wordN (probesW b)) _ (by kernel_rfl) Try.underlying3 (toInt_wordN (by have := hfin.2.2; omega))
      rw [hfin.2.1] at hmin
      rw [e12] at hmin
      rw [e1] at hmax hmin
      generalize wordN (probesW b) = m2 at *
      generalize max W oneD = m1 at *
      clear hb hb' hn hr hrn hrw hW hfin e12 e1 hbi h1 h2 h3
      go_enter Try.func9, Try.ntmps9
      go_wp2_with (first | (go_at_call 19; (refine (HN.out _).mono ?_); rintro e w1 ⟨rfl, rfl⟩) | (go_at_call 20; (refine (HS.out _).mono ?_); rintro e w1 ⟨rfl, rfl⟩) | (go_at_call 21; (refine (HI.out _).mono ?_); rintro e w1 ⟨rfl, rfl⟩) | (go_at_call 22; (refine (HF.out _).mono ?_); rintro e w1 ⟨rfl, rfl⟩))
      go_ret
      exact ⟨rfl, rfl⟩
end Go.Proofs.Ytlgfodlimehppaa
