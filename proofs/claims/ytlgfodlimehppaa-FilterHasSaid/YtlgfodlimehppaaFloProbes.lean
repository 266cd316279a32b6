/-
  math.Floor, math.IsNaN; what the document's Probes does, for every word.
-/
import Derived.Test.YtlgfodlimehppaaFloSmall
import Derived.Test.YtlgfodlimehppaaWords
import Derived.WalkLawsBesides
import Derived.Laws.Externs
namespace Go.Proofs.Ytlgfodlimehppaa
open Go.RowKit Ieee

/-- What math.archFloor does, by what its word stands for. -/
noncomputable def archF (b : Nat) (d : Datum) : Sem Value :=
  Datum.casesOn d (fun s m i => pure (.float .f64 (FloatKind.f64.encode ((Datum.number s m i).integral .down)))) (fun s => pure (.float .f64 (FloatKind.f64.encode ((Datum.infinity s).integral .down))))
    fun s t => if FloatKind.f64.format.quiet t = t then pure (.float .f64 b) else do
      let kept ← choose (.extern "math.Floor,Ceil,Trunc,RoundToEven.signallingNaN kept" 2)
      pure (.float .f64 (if kept == 1 then b else FloatKind.f64.encode (.nan s (FloatKind.f64.format.quiet t))))
theorem archF_eq (b : Nat) : Extern.MathFloor.toIntegral "math.archFloor" .down #[.float .f64 b] = archF b (FloatKind.f64.decode b) := by
  show (match FloatKind.f64.decode b with
    | .nan s t => _
    | d => _) = _
  cases FloatKind.f64.decode b <;> rfl

set_option maxRecDepth 100000 in
theorem run_archFloor {b : Nat} (h : ∀ s t, double.read b ≠ .nan s t) (w : World) : (callFunc 32 #[.float .f64 b]).run Try.prog w = .ok (.value (.float .f64 (double.write ((double.read b).integral .down)))) w := by
  rw [run_callFunc_extern (e := Extern.MathFloor.toIntegral "math.archFloor" .down) Try.func32 (by kernel_rfl) (by kernel_rfl) (by kernel_rfl) (by kernel_rfl), archF_eq]
  have e : FloatKind.f64.decode b = double.read b := rfl
  rw [e]
  cases hr : double.read b with
  | nan s t => exact absurd hr (h s t)
  | number s m i => rfl
  | infinity s => rfl

set_option maxRecDepth 100000 in
theorem floor_any {b : Nat} (h : ∀ s t, double.read b ≠ .nan s t) (w : World) : Calls Try.prog 22 #[.float .f64 b] w fun e w' => e = .returned (.float .f64 (double.write ((double.read b).integral .down))) ∧ w = w' := by
  have hfl := run_archFloor h
  generalize double.write ((double.read b).integral .down) = r at *
  clear h
  go_enter Try.func22, Try.ntmps22
  go_wp2
  go_ret
  exact ⟨rfl, rfl⟩

set_option maxRecDepth 100000 in
theorem isNaN_any (b : Nat) (w : World) : Calls Try.prog 19 #[.float .f64 b] w fun e w' => e = .returned (.bool (double.order b b != some .eq)) ∧ w = w' := by
  go_enter Try.func19, Try.ntmps19
  go_wp2
  go_ret
  exact ⟨rfl, rfl⟩

theorem order_nan {b : Nat} (h : ∃ s t, double.read b = .nan s t) (c : Nat) : double.order b c = none := by
  obtain ⟨s, t, h⟩ := h
  unfold Format.order
  rw [h]
  rfl
theorem order_self {b : Nat} (h : ∀ s t, double.read b ≠ .nan s t) : double.order b b = some .eq := by
  unfold Format.order
  cases hr : double.read b with
  | nan s t => exact absurd hr (h s t)
  | number s m i =>
    unfold Datum.order
    simp only
    congr 1
    show compareOfLessAndEq (signed s m (i - min i i).toNat) (signed s m (i - min i i).toNat) = .eq
    unfold compareOfLessAndEq
    rw [if_neg (Int.lt_irrefl _), if_pos rfl]
  | infinity s =>
    unfold Datum.order
    simp only
    cases s <;> rfl

/-- 0.7 as a word. -/
abbrev sevenD : Nat := 4604480259023595110
/-- How often a filter is asked. -/
def probesW (b : Nat) : Nat := if oneD ≤ b ∧ b ≤ infD then max 1 (min 12 (if b = infD then 12 else wholeD (mulR sevenD b))) else 0

/-- A word in one of three ways: no number; below one; one or more. -/
theorem probes_ways {b : Nat} (h : b < 2 ^ 64) : ((∃ s t, double.read b = .nan s t) ∧ probesW b = 0) ∨ ((∀ s t, double.read b ≠ .nan s t) ∧ double.order b oneD = some .lt ∧ probesW b = 0) ∨ (oneD ≤ b ∧ b ≤ infD ∧ (∀ s t, double.read b ≠ .nan s t)) := by
  have key : ∀ r, r < infD → ∀ s t, double.read r ≠ .nan s t := fun r hr s t he => by
    obtain ⟨m, i, e1, _, _⟩ := read_rung double (r := r) (by rw [infD_eq]; exact hr)
    rw [e1] at he
    cases he
  have big : ∀ s m e, (double.read b = .nan s m ∨ double.read b = .number true m e ∨ double.read b = .infinity true) → probesW b = 0 := by
    intro s m e hr
    unfold probesW
    rw [if_neg]
    rintro ⟨_, h2⟩
    rcases Nat.lt_or_ge b infD with h3 | h3
    · obtain ⟨m', i, e1, _, _⟩ := read_rung double (r := b) (by rw [infD_eq]; exact h3)
      rcases hr with hr | hr | hr <;> rw [e1] at hr <;> cases hr
    · have : b = infD := by omega
      subst this
      rcases hr with hr | hr | hr <;> rw [read_inf] at hr <;> cases hr
  rcases word_ways h with h1 | h1 | ⟨s, t, h1⟩ | ⟨m, e, h1⟩ | h1
  · rcases Nat.lt_or_ge b oneD with h2 | h2
    · refine .inr (.inl ⟨key b h1, ?_, ?_⟩)
      · rw [order_words (Nat.le_of_lt h1) (by decide)]
        congr 1
        show compareOfLessAndEq b oneD = .lt
        unfold compareOfLessAndEq
        rw [if_pos h2]
      · unfold probesW; rw [if_neg (by omega)]
    · exact .inr (.inr ⟨h2, Nat.le_of_lt h1, key b h1⟩)
  · subst h1
    exact .inr (.inr ⟨by decide, Nat.le_refl _, fun s t he => by rw [read_inf] at he; cases he⟩)
  · exact .inl ⟨⟨s, t, h1⟩, big s t 0 (.inl h1)⟩
  · exact .inr (.inl ⟨fun s t he => (by rw [h1] at he; cases he), order_neg (.inl ⟨m, e, h1⟩), big true m e (.inr (.inl h1))⟩)
  · exact .inr (.inl ⟨fun s t he => (by rw [h1] at he; cases he), order_neg (.inr h1), big true 0 0 (.inr (.inr h1))⟩)

theorem compare_nat (x y : Nat) : compare x y = if x < y then .lt else if x = y then .eq else .gt := rfl

/-- The lesser one of two words, the greater one. -/
theorem run_min_words {P : Program} {a b : Nat} (ha : a ≤ infD) (hb : b ≤ infD) (ts : Array TypeId) (t : TypeId) (w : World) : (Builtin.min_ ts t #[.float .f64 a, .float .f64 b]).run P w = .ok (.float .f64 (min a b)) w := by
  have ho : FloatKind.f64.format.order a b = some (compare a b) := order_words ha hb
  rw [compare_nat] at ho
  rcases Nat.lt_trichotomy a b with h | h | h
  · rw [if_pos h] at ho
    rw [Nat.min_eq_left (Nat.le_of_lt h)]
    simp [Builtin.min_, Builtin.min2, ho]
  · subst h
    rw [if_neg (by omega), if_pos rfl] at ho
    rw [Nat.min_self]
    simp [Builtin.min_, Builtin.min2, ho]
  · rw [if_neg (by omega), if_neg (by omega)] at ho
    rw [Nat.min_eq_right (Nat.le_of_lt h)]
    simp [Builtin.min_, Builtin.min2, ho]
theorem run_max_words {P : Program} {a b : Nat} (ha : a ≤ infD) (hb : b ≤ infD) (ts : Array TypeId) (t : TypeId) (w : World) : (Builtin.max_ ts t #[.float .f64 a, .float .f64 b]).run P w = .ok (.float .f64 (max a b)) w := by
  have ho : FloatKind.f64.format.order a b = some (compare a b) := order_words ha hb
  rw [compare_nat] at ho
  rcases Nat.lt_trichotomy a b with h | h | h
  · rw [if_pos h] at ho
    rw [Nat.max_eq_right (Nat.le_of_lt h)]
    simp [Builtin.max_, Builtin.max2, ho]
  · subst h
    rw [if_neg (by omega), if_pos rfl] at ho
    rw [Nat.max_self]
    simp [Builtin.max_, Builtin.max2, ho]
  · rw [if_neg (by omega), if_neg (by omega)] at ho
    rw [Nat.max_eq_left (Nat.le_of_lt h)]
    simp [Builtin.max_, Builtin.max2, ho]
theorem min_wordN (a b : Nat) : min (wordN a) (wordN b) = wordN (min a b) := by
  rcases Nat.le_total a b with h | h
  · rw [Nat.min_eq_left h, Nat.min_eq_left (wordN_mono h)]
  · rw [Nat.min_eq_right h, Nat.min_eq_right (wordN_mono h)]
theorem max_wordN (a b : Nat) : max (wordN a) (wordN b) = wordN (max a b) := by
  rcases Nat.le_total a b with h | h
  · rw [Nat.max_eq_right h, Nat.max_eq_right (wordN_mono h)]
  · rw [Nat.max_eq_left h, Nat.max_eq_left (wordN_mono h)]

/-- What 0.7 times a word is, down to a whole number. -/
theorem seven_times {b : Nat} (h1 : oneD ≤ b) (h2 : b ≤ infD) : ∃ r, floatBits .mul .f64 sevenD b = some r ∧ (∀ s t, double.read r ≠ .nan s t) ∧ ((double.write ((double.read r).integral .down) = infD ∧ probesW b = 12) ∨ ∃ k, double.write ((double.read r).integral .down) = wordN k ∧ probesW b = max 1 (min 12 k)) := by
  have key : ∀ r, r ≤ infD → ∀ s t, double.read r ≠ .nan s t := fun r hr s t he => by
    rcases Nat.lt_or_ge r infD with h3 | h3
    · obtain ⟨m, i, e1, _, _⟩ := read_rung double (r := r) (by rw [infD_eq]; exact h3)
      rw [e1] at he; cases he
    · have : r = infD := by omega
      subst this
      rw [read_inf] at he; cases he
  by_cases hb : b = infD
  · subst hb
    refine ⟨infD, by decide, key _ (Nat.le_refl _), .inl ⟨floor_inf, ?_⟩⟩
    unfold probesW
    rw [if_pos ⟨h1, h2⟩, if_pos rfl]
    rfl
  · have hlt : b < infD := by omega
    refine ⟨mulR sevenD b, mul_words (by decide) hlt, key _ (mulR_le _ _), ?_⟩
    have hp : probesW b = max 1 (min 12 (wholeD (mulR sevenD b))) := by
      unfold probesW
      rw [if_pos ⟨h1, h2⟩, if_neg hb]
    rcases Nat.lt_or_ge (mulR sevenD b) infD with h3 | h3
    · exact .inr ⟨_, floor_word h3, hp⟩
    · have h4 : mulR sevenD b = infD := by have := mulR_le sevenD b; omega
      rw [h4] at hp ⊢
      refine .inl ⟨floor_inf, ?_⟩
      rw [hp]
      have : 12 ≤ wholeD infD := by
        have h5 := wholeD_mono (wordN_le 12)
        rw [wholeD_word (by omega)] at h5
        exact h5
      omega

set_option maxRecDepth 100000 in
set_option maxHeartbeats 2000000 in
theorem rprobes_any {b : Nat} (hb : (Lit.float .f64 b).wf = true) (w : World) : Calls Try.prog 10 #[.float .f64 b] w fun e w' => e = .returned (.int .i64 (probesW b : Int)) ∧ w = w' := by
  have hb' : b < 2 ^ 64 := by simpa [Lit.wf] using hb
  rcases probes_ways hb' with ⟨h1, h2⟩ | ⟨h1, h2, h3⟩ | ⟨h1, h2, h3⟩
  · have ho : FloatKind.f64.format.order b oneD = none := order_nan h1 _
    have hn := order_nan h1 b
    rw [h2]
    have HN := Lib.hid (isNaN_any b)
    rw [hn] at HN
    clear h1 h2 hb hb' hn
    go_enter Try.func10, Try.ntmps10
    go_wp2_with (go_at_call 19; (refine (HN.out _).mono ?_); rintro e w1 ⟨rfl, rfl⟩)
    go_ret
    exact ⟨rfl, rfl⟩
  · have ho : FloatKind.f64.format.order b oneD = some .lt := h2
    have hn := order_self h1
    rw [h3]
    have HN := Lib.hid (isNaN_any b)
    rw [hn] at HN
    clear h1 h2 h3 hb hb' hn
    go_enter Try.func10, Try.ntmps10
    go_wp2_with (go_at_call 19; (refine (HN.out _).mono ?_); rintro e w1 ⟨rfl, rfl⟩)
    go_ret
    exact ⟨rfl, rfl⟩
  · have hn := order_self h3
    have HN := Lib.hid (isNaN_any b)
    rw [hn] at HN
    have ho : (FloatKind.f64.format.order b oneD == some .lt) = false := by
      have : FloatKind.f64.format.order b oneD = some (compare b oneD) := order_words h2 (by decide)
      rw [this]
      have : compare b oneD ≠ .lt := by
        show compareOfLessAndEq b oneD ≠ .lt
        unfold compareOfLessAndEq
        rw [if_neg (by omega)]
        split <;> decide
      simpa using this
    obtain ⟨r, hr, hrn, hrw⟩ := seven_times h1 h2
    have hmul : ∀ (t : TypeId) (w : World), (binOp .mul t (.float .f64 sevenD) (.float .f64 b)).run Try.prog w = .ok (.float .f64 r) w := fun t w => run_float_arith w .mul t .f64 sevenD b r hr
    have HF := Lib.hid (floor_any hrn)
    have e12 : wordN 12 = 4622945017495814144 := by decide
    have e1 : wordN 1 = oneD := by decide
    obtain ⟨W, hW⟩ : ∃ W, W = double.write ((double.read r).integral .down) := ⟨_, rfl⟩
    have hfin : W ≤ infD ∧ max (wordN 1) (min (wordN 12) W) = wordN (probesW b) ∧ probesW b ≤ 12 := by
      rcases hrw with ⟨g1, g2⟩ | ⟨k, g1, g2⟩
      · rw [hW, g1, g2, Nat.min_eq_left (wordN_le 12), max_wordN]
        exact ⟨Nat.le_refl _, rfl, by omega⟩
      · rw [hW, g1, g2, min_wordN, max_wordN]
        exact ⟨wordN_le k, rfl, by omega⟩
    rw [← hW] at HF
    have hmin := fun ts t w => run_min_words (P := Try.prog) (wordN_le 12) hfin.1 ts t w
    have hmax := fun ts t w => run_max_words (P := Try.prog) (wordN_le 1) (show min (wordN 12) W ≤ infD from Nat.le_trans (Nat.min_le_left _ _) (wordN_le 12)) ts t w
    have hcv := fun w => run_convert_float_int (P := Try.prog) w 23 3 .f64 .i64 (wordN (probesW b)) _ (by kernel_rfl) Try.underlying3 (toInt_wordN (by have := hfin.2.2; omega))
    rw [hfin.2.1] at hmax
    rw [e12] at hmin hmax
    rw [e1] at hmax
    generalize wordN (probesW b) = m2 at *
    generalize min 4622945017495814144 W = m1 at *
    clear hb hb' hn hr hrn hrw hW hfin e12 e1
    go_enter Try.func10, Try.ntmps10
    go_wp2_with (first | (go_at_call 19; (refine (HN.out _).mono ?_); rintro e w1 ⟨rfl, rfl⟩) | (go_at_call 22; (refine (HF.out _).mono ?_); rintro e w1 ⟨rfl, rfl⟩))
    go_ret
    exact ⟨rfl, rfl⟩
end Go.Proofs.Ytlgfodlimehppaa
