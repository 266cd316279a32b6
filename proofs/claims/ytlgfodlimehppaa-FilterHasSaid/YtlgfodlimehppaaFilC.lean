/-
  Chapter 11, what is asked of package filter: as contracts, which the walks take and the program's own texts give.
-/
import Derived.Test.YtlgfodlimehppaaFilMathFns
namespace Go.Proofs.Ytlgfodlimehppaa
open Go.RowKit Ieee

def ProbesC : Prop := ∀ (b : Nat) (_ : (Lit.float .f64 b).wf = true) (w : World), Calls Try.prog 9 #[.float .f64 b] w fun e w' => e = .returned (.int .i64 (probesW b : Int)) ∧ w = w'
def MakeC : Prop := ∀ (v : Value) (l : List ByteArray) (b : Nat) (_ : (Lit.float .f64 b).wf = true) (w : World) (_ : Rd w 1 v l.length (l.map Value.string)) (_ : ∀ s ∈ l, s.size ≤ maxLen) (_ : l.length ≤ 100000),
    Calls Try.prog 11 #[v, .float .f64 b] w (RetB w.heap.size w (makeL (hashes l) b))
def MayC : Prop := ∀ (v : Value) (f : List UInt8) (key : ByteArray) (_ : key.size ≤ maxLen) (w : World) (_ : RdB w v f) (_ : f.length ≤ 100000),
    Calls Try.prog 13 #[v, .string key] w fun e w' => e = .returned (.bool (mayL f (hashL key.data.toList))) ∧ Below w.heap.size w w'

theorem word10_eq : wordN 10 = 4621819117588971520 := by decide
theorem probes10 : probesW 4621819117588971520 = 7 := by rw [← word10_eq]; exact probesW_ten
theorem probes_inf : probesW infD = 12 := probesW_most (wordN_le _) (Nat.le_refl _)

set_option maxRecDepth 100000 in
set_option maxHeartbeats 2000000 in
theorem awake11_any (HP : ProbesC) (w : World) : Calls Try.prog 8 #[] w fun e w' => e = .returned (.bool true) ∧ w = w' := by
  have H1 := Lib.hid (HP 4621819117588971520 (by decide))
  rw [probes10] at H1
  have H2 := Lib.hid (HP infD (by decide))
  rw [probes_inf] at H2
  go_enter Try.func8, Try.ntmps8
  go_wp2_with (first | (go_at_call 16; (refine (mathInf_one _).mono ?_); rintro e w1 ⟨rfl, rfl⟩) | (go_at_call 9; first | ((with_reducible refine (H1.out _).mono ?_); rintro e w1 ⟨rfl, rfl⟩) | ((with_reducible refine (H2.out _).mono ?_); rintro e w1 ⟨rfl, rfl⟩)))
  go_ret
  exact ⟨rfl, rfl⟩

theorem order_gt {a b : Nat} (h1 : oneD ≤ a) (h2 : a ≤ infD) (h : (∃ m e, double.read b = .number true m e) ∨ double.read b = .infinity true) : double.order a b = some .gt := by
  unfold Format.order
  by_cases hi : a = infD
  · subst hi
    rw [read_inf]
    rcases h with ⟨m, e, h⟩ | h <;> rw [h] <;> rfl
  · obtain ⟨n, i, hr, hl, hv⟩ := read_rung double (r := a) (by rw [infD_eq]; omega)
    rw [hr]
    have hn : n ≠ 0 := by
      intro h0
      have h3 := rungH_strict double (r := 0) (s := a) (by unfold oneD at h1; omega)
      rw [← hv, h0] at h3
      unfold flV at h3
      rw [Nat.zero_mul] at h3
      omega
    rcases h with ⟨m, e, h⟩ | h
    · rw [h]
      unfold Datum.order
      simp only
      congr 1
      have hpos : 0 < n <<< (i - min i e).toNat := by
        rw [Nat.shiftLeft_eq]; exact Nat.mul_pos (Nat.pos_of_ne_zero hn) (Nat.two_pow_pos _)
      show compareOfLessAndEq (signed false n (i - min i e).toNat) (signed true m (e - min i e).toNat) = .gt
      unfold compareOfLessAndEq signed
      generalize n <<< (i - min i e).toNat = y at *
      generalize m <<< (e - min i e).toNat = x
      simp only [if_true, Bool.false_eq_true, if_false]
      rw [if_neg (by omega), if_neg (by omega)]
    · rw [h]; rfl

/-- Where the one is at most the other, it asks no more. -/
theorem probes_ordered {a b : Nat} (ha : a < 2 ^ 64) (hb : b < 2 ^ 64) (h : double.order a b = some .lt ∨ double.order a b = some .eq) : probesW a ≤ probesW b := by
  rcases probes_ways ha with ⟨_, h1⟩ | ⟨_, _, h1⟩ | ⟨h1, h2, h3⟩
  · omega
  · omega
  · rcases word_ways hb with h4 | h4 | h4 | h4 | h4
    · rw [order_words h2 (by omega), compare_nat] at h
      refine probesW_mono ?_ (by omega)
      by_cases g : a ≤ b
      · exact g
      · rw [if_neg (by omega), if_neg (by omega)] at h
        rcases h with h | h <;> cases h
    · subst h4
      exact probesW_mono h2 (Nat.le_refl _)
    · obtain ⟨s, t, h4⟩ := h4
      have : double.order a b = none := by
        unfold Format.order
        rw [h4]
        cases double.read a <;> rfl
      rw [this] at h
      rcases h with h | h <;> cases h
    · rw [order_gt h1 h2 (.inl h4)] at h
      rcases h with h | h <;> cases h
    · rw [order_gt h1 h2 (.inr h4)] at h
      rcases h with h | h <;> cases h
end Go.Proofs.Ytlgfodlimehppaa
