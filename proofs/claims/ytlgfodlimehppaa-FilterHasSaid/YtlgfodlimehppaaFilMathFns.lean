/-
  Functions of package math that the statements of chapter 11 ask.
-/
import Derived.Test.YtlgfodlimehppaaFilFacts
namespace Go.Proofs.Ytlgfodlimehppaa
open Go.RowKit Ieee

set_option maxRecDepth 100000 in
theorem run_bits64 (b : Nat) (w : World) : (callFunc 30 #[.float .f64 b]).run Try.prog w = .ok (.value (.int .u64 (b : Int))) w := by
  rw [run_callFunc_extern (e := Extern.MathFloatBits.float64bits) Try.func30 (by kernel_rfl) (by kernel_rfl) (by kernel_rfl) (by kernel_rfl)]
  rfl
set_option maxRecDepth 100000 in
theorem run_frombits64 (n : Int) (w : World) : (callFunc 29 #[.int .u64 n]).run Try.prog w = .ok (.value (.float .f64 n.toNat)) w := by
  rw [run_callFunc_extern (e := Extern.MathFloatBits.float64frombits) Try.func29 (by kernel_rfl) (by kernel_rfl) (by kernel_rfl) (by kernel_rfl)]
  rfl

abbrev nanD : Nat := 9221120237041090561
abbrev ninfD : Nat := 18442240474082181120
abbrev nzeroD : Nat := 9223372036854775808

set_option maxRecDepth 100000 in
theorem mathNaN_any (w : World) : Calls Try.prog 15 #[] w fun e w' => e = .returned (.float .f64 nanD) ∧ w = w' := by
  have hfl := run_frombits64
  go_enter Try.func15, Try.ntmps15
  go_wp2
  go_ret
  exact ⟨rfl, rfl⟩
set_option maxRecDepth 100000 in
theorem mathInf_one (w : World) : Calls Try.prog 16 #[.int .i64 1] w fun e w' => e = .returned (.float .f64 infD) ∧ w = w' := by
  have hfl := run_frombits64
  go_enter Try.func16, Try.ntmps16
  go_wp2
  go_ret
  exact ⟨rfl, rfl⟩
set_option maxRecDepth 100000 in
theorem mathInf_neg (w : World) : Calls Try.prog 16 #[.int .i64 (-1)] w fun e w' => e = .returned (.float .f64 ninfD) ∧ w = w' := by
  have hfl := run_frombits64
  go_enter Try.func16, Try.ntmps16
  go_wp2
  go_ret
  exact ⟨rfl, rfl⟩
set_option maxRecDepth 100000 in
theorem mathCopysign_nought (w : World) : Calls Try.prog 17 #[.float .f64 0, .float .f64 13830554455654793216] w fun e w' => e = .returned (.float .f64 nzeroD) ∧ w = w' := by
  have hfl := run_frombits64
  have hbt := run_bits64
  go_enter Try.func17, Try.ntmps17
  go_wp2
  go_ret
  exact ⟨rfl, rfl⟩
set_option maxRecDepth 100000 in
theorem mathNextafter_one (w : World) : Calls Try.prog 18 #[.float .f64 oneD, .float .f64 0] w fun e w' => e = .returned (.float .f64 4607182418800017407) ∧ w = w' := by
  have hfl := run_frombits64
  have hbt := run_bits64
  have HN := isNaN_any
  go_enter Try.func18, Try.ntmps18
  go_wp2_with (go_at_call 19; (refine (HN _ _).mono ?_); rintro e w1 ⟨rfl, rfl⟩)
  go_ret
  exact ⟨rfl, rfl⟩
end Go.Proofs.Ytlgfodlimehppaa
