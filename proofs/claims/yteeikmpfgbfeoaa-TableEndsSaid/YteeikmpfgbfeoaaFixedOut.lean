/-
  What num.Fixed and num.GetFixed, and the document's answers, do where there is nothing; what the document's GetFixed does.
-/
import Derived.Test.YteeikmpfgbfeoaaRefFixed
namespace Go.Proofs.Yteeikmpfgbfeoaa
open Go.RowKit

set_option maxRecDepth 100000 in
theorem getFixed_out (v : Value) (l : List UInt8) (at_ size : Int) (hs : -9223372036854775808 ≤ size ∧ size ≤ 9223372036854775807) (h : size < 1 ∨ 7 < size ∨ at_ < 0 ∨ (l.length : Int) - size < at_) (w : World) (hv : RdB w v l) :
    Calls Try.prog 49 #[v, .int .i64 at_, .int .i64 size] w fun e w' => e = .returned (.tuple #[.int .i64 0, .bool false]) ∧ w = w' := by
  obtain ⟨a, cap, rfl, hc1, hc2⟩ := hv.form
  unfold maxLen at hc2
  by_cases h1 : size < 1
  · clear h
    go_enter Try.func49, Try.ntmps49
    go_wp2
    go_step3
    go_wp2
    first | rw [Exit.noGoto_ret] | skip
    go_ret2
    exact ⟨rfl, rfl⟩
  by_cases h2 : 7 < size
  · clear h
    go_enter Try.func49, Try.ntmps49
    go_wp2
    go_step3
    go_wp2
    first | rw [Exit.noGoto_ret] | skip
    go_ret2
    exact ⟨rfl, rfl⟩
  by_cases h3 : at_ < 0
  · clear h
    go_enter Try.func49, Try.ntmps49
    go_wp2
    go_step3
    go_wp2
    first | rw [Exit.noGoto_ret] | skip
    go_ret2
    exact ⟨rfl, rfl⟩
  have h4 : (l.length : Int) - size < at_ := by omega
  clear h
  go_enter Try.func49, Try.ntmps49
  go_wp2
  go_step3
  go_wp2
  first | rw [Exit.noGoto_ret] | skip
  go_ret2
  exact ⟨rfl, rfl⟩

set_option maxRecDepth 100000 in
theorem fixed_out (n size : Int) (h : size < 1 ∨ 8 < size) (w : World) : Calls Try.prog 37 #[.int .i64 n, .int .i64 size] w (RetB w.heap.size w []) := by
  by_cases h1 : size < 1
  · clear h
    go_enter Try.func37, Try.ntmps37
    go_wp2
    go_step3
    go_wp2
    first | rw [Exit.noGoto_ret] | skip
    go_ret
    exact ⟨_, rfl, OwnB.nil _ _ _, Below.refl _ _⟩
  have h2 : 8 < size := by omega
  clear h
  go_enter Try.func37, Try.ntmps37
  go_wp2
  go_step3
  go_wp2
  first | rw [Exit.noGoto_ret] | skip
  go_ret
  exact ⟨_, rfl, OwnB.nil _ _ _, Below.refl _ _⟩

end Go.Proofs.Yteeikmpfgbfeoaa
