/-
  The walk of the statement SumAll.
-/
import Derived.Test.YtgcnmaboabjfhaaAwake3
namespace Go.Proofs.Ytgcnmaboabjfhaa
open Go.RowKit

set_option maxRecDepth 100000 in
set_option maxHeartbeats 1000000 in
theorem sumAll_walk (v : Value) (l : List UInt8) (s : ByteArray) (W : World) (hv : RdB W v l) (hs : s.size ≤ maxLen) :
    Calls Try.prog 3 #[v, .string s] W fun e w' => e = .returned (.bool true) ∧ Below W.heap.size W w' := by
  have h1 := Lib.hid (sum_any v l W hv)
  have h2 := Lib.hid (rsum_any v l W hv)
  have h3 := Lib.hid (hash_any s hs W)
  have h4 := Lib.hid (rhash_any s hs W)
  have h5 := Lib.hid (awake3_any W)
  obtain ⟨a, cap, rfl, hc1, hc2⟩ := hv.form
  unfold maxLen at hs hc2
  by_cases g1 : (3000 : Int) < (l.length : Int)
  · go_enter Try.func3, Try.ntmps3
    go_wp2_with (go_at_call 7; refine h5.out.mono ?_; rintro e w1 ⟨rfl, rfl⟩)
    go_ret
    exact ⟨rfl, Below.refl _ _⟩
  by_cases g2 : (3000 : Int) < (s.size : Int)
  · go_enter Try.func3, Try.ntmps3
    go_wp2_with (go_at_call 7; refine h5.out.mono ?_; rintro e w1 ⟨rfl, rfl⟩)
    go_ret
    exact ⟨rfl, Below.refl _ _⟩
  go_enter Try.func3, Try.ntmps3
  go_wp2_with (first | (go_at_call 8; refine h1.out.mono ?_; rintro e w1 ⟨rfl, rfl⟩) | (go_at_call 9; refine h2.out.mono ?_; rintro e w1 ⟨rfl, rfl⟩) | (go_at_call 10; refine h3.out.mono ?_; rintro e w1 ⟨rfl, rfl⟩) | (go_at_call 11; refine h4.out.mono ?_; rintro e w1 ⟨rfl, rfl⟩) | (go_at_call 7; refine h5.out.mono ?_; rintro e w1 ⟨rfl, rfl⟩))
  go_ret
  exact ⟨rfl, Below.refl _ _⟩
end Go.Proofs.Ytgcnmaboabjfhaa
