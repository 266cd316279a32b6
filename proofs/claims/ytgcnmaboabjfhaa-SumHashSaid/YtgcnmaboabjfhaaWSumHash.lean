/-
  The walk of the statement SumHash.
-/
import Derived.Test.YtgcnmaboabjfhaaAwake3
import Derived.Test.YtgcnmaboabjfhaaLift
namespace Go.Proofs.Ytgcnmaboabjfhaa
open Go.ChangeShapes Go.WideShapes Go.ChangeAt Go.RowKit

set_option maxRecDepth 100000 in
set_option maxHeartbeats 1000000 in
theorem sumHash_walk (s : ByteArray) (c : Int) (W : World) (hs : s.size ≤ maxLen) (hc : (Lit.int .u8 c).wf = true) :
    Calls Try.prog 6 #[.string s, .int .u8 c] W fun e w' => e = .returned (.bool true) ∧ Below W.heap.size W w' := by
  have hcb := bounds_u8 hc
  clear hc
  obtain ⟨b, rfl⟩ : ∃ b : UInt8, c = (b.toNat : Int) := by
    refine ⟨UInt8.ofNat c.toNat, ?_⟩
    rw [UInt8.toNat_ofNat', Nat.mod_eq_of_lt (by omega)]
    omega
  have h3 := Lib.hid (hash_any s hs W)
  have h5 := Lib.hid (fun w => awake3_any w)
  by_cases g2 : (2000 : Int) < (s.size : Int)
  · unfold maxLen at hs
    go_enter Try.func6, Try.ntmps6
    go_wp2_with (go_at_call 7; refine (h5.out _).mono ?_; rintro e w1 ⟨rfl, rfl⟩)
    go_ret
    exact ⟨rfl, Below.refl _ _⟩
  unfold maxLen at hs
  go_enter Try.func6, Try.ntmps6
  go_wp2_with fail
  refine h3.out.mono ?_
  rintro e w1 ⟨rfl, rfl⟩
  have hx := hashL_lt s.data.toList
  have hrd : RdB (W.alloc (.cells #[bv b] 5)) (.slice (some ⟨W.heap.size, 0, none⟩) 1 1) [b] := by
    refine ⟨_, _, rfl, Nat.le_refl _, by decide, rfl, .inr ⟨_, _, rfl, by simp, fun j u hj => ?_⟩⟩
    match j, hj with
    | 0, hj => simp at hj; subst hj; go_simp
  have hconv := rdB_convert (P := Try.prog) hrd 22 5 9 Try.underlying22 Try.underlying5 Try.underlying9
  have hB : Below W.heap.size W (W.alloc (.cells #[bv b] 5)) := (Below.refl _ _).alloc (Nat.le_refl _) _
  clear hrd
  have hd : (s ++ strB [b]).data.toList = s.data.toList ++ [b] := by simp
  have hsz : (s ++ strB [b]).size ≤ maxLen := by
    have h1 := strB_size [b]
    rw [ByteArray.size_append, h1, List.length_singleton]; unfold maxLen; omega
  have h6 := hash_any (s ++ strB [b]) hsz (W.alloc (.cells #[bv b] 5))
  have hn := hash_step (hashL s.data.toList) b hx
  have hy := hashB_lt (hashL s.data.toList) b
  rw [hd, hashL_snoc] at h6
  generalize hashB (hashL s.data.toList) b = y at *
  generalize hashL s.data.toList = x at *
  have H6 := Lib.hid h6
  clear h6 hd hsz
  go_wp2_with fail
  refine H6.out.mono ?_
  rintro e w1 ⟨rfl, rfl⟩
  go_wp2_with fail
  refine (h5.out _).mono ?_
  rintro e w2 ⟨rfl, rfl⟩
  go_wp2_with fail
  go_ret
  exact ⟨rfl, hB⟩
end Go.Proofs.Ytgcnmaboabjfhaa
