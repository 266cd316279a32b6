/-
  What num.Put does, for all that it is given; the statements' own example.
-/
import Derived.Test.YtmlijnekidihbaaWords
namespace Go.Proofs.Ytmlijnekidihbaa
open Go.RowKit

theorem put_neg (n : Int) (hn : n < 0) (w : World) : Calls Try.prog 54 #[.int .i64 n] w (RetB w.heap.size w []) := by
  go_enter Try.func54, Try.ntmps54
  go_wp2
  go_step3
  go_wp2
  rw [Exit.noGoto_ret]
  go_ret
  exact ⟨_, rfl, OwnB.nil _ _ _, Below.refl _ _⟩

set_option maxRecDepth 100000 in
set_option maxHeartbeats 400000 in
theorem put_nat (n : Nat) (hn : (n : Int) ≤ 9223372036854775807) (w : World) : Calls Try.prog 54 #[.int .i64 n] w (RetB w.heap.size w (putL n)) := by
  have hlen9 := putL_length n (by omega)
  have g1 : ¬ (n : Int) < 0 := by omega
  go_enter Try.func54, Try.ntmps54
  go_wp2
  go_step3
  go_wp2
  go_step3
  go_wp2
  go_loopw [0, 3] (fun x b wr => ∃ (m : Nat) (l : List UInt8), (m : Int) ≤ 9223372036854775807 ∧ x = .int .i64 (m : Int) ∧ OwnB wr w.heap.size 5 b l ∧ l ++ putL m = putL n ∧ Below w.heap.size w wr)
    (fun x _ _ => (intOf x).toNat)
  case atStart => exact ⟨n, [], hn, rfl, OwnB.nil _ _ _, rfl, Below.refl _ _⟩
  case round =>
    obtain ⟨m, l, hm, rfl, hown, hl, hb⟩ := hrel
    have hlen : l.length ≤ 9 := by
      have := congrArg List.length hl
      simp only [List.length_append] at this
      omega
    by_cases h : m < 128
    · have hl' : l ++ [UInt8.ofNat m] = putL n := by rw [← hl, putL_lt m h]
      have hc : (m : Int) = ((UInt8.ofNat m).toNat : Int) := (ofNat_toNat m (by omega)).symm
      have H := Lib.hid hl'
      have HC := Lib.hid hc
      clear hl hl' hc
      go_wp2_with (at_builtin; refine wpList_append_byte rfl (.tmp 17) (.tmp 20) 22 rfl w.heap.size 5 Try.underlying22 info_u8 _ l (UInt8.ofNat m) _ wr rfl rfl hown HC.out hb.size ?_ ?_)
      · omega
      · intro v' w' hown' hb'
        go_wp2
        rw [Exit.noGoto_ret]
        go_ret
        exact ⟨_, rfl, H.out ▸ hown', hb' _ _ (Nat.le_refl _) hb⟩
    · have hl' : (l ++ [moreB m]) ++ putL (m / 128) = putL n := by rw [← hl, putL_ge m (by omega)]; simp
      have H := Lib.hid hl'
      clear hl hl'
      go_wp2_with (at_builtin; refine wpList_append_byte rfl (.tmp 6) (.tmp 10) 22 rfl w.heap.size 5 Try.underlying22 info_u8 _ l (moreB m) _ wr rfl rfl hown (more_byte m) hb.size ?_ ?_)
      · omega
      · intro v' w' hown' hb'
        go_wp2
        go_roundw
        case rel => exact ⟨m / 128, _, by omega, by go_num, hown', H.out, hb' _ _ (Nat.le_refl _) hb⟩
        case measure => simp [intOf]; omega

theorem putL_300 : putL 300 = [172, 2] := by
  rw [putL_ge 300 (by omega), putL_lt (300 / 128) (by omega)]
  rfl

theorem put_300 (w : World) : Calls Try.prog 54 #[.int .i64 300] w (RetB w.heap.size w [172, 2]) := by
  have h := put_nat 300 (by omega) w
  rw [putL_300] at h
  exact h

end Go.Proofs.Ytmlijnekidihbaa
