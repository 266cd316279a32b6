/-
  What num.Fixed and num.GetFixed do, for all that they are given.
-/
import Derived.Test.YteeikmpfgbfeoaaGreatWords
namespace Go.Proofs.YteeikmpfgbfeoaaGreat
open Go.RowKit

set_option maxRecDepth 100000 in
set_option maxHeartbeats 400000 in
theorem fixed_yes (n : Int) (s : Nat) (hs : 1 ≤ s ∧ s ≤ 8) (w : World) :
    Calls Tryz.prog 42 #[.int .i64 n, .int .i64 s] w (RetB w.heap.size w (fixL n s)) := by
  obtain ⟨h1, h8⟩ := hs
  obtain ⟨i0, hi, hz0, hz1, hz2⟩ := info_parts info_u8
  have g1 : ¬ (s : Int) < 1 := by omega
  have g2 : ¬ (8 : Int) < (s : Int) := by omega
  go_enter Tryz.func42, Tryz.ntmps42
  go_wp2
  go_step3
  go_wp2_with (at_make; refine wpList_make_own _ rfl _ _ 24 rfl w.heap.size 5 i0 (.int .u8 0) 1 Tryz.underlying24 hi hz0 hz1 _ _ _ s rfl rfl rfl ?b2 ?b3 (Nat.le_refl _) ?_)
  case b2 => rw [hz2]; omega
  case b3 => unfold maxLen; omega
  intro w0 hown0 hgrow0
  go_wp2
  go_step3
  go_wp2
  go_loopw [5, 6] (fun b left wr => ∃ (k : Nat) (l : List UInt8), k ≤ 8 ∧ left = .int .i64 ((k : Int) - 1) ∧ OwnB wr w.heap.size 5 b l ∧ l ++ fixL n (min k s) = fixL n s ∧ Below w.heap.size w wr)
    (fun _ left _ => ((intOf left) + 1).toNat)
  case atStart => exact ⟨8, [], Nat.le_refl _, rfl, hown0, by rw [Nat.min_eq_right h8]; rfl, (Below.refl _ _).grown hgrow0 (Nat.le_refl _) (fun k h => by cases h)⟩
  case round =>
    obtain ⟨k, l, hk, rfl, hown, hl, hb⟩ := hrel
    have hlen : l.length ≤ 8 := by
      have := congrArg List.length hl
      simp only [List.length_append, fixL_length] at this
      omega
    match k, hk, hl with
    | 0, hk, hl =>
      have hl' : l = fixL n s := by simpa [fixL] using hl
      have H := Lib.hid hl'
      clear hl hl'
      go_wp2
      rw [Exit.noGoto_ret]
      go_ret
      exact ⟨_, rfl, H.out ▸ hown, hb⟩
    | j + 1, hk, hl =>
      rw [show (((j + 1 : Nat) : Int) - 1) = (j : Int) from by omega]
      by_cases hj : s ≤ j
      · have hl' : l ++ fixL n (min j s) = fixL n s := by rw [← hl, Nat.min_eq_right hj, Nat.min_eq_right (by omega)]
        have H := Lib.hid hl'
        clear hl hl'
        go_wp2
        go_roundw
        case rel => exact ⟨j, l, by omega, rfl, hown, H.out, hb⟩
        case measure => simp [intOf]
      · have hl' : (l ++ [fixB n j]) ++ fixL n (min j s) = fixL n s := by
          rw [← hl, Nat.min_eq_left (show j ≤ s by omega), Nat.min_eq_left (show j + 1 ≤ s by omega)]
          simp [fixL]
        have H := Lib.hid hl'
        clear hl hl'
        go_wp2_with (at_builtin; refine wpList_append_byte rfl (.tmp 22) (.tmp 28) 24 rfl w.heap.size 5 Tryz.underlying24 info_u8 _ l (fixB n j) _ wr rfl rfl hown (fix_byte n j) hb.size ?_ ?_)
        · omega
        · intro v' w' hown' hb'
          go_wp2
          go_roundw
          case rel => exact ⟨j, l ++ [fixB n j], by omega, rfl, hown', H.out, hb' _ _ (Nat.le_refl _) hb⟩
          case measure => simp [intOf]

set_option maxRecDepth 100000 in
set_option maxHeartbeats 400000 in
theorem getFixed_yes (v : Value) (l : List UInt8) (p s : Nat) (hs : 1 ≤ s ∧ s ≤ 7) (hp : p + s ≤ l.length) (w : World) (hv : RdB w v l) :
    Calls Tryz.prog 64 #[v, .int .i64 p, .int .i64 s] w fun e w' => e = .returned (.tuple #[.int .i64 (valL ((l.drop p).take s)), .bool true]) ∧ w = w' := by
  obtain ⟨h1, h7⟩ := hs
  obtain ⟨b, off, cap, rfl, hc1, hc2, hbw, hcell⟩ := hv.cells (by intro h; subst h; simp at hp; omega)
  unfold maxLen at hc2
  have g1 : ¬ (s : Int) < 1 := by omega
  have g2 : ¬ (7 : Int) < (s : Int) := by omega
  have g3 : ¬ (p : Int) < 0 := by omega
  have g4 : ¬ (l.length : Int) - (s : Int) < (p : Int) := by omega
  have g5 : p < cap := by omega
  go_enter Tryz.func64, Tryz.ntmps64
  go_wp2
  go_step3
  go_wp2
  go_step3
  go_wp2
  go_loop [8, 33] (fun x i => ∃ k : Nat, k ≤ s ∧ i = .int .i64 k ∧ x = .int .i64 (valL ((l.drop p).take k))) (fun _ i => l.length - (intOf i).toNat)
  case atStart => exact ⟨0, Nat.zero_le _, rfl, rfl⟩
  case round =>
    obtain ⟨k, hk, rfl, rfl⟩ := hrel
    have hd : (l.drop p).length = l.length - p := List.length_drop
    by_cases hks : k < s
    · have hle := valL_le (l.drop p) k (by omega)
      have hnn : (0 : Int) ≤ (valL ((l.drop p).take k) : Int) := by omega
      have hst := valL_step (l.drop p) k (by omega) (by omega)
      have hg : (l.drop p).getD k 0 = l.getD (p + k) 0 := by simp [List.getD]
      rw [hg] at hst
      have hcell' : w.cell? ⟨b, off + p + k, none⟩ = some (bv (l.getD (p + k) 0)) := by rw [Nat.add_assoc]; exact hcell _ (by omega)
      clear hg hcell
      generalize l.getD (p + k) 0 = c at hst hcell'
      have H := Lib.hid hst
      clear hst
      have hcb := byte_le c
      have hlt : (k : Int) < ((l.length - p : Nat) : Int) := by omega
      have hne : ((k : Int) == (s : Int)) = false := by simp; omega
      go_wp2
      go_round
      case rel => exact ⟨k + 1, by omega, by go_num, congrArg (Value.int .i64) H.out⟩
      case measure => simp [intOf]; omega
    · obtain rfl : k = s := by omega
      have hcell' : k < l.length - p → w.cell? ⟨b, off + p + k, none⟩ = some (bv (l.getD (p + k) 0)) := fun _ => by rw [Nat.add_assoc]; exact hcell _ (by omega)
      clear hcell
      go_wp2
      all_goals
        first | rw [Exit.noGoto_ret] | skip
        go_ret2
        exact ⟨rfl, rfl⟩
end Go.Proofs.YteeikmpfgbfeoaaGreat
