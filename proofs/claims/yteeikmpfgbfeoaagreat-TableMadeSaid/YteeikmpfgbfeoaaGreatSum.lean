/-
  What sum.Sum and sum.Hash do, for all that they are given.
-/
import Derived.Test.YteeikmpfgbfeoaaGreatSumTurn
import Derived.Test.YteeikmpfgbfeoaaGreatWords
namespace Go.Proofs.YteeikmpfgbfeoaaGreat
open Go.RowKit

theorem crcL_take (c : Nat) (l : List UInt8) (k : Nat) (h : k < l.length) : crcL c (l.take (k + 1)) = crcB (crcL c (l.take k)) (l.getD k 0) := by
  rw [take_snoc' l k h, crcL_append]
  rfl

/-- One bit, the polynomial under a mask of the bit that falls out. -/
theorem step_mask (y : Nat) (hy : y < 2 ^ 32) : bits .xor .u32 ((y : Int) / 2) (bits .and .u32 2197175160 (-bits .and .u32 (y : Int) 1 % 4294967296)) = ((st1 y : Nat) : Int) := by
  rw [and_one_u32 y hy]
  have h2 : (y : Int) / 2 = ((y / 2 : Nat) : Int) := by omega
  have hp : st1 y < 2 ^ 32 := st1_lt y hy
  rcases Nat.mod_two_eq_zero_or_one y with h | h
  · rw [h, st1_even y h]
    have e : bits .and .u32 2197175160 (-((0 : Nat) : Int) % 4294967296) = ((0 : Nat) : Int) := by decide
    rw [e, h2, xor_u32 _ _ (by omega) (by decide), Nat.xor_zero]
  · rw [h, st1_odd y h]
    have e : bits .and .u32 2197175160 (-((1 : Nat) : Int) % 4294967296) = ((poly : Nat) : Int) := by decide
    rw [e, h2, xor_u32 _ _ (by omega) (by decide)]

/-- All bits turned round, as programs spell it. -/
theorem flip_u32 (x : Nat) (hx : x < 2 ^ 32) : wrap64 (bits .xor .u32 IntKind.u32.max (x : Int)) = ((x ^^^ 4294967295 : Nat) : Int) := by
  have h : x ^^^ 4294967295 < 2 ^ 32 := Nat.xor_lt_two_pow hx (by decide)
  have e : IntKind.u32.max = ((4294967295 : Nat) : Int) := by decide
  rw [e, xor_u32 _ _ (by decide) hx, Nat.xor_comm]
  exact IntWalk.wrap64_in _ (by omega)

set_option maxRecDepth 100000 in
set_option maxHeartbeats 1000000 in
theorem sum_any (v : Value) (l : List UInt8) (w : World) (hv : RdB w v l) :
    Calls Tryz.prog 46 #[v] w fun e w' => e = .returned (.int .i64 (sumL l : Nat)) ∧ w = w' := by
  obtain ⟨a, cap, rfl, hc1, hc2⟩ := hv.form
  unfold maxLen at hc2
  go_enter Tryz.func46, Tryz.ntmps46
  go_wp2
  go_loop [3, 8] (fun x i => ∃ k : Nat, k ≤ l.length ∧ i = .int .i64 k ∧ x = .int .u32 (crcL 4294967295 (l.take k) : Nat)) (fun _ i => l.length - (intOf i).toNat)
  case atStart => exact ⟨0, Nat.zero_le _, rfl, rfl⟩
  case round =>
    obtain ⟨k, hk, rfl, rfl⟩ := hrel
    have hlt := crcL_lt (l.take k) 4294967295 (by decide)
    by_cases hkl : k < l.length
    · obtain ⟨b, off, cap', hv', _, _, hbw, hcell⟩ := hv.cells (by intro h; subst h; simp at hkl)
      cases hv'
      have hcell' := hcell k hkl
      have hst := crcL_take 4294967295 l k hkl
      clear hcell
      generalize l.getD k 0 = c at hst hcell'
      generalize crcL 4294967295 (l.take k) = x at *
      have hcb := byte_le c
      have H := Lib.hid hst
      clear hst
      have hxc : x ^^^ c.toNat < 2 ^ 32 := Nat.xor_lt_two_pow hlt (by omega)
      have hX := xor_u32 x c.toNat hlt (by omega)
      unfold crcB at H
      generalize hz : x ^^^ c.toNat = z at *
      have HX := Lib.hid hX
      clear hX hz
      go_wp2
      go_loop [3, 16] (fun y i => ∃ m : Nat, m ≤ 8 ∧ i = .int .i64 m ∧ y = .int .u32 (stN m z : Nat)) (fun _ i => 8 - (intOf i).toNat)
      case atStart => exact ⟨0, Nat.zero_le _, rfl, congrArg (Value.int .u32) HX.out⟩
      case round =>
        obtain ⟨m, hm, rfl, rfl⟩ := hrel
        have hylt := stN_lt m z hxc
        by_cases hm8 : m < 8
        · have hnx : stN (m + 1) z = st1 (stN m z) := stN_add m 1 z
          generalize stN m z = y at *
          have HN := Lib.hid hnx
          clear hnx
          go_wp2
          go_round
          case rel => exact ⟨m + 1, by omega, by go_num, congrArg (Value.int .u32) ((step_mask y hylt).trans (congrArg (fun n : Nat => (n : Int)) HN.out.symm))⟩
          case measure => simp [intOf]; omega
        · obtain rfl : m = 8 := by omega
          generalize stN 8 z = y at *
          go_wp2
          go_round
          case rel => exact ⟨k + 1, by omega, by go_num, congrArg (fun n : Nat => Value.int .u32 (n : Int)) H.out.symm⟩
          case measure => simp [intOf]; omega
    · obtain rfl : k = l.length := by omega
      rw [List.take_length] at *
      have hs : sumL l = crcL 4294967295 l ^^^ 4294967295 := rfl
      have hf := flip_u32 _ hlt
      have hr := hf.trans (congrArg (fun n : Nat => (n : Int)) hs.symm)
      clear hf hs
      generalize crcL 4294967295 l = x at *
      have H := Lib.hid hr
      clear hr
      go_wp2
      go_ret
      exact ⟨congrArg (fun n : Int => Ending.returned (.int .i64 n)) H.out, rfl⟩

/-- .. of the document. -/
theorem xor_poly (y : Nat) (hy : y < 2 ^ 32) : bits .xor .u32 ((y : Int) / 2) 2197175160 = ((y / 2 ^^^ poly : Nat) : Int) := by
  have h2 : (y : Int) / 2 = ((y / 2 : Nat) : Int) := by omega
  rw [h2]
  exact xor_u32 _ poly (by omega) (by decide)

set_option maxRecDepth 100000 in
set_option maxHeartbeats 1000000 in
theorem rsum_any (v : Value) (l : List UInt8) (w : World) (hv : RdB w v l) :
    Calls Tryz.prog 68 #[v] w fun e w' => e = .returned (.int .i64 (sumL l : Nat)) ∧ w = w' := by
  obtain ⟨a, cap, rfl, hc1, hc2⟩ := hv.form
  unfold maxLen at hc2
  go_enter Tryz.func68, Tryz.ntmps68
  go_wp2
  go_loop [3, 4] (fun x i => ∃ k : Nat, k ≤ l.length ∧ i = .int .i64 k ∧ x = .int .u32 (crcL 4294967295 (l.take k) : Nat)) (fun _ i => l.length - (intOf i).toNat)
  case atStart => exact ⟨0, Nat.zero_le _, rfl, rfl⟩
  case round =>
    obtain ⟨k, hk, rfl, rfl⟩ := hrel
    have hlt := crcL_lt (l.take k) 4294967295 (by decide)
    by_cases hkl : k < l.length
    · obtain ⟨b, off, cap', hv', _, _, hbw, hcell⟩ := hv.cells (by intro h; subst h; simp at hkl)
      cases hv'
      have hcell' := hcell k hkl
      have hst := crcL_take 4294967295 l k hkl
      clear hcell
      generalize l.getD k 0 = c at hst hcell'
      generalize crcL 4294967295 (l.take k) = x at *
      have hcb := byte_le c
      have H := Lib.hid hst
      clear hst
      have hxc : x ^^^ c.toNat < 2 ^ 32 := Nat.xor_lt_two_pow hlt (by omega)
      have hX := xor_u32 x c.toNat hlt (by omega)
      unfold crcB at H
      generalize hz : x ^^^ c.toNat = z at *
      have HX := Lib.hid hX
      clear hX hz
      go_wp2
      go_loop [3, 5] (fun y i => ∃ m : Nat, m ≤ 8 ∧ i = .int .i64 m ∧ y = .int .u32 (stN m z : Nat)) (fun _ i => 8 - (intOf i).toNat)
      case atStart => exact ⟨0, Nat.zero_le _, rfl, congrArg (Value.int .u32) HX.out⟩
      case round =>
        obtain ⟨m, hm, rfl, rfl⟩ := hrel
        have hylt := stN_lt m z hxc
        by_cases hm8 : m < 8
        · have hnx : stN (m + 1) z = st1 (stN m z) := stN_add m 1 z
          generalize stN m z = y at *
          have ha := and_one_u32 y hylt
          rcases Nat.mod_two_eq_zero_or_one y with h | h
          · rw [h] at ha
            rw [st1_even y h] at hnx
            have HN := Lib.hid hnx
            clear hnx h
            go_wp2
            go_round
            case rel => exact ⟨m + 1, by omega, by go_num, congrArg (Value.int .u32) ((show (y : Int) / 2 = ((y / 2 : Nat) : Int) by omega).trans (congrArg (fun n : Nat => (n : Int)) HN.out.symm))⟩
            case measure => simp [intOf]; omega
          · rw [h] at ha
            rw [st1_odd y h] at hnx
            have HN := Lib.hid hnx
            clear hnx h
            go_wp2
            go_round
            case rel => exact ⟨m + 1, by omega, by go_num, congrArg (Value.int .u32) ((xor_poly y hylt).trans (congrArg (fun n : Nat => (n : Int)) HN.out.symm))⟩
            case measure => simp [intOf]; omega
        · obtain rfl : m = 8 := by omega
          generalize stN 8 z = y at *
          go_wp2
          go_round
          case rel => exact ⟨k + 1, by omega, by go_num, congrArg (fun n : Nat => Value.int .u32 (n : Int)) H.out.symm⟩
          case measure => simp [intOf]; omega
    · obtain rfl : k = l.length := by omega
      rw [List.take_length] at *
      have hs : sumL l = crcL 4294967295 l ^^^ 4294967295 := rfl
      have hf := flip_u32 _ hlt
      have hr := hf.trans (congrArg (fun n : Nat => (n : Int)) hs.symm)
      clear hf hs
      generalize crcL 4294967295 l = x at *
      have H := Lib.hid hr
      clear hr
      go_wp2
      go_ret
      exact ⟨congrArg (fun n : Int => Ending.returned (.int .i64 n)) H.out, rfl⟩
end Go.Proofs.YteeikmpfgbfeoaaGreat
