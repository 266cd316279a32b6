/-
  What num.Fixed and num.GetFixed, and the document's answers, do where there is nothing; what the document's GetFixed does.
-/
import Derived.Test.YteeikmpfgbfeoaaGreatRefFixed
namespace Go.Proofs.YteeikmpfgbfeoaaGreat
open Go.RowKit

set_option maxRecDepth 100000 in
theorem getFixed_out (v : Value) (l : List UInt8) (at_ size : Int) (hs : -9223372036854775808 ≤ size ∧ size ≤ 9223372036854775807) (h : size < 1 ∨ 7 < size ∨ at_ < 0 ∨ (l.length : Int) - size < at_) (w : World) (hv : RdB w v l) :
    Calls Tryz.prog 64 #[v, .int .i64 at_, .int .i64 size] w fun e w' => e = .returned (.tuple #[.int .i64 0, .bool false]) ∧ w = w' := by
  obtain ⟨a, cap, rfl, hc1, hc2⟩ := hv.form
  unfold maxLen at hc2
  by_cases h1 : size < 1
  · clear h
    go_enter Tryz.func64, Tryz.ntmps64
    go_wp2
    go_step3
    go_wp2
    first | rw [Exit.noGoto_ret] | skip
    go_ret2
    exact ⟨rfl, rfl⟩
  by_cases h2 : 7 < size
  · clear h
    go_enter Tryz.func64, Tryz.ntmps64
    go_wp2
    go_step3
    go_wp2
    first | rw [Exit.noGoto_ret] | skip
    go_ret2
    exact ⟨rfl, rfl⟩
  by_cases h3 : at_ < 0
  · clear h
    go_enter Tryz.func64, Tryz.ntmps64
    go_wp2
    go_step3
    go_wp2
    first | rw [Exit.noGoto_ret] | skip
    go_ret2
    exact ⟨rfl, rfl⟩
  have h4 : (l.length : Int) - size < at_ := by omega
  clear h
  go_enter Tryz.func64, Tryz.ntmps64
  go_wp2
  go_step3
  go_wp2
  first | rw [Exit.noGoto_ret] | skip
  go_ret2
  exact ⟨rfl, rfl⟩

set_option maxRecDepth 100000 in
theorem rgetFixed_out (v : Value) (l : List UInt8) (at_ size : Int) (hs : -9223372036854775808 ≤ size ∧ size ≤ 9223372036854775807) (h : size < 1 ∨ 7 < size ∨ at_ < 0 ∨ (l.length : Int) - size < at_) (w : World) (hv : RdB w v l) :
    Calls Tryz.prog 31 #[v, .int .i64 at_, .int .i64 size] w fun e w' => e = .returned (.tuple #[.int .i64 0, .bool false]) ∧ w = w' := by
  obtain ⟨a, cap, rfl, hc1, hc2⟩ := hv.form
  unfold maxLen at hc2
  by_cases h1 : size < 1
  · clear h
    go_enter Tryz.func31, Tryz.ntmps31
    go_wp2
    go_ret2
    exact ⟨rfl, rfl⟩
  by_cases h2 : 7 < size
  · clear h
    go_enter Tryz.func31, Tryz.ntmps31
    go_wp2
    go_ret2
    exact ⟨rfl, rfl⟩
  by_cases h3 : at_ < 0
  · clear h
    go_enter Tryz.func31, Tryz.ntmps31
    go_wp2
    go_ret2
    exact ⟨rfl, rfl⟩
  have h4 : (l.length : Int) - size < at_ := by omega
  clear h
  go_enter Tryz.func31, Tryz.ntmps31
  go_wp2
  go_ret2
  exact ⟨rfl, rfl⟩

set_option maxRecDepth 100000 in
theorem fixed_out (n size : Int) (h : size < 1 ∨ 8 < size) (w : World) : Calls Tryz.prog 42 #[.int .i64 n, .int .i64 size] w (RetB w.heap.size w []) := by
  by_cases h1 : size < 1
  · clear h
    go_enter Tryz.func42, Tryz.ntmps42
    go_wp2
    go_step3
    go_wp2
    first | rw [Exit.noGoto_ret] | skip
    go_ret
    exact ⟨_, rfl, OwnB.nil _ _ _, Below.refl _ _⟩
  have h2 : 8 < size := by omega
  clear h
  go_enter Tryz.func42, Tryz.ntmps42
  go_wp2
  go_step3
  go_wp2
  first | rw [Exit.noGoto_ret] | skip
  go_ret
  exact ⟨_, rfl, OwnB.nil _ _ _, Below.refl _ _⟩

set_option maxRecDepth 100000 in
theorem rfixed_out (n size : Int) (h : size < 1 ∨ 8 < size) (w : World) : Calls Tryz.prog 60 #[.int .i64 n, .int .i64 size] w (RetB w.heap.size w []) := by
  by_cases h1 : size < 1
  · clear h
    go_enter Tryz.func60, Tryz.ntmps60
    go_wp2
    go_ret
    exact ⟨_, rfl, OwnB.nil _ _ _, Below.refl _ _⟩
  have h2 : 8 < size := by omega
  clear h
  go_enter Tryz.func60, Tryz.ntmps60
  go_wp2
  go_ret
  exact ⟨_, rfl, OwnB.nil _ _ _, Below.refl _ _⟩

set_option maxRecDepth 100000 in
set_option maxHeartbeats 400000 in
theorem rgetFixed_yes (v : Value) (l : List UInt8) (p s : Nat) (hs : 1 ≤ s ∧ s ≤ 7) (hp : p + s ≤ l.length) (w : World) (hv : RdB w v l) :
    Calls Tryz.prog 31 #[v, .int .i64 p, .int .i64 s] w fun e w' => e = .returned (.tuple #[.int .i64 (valL ((l.drop p).take s)), .bool true]) ∧ w = w' := by
  obtain ⟨h1, h7⟩ := hs
  obtain ⟨b, off, cap, rfl, hc1, hc2, hbw, hcell⟩ := hv.cells (by intro h; subst h; simp at hp; omega)
  unfold maxLen at hc2
  have g1 : ¬ (s : Int) < 1 := by omega
  have g2 : ¬ (7 : Int) < (s : Int) := by omega
  have g3 : ¬ (p : Int) < 0 := by omega
  have g4 : ¬ (l.length : Int) - (s : Int) < (p : Int) := by omega
  go_enter Tryz.func31, Tryz.ntmps31
  go_wp2
  go_loop [8, 9] (fun x i => ∃ k : Nat, k ≤ s ∧ i = .int .i64 k ∧ x = .int .i64 (valL ((l.drop p).take k))) (fun _ i => s - (intOf i).toNat)
  case atStart => exact ⟨0, Nat.zero_le _, rfl, rfl⟩
  case round =>
    obtain ⟨k, hk, rfl, rfl⟩ := hrel
    have hd : (l.drop p).length = l.length - p := List.length_drop
    by_cases hks : k < s
    · have hle := valL_le (l.drop p) k (by omega)
      have hnn : (0 : Int) ≤ (valL ((l.drop p).take k) : Int) := by omega
      have hst : 256 * (valL ((l.drop p).take k) : Int) + ((l.getD (p + k) 0).toNat : Int) = (valL ((l.drop p).take (k + 1)) : Int) := by
        rw [take_snoc' (l.drop p) k (by omega), valL_snoc, show (l.drop p).getD k 0 = l.getD (p + k) 0 from by simp [List.getD]]
        omega
      have hcell' : w.cell? ⟨b, off + (p + k), none⟩ = some (bv (l.getD (p + k) 0)) := hcell _ (by omega)
      clear hcell
      generalize l.getD (p + k) 0 = c at hst hcell'
      have H := Lib.hid hst
      clear hst
      have hcb := byte_le c
      have hlt : (p : Int) + (k : Int) < (l.length : Int) := by omega
      go_wp2
      go_round
      case rel => exact ⟨k + 1, by omega, by go_num, congrArg (Value.int .i64) H.out⟩
      case measure => simp [intOf]; omega
    · obtain rfl : k = s := by omega
      go_wp2
      go_ret2
      exact ⟨rfl, rfl⟩
end Go.Proofs.YteeikmpfgbfeoaaGreat
