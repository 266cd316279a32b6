/-
  What num.Get does, for all that it is given.
-/
import Derived.Test.YtmlijnekidihbaaPut
import Derived.Test.YtmlijnekidihbaaGetMath
namespace Go.Proofs.Ytmlijnekidihbaa
open Go.RowKit

/-- The number that stands at a place of bytes, and the place behind it. -/
def getAt (l : List UInt8) (at_ : Int) : Option (Nat × Nat) :=
  if at_ < 0 ∨ (l.length : Int) ≤ at_ then none else (getL (l.drop at_.toNat)).map fun x => (x.1, at_.toNat + x.2)

/-- What a call answers of it. -/
def ans3 : Option (Nat × Nat) → Value
  | none => .tuple #[.int .i64 0, .int .i64 0, .bool false]
  | some (n, k) => .tuple #[.int .i64 n, .int .i64 k, .bool true]

theorem getAt_nat (l : List UInt8) (p : Nat) (h : p < l.length) : getAt l (p : Int) = (getL (l.drop p)).map fun x => (x.1, p + x.2) := by
  unfold getAt
  rw [if_neg (by omega)]
  simp

set_option maxRecDepth 100000 in
theorem get_out (v : Value) (l : List UInt8) (at_ : Int) (h : at_ < 0 ∨ (l.length : Int) ≤ at_) (w : World) (hv : RdB w v l) :
    Calls Try.prog 39 #[v, .int .i64 at_] w fun e w' => e = .returned (ans3 none) ∧ w = w' := by
  obtain ⟨a, cap, rfl, hc1, hc2⟩ := hv.form
  by_cases h0 : at_ < 0
  · go_enter Try.func39, Try.ntmps39
    go_wp2
    go_step3
    go_wp2
    first | rw [Exit.noGoto_ret] | skip
    go_ret3
    exact ⟨rfl, rfl⟩
  · have h1 : (l.length : Int) ≤ at_ := by omega
    go_enter Try.func39, Try.ntmps39
    go_wp2
    go_step3
    go_wp2
    first | rw [Exit.noGoto_ret] | skip
    go_ret3
    exact ⟨rfl, rfl⟩

set_option maxRecDepth 100000 in
set_option maxHeartbeats 800000 in
theorem get_in (v : Value) (l : List UInt8) (p : Nat) (h : p < l.length) (w : World) (hv : RdB w v l) :
    Calls Try.prog 39 #[v, .int .i64 p] w fun e w' => e = .returned (ans3 ((getL (l.drop p)).map fun x => (x.1, p + x.2))) ∧ w = w' := by
  obtain ⟨b, off, cap, rfl, hc1, hc2, hbw, hcell⟩ := hv.cells (by intro h0; subst h0; simp at h)
  unfold maxLen at hc2
  have g1 : ¬ (p : Int) < 0 := by omega
  have g5 : p < cap := by omega
  go_enter Try.func39, Try.ntmps39
  go_wp2
  go_step3
  go_wp2
  go_step3
  go_wp2
  go_loop [4, 21] (fun x i => ∃ k acc : Nat, k ≤ 9 ∧ p + k ≤ l.length ∧ i = .int .i64 k ∧ x = .int .i64 acc ∧ acc < 128 ^ k ∧ getGo k acc (l.drop (p + k)) = getL (l.drop p)) (fun _ i => l.length - (intOf i).toNat)
  case atStart => exact ⟨0, 0, by omega, by omega, rfl, rfl, by simp, rfl⟩
  case round =>
    obtain ⟨k, acc, hk, hpk, rfl, rfl, hacc, hget⟩ := hrel
    have HA := Lib.hid hacc
    clear hacc
    by_cases hlt : p + k < l.length
    · have hcell' : w.cell? ⟨b, off + p + k, none⟩ = some (bv (l.getD (p + k) 0)) := by rw [Nat.add_assoc]; exact hcell _ hlt
      have hdrop : l.drop (p + k) = l.getD (p + k) 0 :: l.drop (p + (k + 1)) := drop_cons l (p + k) hlt
      rw [hdrop] at hget
      generalize l.getD (p + k) 0 = c at hget hcell'
      have hlt' : k < l.length - p := by omega
      have hcb := byte_le c
      clear hcell hdrop
      have HG := Lib.hid hget
      clear hget
      by_cases h9 : k = 9
      · have hg : getL (l.drop p) = none := by rw [← HG.out, getGo, if_pos h9]
        have HR := Lib.hid hg
        clear hg HG HA
        subst h9
        go_wp2
        first | rw [Exit.noGoto_ret] | skip
        go_ret3
        exact ⟨by rw [HR.out]; rfl, rfl⟩
      · have h9' : ((k : Int) == 9) = false := by simp; omega
        have hk8 : k ≤ 8 := by omega
        by_cases h128 : 128 ≤ c.toNat
        · have g128 : (128 : Int) ≤ (c.toNat : Int) := by omega
          have hst := or_acc acc (c.toNat - 128) k ((c.toNat : Int) - 128) (by omega) HA.out hk8 (by omega)
          have hac := acc_lt acc (c.toNat - 128) k HA.out (by omega)
          have hg : getGo (k + 1) (acc + (c.toNat - 128) * 128 ^ k) (l.drop (p + (k + 1))) = getL (l.drop p) := by rw [← HG.out, getGo, if_neg h9, if_pos h128]
          generalize acc + (c.toNat - 128) * 128 ^ k = acc' at hst hac hg
          have HS := Lib.hid hst
          have HC := Lib.hid hac
          have HR := Lib.hid hg
          clear hst hac hg HG HA
          go_wp2
          go_round
          case rel => exact ⟨k + 1, acc', by omega, by omega, by go_num, congrArg (Value.int .i64) HS.out, HC.out, HR.out⟩
          case measure => simp [intOf]; omega
        · have g128 : (c.toNat : Int) < 128 := by omega
          by_cases h0 : c.toNat = 0 ∧ 0 < k
          · have hg : getL (l.drop p) = none := by rw [← HG.out, getGo, if_neg h9, if_neg h128, if_pos h0]
            have HR := Lib.hid hg
            obtain ⟨h0, hk0⟩ := h0
            have h0' : (c.toNat : Int) = 0 := by omega
            clear hg HG HA h0 h128
            go_wp2
            first | rw [Exit.noGoto_ret] | skip
            go_ret3
            exact ⟨by rw [HR.out]; rfl, rfl⟩
          · have hg : getL (l.drop p) = some (acc + c.toNat * 128 ^ k, k + 1) := by rw [← HG.out, getGo, if_neg h9, if_neg h128, if_neg h0]
            have hst := or_acc acc c.toNat k (c.toNat : Int) rfl HA.out hk8 (by omega)
            generalize acc + c.toNat * 128 ^ k = acc' at hst hg
            have HS := Lib.hid hst
            have HR := Lib.hid hg
            clear hg hst HG HA
            have fin : ∀ x : Int, x = (acc' : Int) → Ending.returned (.tuple #[.int .i64 x, .int .i64 ((p : Int) + k + 1), .bool true]) = .returned (ans3 ((getL (l.drop p)).map fun x => (x.1, p + x.2))) := by
              intro x hx
              rw [hx, HR.out]
              simp [ans3]
              omega
            have FIN := Lib.hid fin
            clear fin
            by_cases hc0 : c.toNat = 0
            · have hk0 : k = 0 := by omega
              have e0 : (c.toNat : Int) = 0 := by omega
              have HE := Lib.hid e0
              have g0 : ((c.toNat : Int) == 0) = true := by simp; omega
              clear e0 h0 hc0 hcb g128
              subst hk0
              rw [Nat.add_zero] at hcell'
              have hs0 := HS.out
              rw [Nat.mul_zero, Int.pow_zero, Int.mul_one, IntWalk.wrap64_in _ (by have := HE.out; omega)] at hs0
              have HS0 := Lib.hid hs0
              clear hs0
              go_wp2
              first | rw [Exit.noGoto_ret] | skip
              go_ret3
              exact ⟨FIN.out _ HS0.out, rfl⟩
            · have g0 : ((c.toNat : Int) == 0) = false := by simp; omega
              clear h0
              go_wp2
              first | rw [Exit.noGoto_ret] | skip
              go_ret3
              exact ⟨FIN.out _ HS.out, rfl⟩
    · have : l.drop (p + k) = [] := List.drop_eq_nil_of_le (by omega)
      rw [this] at hget
      have hg : getL (l.drop p) = none := by rw [← hget, getGo]
      have HR := Lib.hid hg
      clear hg hget this
      have hlt' : ¬ k < l.length - p := by omega
      go_wp2
      first | rw [Exit.noGoto_ret] | skip
      go_ret3
      exact ⟨by rw [HR.out]; rfl, rfl⟩

theorem get_any (v : Value) (l : List UInt8) (at_ : Int) (w : World) (hv : RdB w v l) :
    Calls Try.prog 39 #[v, .int .i64 at_] w fun e w' => e = .returned (ans3 (getAt l at_)) ∧ w = w' := by
  by_cases h : at_ < 0 ∨ (l.length : Int) ≤ at_
  · have := get_out v l at_ h w hv
    rw [getAt, if_pos h]
    exact this
  · obtain ⟨p, rfl⟩ := Int.eq_ofNat_of_zero_le (by omega : 0 ≤ at_)
    rw [getAt_nat l p (by omega)]
    exact get_in v l p (by omega) w hv
end Go.Proofs.Ytmlijnekidihbaa
