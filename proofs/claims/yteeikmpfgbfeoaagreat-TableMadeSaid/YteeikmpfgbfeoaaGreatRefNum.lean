/-
  What the document's answer for layer 1 does: numbers as bytes.
-/
import Derived.Test.YteeikmpfgbfeoaaGreatText
namespace Go.Proofs.YteeikmpfgbfeoaaGreat
open Go.RowKit

theorem more_byte' (n : Nat) : (128 + (n : Int) % 128) = ((moreB n).toNat : Int) := by
  unfold moreB
  rw [ofNat_toNat _ (by omega)]
  omega

set_option maxRecDepth 100000 in
theorem rput_neg (n : Int) (hn : n < 0) (w : World) : Calls Tryz.prog 59 #[.int .i64 n] w (RetB w.heap.size w []) := by
  go_enter Tryz.func59, Tryz.ntmps59
  go_wp2
  go_ret
  exact ⟨_, rfl, OwnB.nil _ _ _, Below.refl _ _⟩

set_option maxRecDepth 100000 in
set_option maxHeartbeats 400000 in
theorem rput_nat (n : Nat) (hn : (n : Int) ≤ 9223372036854775807) (w : World) : Calls Tryz.prog 59 #[.int .i64 n] w (RetB w.heap.size w (putL n)) := by
  have hlen9 := putL_length n (by omega)
  have g1 : ¬ (n : Int) < 0 := by omega
  go_enter Tryz.func59, Tryz.ntmps59
  go_wp2
  go_loopw [0, 3] (fun x b wr => ∃ (m : Nat) (l : List UInt8), (m : Int) ≤ 9223372036854775807 ∧ x = .int .i64 (m : Int) ∧ OwnB wr w.heap.size 5 b l ∧ l ++ putL m = putL n ∧ Below w.heap.size w wr)
    (fun x _ _ => (intOf x).toNat)
  case atStart => exact ⟨n, [], hn, rfl, OwnB.nil _ _ _, rfl, Below.refl _ _⟩
  case round =>
    obtain ⟨m, l, hm, rfl, hown, hl, hb⟩ := hrel
    have hlen : l.length ≤ 9 := by
      have := congrArg List.length hl
      simp only [List.length_append] at this
      omega
    by_cases h : m < 128
    · have hl' : l ++ [UInt8.ofNat m] = putL n := by rw [← hl, putL_lt m h]
      have hc : (m : Int) = ((UInt8.ofNat m).toNat : Int) := (ofNat_toNat m (by omega)).symm
      have H := Lib.hid hl'
      have HC := Lib.hid hc
      clear hl hl' hc
      go_wp2_with (at_builtin; refine wpList_append_byte rfl (.tmp 17) (.tmp 20) 24 rfl w.heap.size 5 Tryz.underlying24 info_u8 _ l (UInt8.ofNat m) _ wr rfl rfl hown HC.out hb.size ?_ ?_)
      · omega
      · intro v' w' hown' hb'
        go_wp2
        go_ret
        exact ⟨_, rfl, H.out ▸ hown', hb' _ _ (Nat.le_refl _) hb⟩
    · have hl' : (l ++ [moreB m]) ++ putL (m / 128) = putL n := by rw [← hl, putL_ge m (by omega)]; simp
      have H := Lib.hid hl'
      clear hl hl'
      go_wp2_with (at_builtin; refine wpList_append_byte rfl (.tmp 8) (.tmp 13) 24 rfl w.heap.size 5 Tryz.underlying24 info_u8 _ l (moreB m) _ wr rfl rfl hown (more_byte' m) hb.size ?_ ?_)
      · omega
      · intro v' w' hown' hb'
        go_wp2
        go_roundw
        case rel => exact ⟨m / 128, _, by omega, by go_num, hown', H.out, hb' _ _ (Nat.le_refl _) hb⟩
        case measure => simp [intOf]; omega

set_option maxRecDepth 100000 in
theorem rputText_any (s : ByteArray) (hs : (s.size : Int) ≤ 1099511627776) (w : World) : Calls Tryz.prog 86 #[.string s] w (RetB w.heap.size w (putT s.data.toList)) := by
  have hsz : s.data.toList.length = s.size := by rw [Array.length_toList]; rfl
  have HSZ := Lib.hid hsz
  have hl9 := putL_length s.size (by omega)
  clear hsz
  go_enter Tryz.func86, Tryz.ntmps86
  go_wp2_with fail
  refine (rput_nat s.size (by omega) _).mono ?_
  rintro e w1 ⟨v, rfl, hown, hb⟩
  go_wp2_with (at_builtin; refine wpList_append_string rfl (.tmp 5) (.tmp 6) 24 9 rfl w.heap.size 5 Tryz.underlying24 Tryz.underlying9 info_u8 _ _ s rfl rfl hown hb.size ?_ ?_)
  · omega
  · intro v' w' hown' hb'
    go_wp2
    go_ret
    exact ⟨_, rfl, by rw [putT, HSZ.out]; exact hown', hb' _ _ (Nat.le_refl _) hb⟩

set_option maxRecDepth 100000 in
theorem rget_out (v : Value) (l : List UInt8) (at_ : Int) (h : at_ < 0 ∨ (l.length : Int) ≤ at_) (w : World) (hv : RdB w v l) :
    Calls Tryz.prog 69 #[v, .int .i64 at_] w fun e w' => e = .returned (ans3 none) ∧ w = w' := by
  obtain ⟨a, cap, rfl, hc1, hc2⟩ := hv.form
  by_cases h0 : at_ < 0
  · go_enter Tryz.func69, Tryz.ntmps69
    go_wp2
    go_ret3
    exact ⟨rfl, rfl⟩
  · have h1 : (l.length : Int) ≤ at_ := by omega
    go_enter Tryz.func69, Tryz.ntmps69
    go_wp2
    go_ret3
    exact ⟨rfl, rfl⟩

set_option maxRecDepth 100000 in
set_option maxHeartbeats 800000 in
theorem rget_in (v : Value) (l : List UInt8) (p : Nat) (h : p < l.length) (w : World) (hv : RdB w v l) :
    Calls Tryz.prog 69 #[v, .int .i64 p] w fun e w' => e = .returned (ans3 ((getL (l.drop p)).map fun x => (x.1, p + x.2))) ∧ w = w' := by
  obtain ⟨b, off, cap, rfl, hc1, hc2, hbw, hcell⟩ := hv.cells (by intro h0; subst h0; simp at h)
  unfold maxLen at hc2
  have g1 : ¬ (p : Int) < 0 := by omega
  have g2 : (p : Int) < (l.length : Int) := by omega
  go_enter Tryz.func69, Tryz.ntmps69
  go_wp2
  go_loop [7, 8] (fun x i => ∃ k acc : Nat, k ≤ 9 ∧ p + k ≤ l.length ∧ i = .int .i64 k ∧ x = .int .i64 acc ∧ acc < 128 ^ k ∧ getGo k acc (l.drop (p + k)) = getL (l.drop p)) (fun _ i => l.length - (intOf i).toNat)
  case atStart => exact ⟨0, 0, by omega, by omega, rfl, rfl, by simp, rfl⟩
  case round =>
    obtain ⟨k, acc, hk, hpk, rfl, rfl, hacc, hget⟩ := hrel
    have HA := Lib.hid hacc
    clear hacc
    by_cases hlt : p + k < l.length
    · have hcell' : w.cell? ⟨b, off + (p + k), none⟩ = some (bv (l.getD (p + k) 0)) := hcell _ hlt
      have hdrop : l.drop (p + k) = l.getD (p + k) 0 :: l.drop (p + (k + 1)) := drop_cons l (p + k) hlt
      rw [hdrop] at hget
      generalize l.getD (p + k) 0 = c at hget hcell'
      have hlt' : (k : Int) < (l.length : Int) - (p : Int) := by omega
      have hcb := byte_le c
      clear hcell hdrop
      have HG := Lib.hid hget
      clear hget
      by_cases h9 : k = 9
      · have hg : getL (l.drop p) = none := by rw [← HG.out, getGo, if_pos h9]
        have HR := Lib.hid hg
        clear hg HG HA
        subst h9
        go_wp2
        go_ret3
        exact ⟨by rw [HR.out]; rfl, rfl⟩
      · have h9' : (k : Int) < 9 := by omega
        have hk8 : k ≤ 8 := by omega
        by_cases h128 : 128 ≤ c.toNat
        · have g128 : (128 : Int) ≤ (c.toNat : Int) := by omega
          have hst := or_acc acc (c.toNat - 128) k ((c.toNat : Int) % 128) (by omega) HA.out hk8 (by omega)
          have hac := acc_lt acc (c.toNat - 128) k HA.out (by omega)
          have hg : getGo (k + 1) (acc + (c.toNat - 128) * 128 ^ k) (l.drop (p + (k + 1))) = getL (l.drop p) := by rw [← HG.out, getGo, if_neg h9, if_pos h128]
          generalize acc + (c.toNat - 128) * 128 ^ k = acc' at hst hac hg
          have HS := Lib.hid hst
          have HC := Lib.hid hac
          have HR := Lib.hid hg
          clear hst hac hg HG HA
          go_wp2
          go_round
          case rel => exact ⟨k + 1, acc', by omega, by omega, by go_num, congrArg (Value.int .i64) HS.out, HC.out, HR.out⟩
          case measure => simp [intOf]; omega
        · have g128 : (c.toNat : Int) < 128 := by omega
          by_cases h0 : c.toNat = 0 ∧ 0 < k
          · have hg : getL (l.drop p) = none := by rw [← HG.out, getGo, if_neg h9, if_neg h128, if_pos h0]
            have HR := Lib.hid hg
            obtain ⟨h0, hk0⟩ := h0
            have h0' : (c.toNat : Int) = 0 := by omega
            clear hg HG HA h0 h128
            go_wp2
            go_ret3
            exact ⟨by rw [HR.out]; rfl, rfl⟩
          · have hg : getL (l.drop p) = some (acc + c.toNat * 128 ^ k, k + 1) := by rw [← HG.out, getGo, if_neg h9, if_neg h128, if_neg h0]
            have hst := or_acc acc c.toNat k ((c.toNat : Int) % 128) (by omega) HA.out hk8 (by omega)
            generalize acc + c.toNat * 128 ^ k = acc' at hst hg
            have HS := Lib.hid hst
            have HR := Lib.hid hg
            clear hg hst HG HA
            have fin : ∀ x : Int, x = (acc' : Int) → Ending.returned (.tuple #[.int .i64 x, .int .i64 ((p : Int) + k + 1), .bool true]) = .returned (ans3 ((getL (l.drop p)).map fun x => (x.1, p + x.2))) := by
              intro x hx
              rw [hx, HR.out]
              simp [ans3]
              omega
            have FIN := Lib.hid fin
            clear fin
            by_cases hc0 : c.toNat = 0
            · have hk0 : k = 0 := by omega
              have g0 : ((c.toNat : Int) == 0) = true := by simp; omega
              clear h0 hc0 g128
              subst hk0
              rw [Nat.add_zero] at hcell'
              have hs0 := HS.out
              rw [Nat.mul_zero, Int.pow_zero, Int.mul_one, IntWalk.wrap64_in _ (by omega)] at hs0
              have HS0 := Lib.hid hs0
              clear hs0
              go_wp2
              go_ret3
              exact ⟨FIN.out _ HS0.out, rfl⟩
            · have g0 : ((c.toNat : Int) == 0) = false := by simp; omega
              clear h0
              go_wp2
              go_ret3
              exact ⟨FIN.out _ HS.out, rfl⟩
    · have : l.drop (p + k) = [] := List.drop_eq_nil_of_le (by omega)
      rw [this] at hget
      have hg : getL (l.drop p) = none := by rw [← hget, getGo]
      have HR := Lib.hid hg
      clear hg hget this
      have hlt' : ¬ (k : Int) < (l.length : Int) - (p : Int) := by omega
      by_cases h9 : (k : Int) < 9
      · go_wp2
        go_ret3
        exact ⟨by rw [HR.out]; rfl, rfl⟩
      · go_wp2
        go_ret3
        exact ⟨by rw [HR.out]; rfl, rfl⟩

theorem rget_any (v : Value) (l : List UInt8) (at_ : Int) (w : World) (hv : RdB w v l) :
    Calls Tryz.prog 69 #[v, .int .i64 at_] w fun e w' => e = .returned (ans3 (getAt l at_)) ∧ w = w' := by
  by_cases h : at_ < 0 ∨ (l.length : Int) ≤ at_
  · have := rget_out v l at_ h w hv
    rw [getAt, if_pos h]
    exact this
  · obtain ⟨p, rfl⟩ := Int.eq_ofNat_of_zero_le (by omega : 0 ≤ at_)
    rw [getAt_nat l p (by omega)]
    exact rget_in v l p (by omega) w hv
end Go.Proofs.YteeikmpfgbfeoaaGreat
