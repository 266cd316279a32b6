import Derived.Test.YteeikmpfgbfeoaaSumTurn
import Derived.Test.YteeikmpfgbfeoaaWords
import Derived.Test.YteeikmpfgbfeoaaFrameMath
import Derived.Test.YteeikmpfgbfeoaaFrameLib
import Derived.Test.YteeikmpfgbfeoaaFixedOut
import Derived.OwnWalk
import Derived.Test.YteeikmpfgbfeoaaRefNum
import Derived.Test.YteeikmpfgbfeoaaKeyMay
import Derived.Test.YteeikmpfgbfeoaaRegion
import Derived.Test.YteeikmpfgbfeoaaTabGet
import Derived.Test.YteeikmpfgbfeoaaOwnEnt
import Derived.Test.YteeikmpfgbfeoaaTabBox
import Derived.Test.YteeikmpfgbfeoaaBlkRPut
import Derived.Deep.Cut
import Derived.Laws.FloatBits
import Derived.Laws.FloatArith
import Derived.WalkLawsBesides
import Derived.Laws.Externs

/-
  What sum.Sum and sum.Hash do, for all that they are given.
-/
namespace Go.Proofs.Yteeikmpfgbfeoaa
open Go.RowKit

theorem crcL_take (c : Nat) (l : List UInt8) (k : Nat) (h : k < l.length) : crcL c (l.take (k + 1)) = crcB (crcL c (l.take k)) (l.getD k 0) := by
  rw [take_snoc' l k h, crcL_append]
  rfl

/-- One bit, the polynomial under a mask of the bit that falls out. -/
theorem step_mask (y : Nat) (hy : y < 2 ^ 32) : bits .xor .u32 ((y : Int) / 2) (bits .and .u32 2197175160 (-bits .and .u32 (y : Int) 1 % 4294967296)) = ((st1 y : Nat) : Int) := by
  rw [and_one_u32 y hy]
  have h2 : (y : Int) / 2 = ((y / 2 : Nat) : Int) := by omega
  have hp : st1 y < 2 ^ 32 := st1_lt y hy
  rcases Nat.mod_two_eq_zero_or_one y with h | h
  · rw [h, st1_even y h]
    have e : bits .and .u32 2197175160 (-((0 : Nat) : Int) % 4294967296) = ((0 : Nat) : Int) := by decide
    rw [e, h2, xor_u32 _ _ (by omega) (by decide), Nat.xor_zero]
  · rw [h, st1_odd y h]
    have e : bits .and .u32 2197175160 (-((1 : Nat) : Int) % 4294967296) = ((poly : Nat) : Int) := by decide
    rw [e, h2, xor_u32 _ _ (by omega) (by decide)]

/-- All bits turned round, as programs spell it. -/
theorem flip_u32 (x : Nat) (hx : x < 2 ^ 32) : wrap64 (bits .xor .u32 IntKind.u32.max (x : Int)) = ((x ^^^ 4294967295 : Nat) : Int) := by
  have h : x ^^^ 4294967295 < 2 ^ 32 := Nat.xor_lt_two_pow hx (by decide)
  have e : IntKind.u32.max = ((4294967295 : Nat) : Int) := by decide
  rw [e, xor_u32 _ _ (by decide) hx, Nat.xor_comm]
  exact IntWalk.wrap64_in _ (by omega)

set_option maxRecDepth 100000 in
set_option maxHeartbeats 1000000 in
theorem sum_any (v : Value) (l : List UInt8) (w : World) (hv : RdB w v l) :
    Calls Try.prog 41 #[v] w fun e w' => e = .returned (.int .i64 (sumL l : Nat)) ∧ w = w' := by
  obtain ⟨a, cap, rfl, hc1, hc2⟩ := hv.form
  unfold maxLen at hc2
  go_enter Try.func41, Try.ntmps41
  go_wp2
  go_loop [3, 8] (fun x i => ∃ k : Nat, k ≤ l.length ∧ i = .int .i64 k ∧ x = .int .u32 (crcL 4294967295 (l.take k) : Nat)) (fun _ i => l.length - (intOf i).toNat)
  case atStart => exact ⟨0, Nat.zero_le _, rfl, rfl⟩
  case round =>
    obtain ⟨k, hk, rfl, rfl⟩ := hrel
    have hlt := crcL_lt (l.take k) 4294967295 (by decide)
    by_cases hkl : k < l.length
    · obtain ⟨b, off, cap', hv', _, _, hbw, hcell⟩ := hv.cells (by intro h; subst h; simp at hkl)
      cases hv'
      have hcell' := hcell k hkl
      have hst := crcL_take 4294967295 l k hkl
      clear hcell
      generalize l.getD k 0 = c at hst hcell'
      generalize crcL 4294967295 (l.take k) = x at *
      have hcb := byte_le c
      have H := Lib.hid hst
      clear hst
      have hxc : x ^^^ c.toNat < 2 ^ 32 := Nat.xor_lt_two_pow hlt (by omega)
      have hX := xor_u32 x c.toNat hlt (by omega)
      unfold crcB at H
      generalize hz : x ^^^ c.toNat = z at *
      have HX := Lib.hid hX
      clear hX hz
      go_wp2
      go_loop [3, 16] (fun y i => ∃ m : Nat, m ≤ 8 ∧ i = .int .i64 m ∧ y = .int .u32 (stN m z : Nat)) (fun _ i => 8 - (intOf i).toNat)
      case atStart => exact ⟨0, Nat.zero_le _, rfl, congrArg (Value.int .u32) HX.out⟩
      case round =>
        obtain ⟨m, hm, rfl, rfl⟩ := hrel
        have hylt := stN_lt m z hxc
        by_cases hm8 : m < 8
        · have hnx : stN (m + 1) z = st1 (stN m z) := stN_add m 1 z
          generalize stN m z = y at *
          have HN := Lib.hid hnx
          clear hnx
          go_wp2
          go_round
          case rel => exact ⟨m + 1, by omega, by go_num, congrArg (Value.int .u32) ((step_mask y hylt).trans (congrArg (fun n : Nat => (n : Int)) HN.out.symm))⟩
          case measure => simp [intOf]; omega
        · obtain rfl : m = 8 := by omega
          generalize stN 8 z = y at *
          go_wp2
          go_round
          case rel => exact ⟨k + 1, by omega, by go_num, congrArg (fun n : Nat => Value.int .u32 (n : Int)) H.out.symm⟩
          case measure => simp [intOf]; omega
    · obtain rfl : k = l.length := by omega
      rw [List.take_length] at *
      have hs : sumL l = crcL 4294967295 l ^^^ 4294967295 := rfl
      have hf := flip_u32 _ hlt
      have hr := hf.trans (congrArg (fun n : Nat => (n : Int)) hs.symm)
      clear hf hs
      generalize crcL 4294967295 l = x at *
      have H := Lib.hid hr
      clear hr
      go_wp2
      go_ret
      exact ⟨congrArg (fun n : Int => Ending.returned (.int .i64 n)) H.out, rfl⟩

/-- .. of the document. -/
theorem xor_poly (y : Nat) (hy : y < 2 ^ 32) : bits .xor .u32 ((y : Int) / 2) 2197175160 = ((y / 2 ^^^ poly : Nat) : Int) := by
  have h2 : (y : Int) / 2 = ((y / 2 : Nat) : Int) := by omega
  rw [h2]
  exact xor_u32 _ poly (by omega) (by decide)

end Go.Proofs.Yteeikmpfgbfeoaa

/-
  What frame.Put and frame.Get do, for all that they are given.
-/
namespace Go.Proofs.Yteeikmpfgbfeoaa
open Go.RowKit

theorem rdB_form' {w : World} {v : Value} {l : List UInt8} (h : RdB w v l) : ∃ a cap, v = .slice a l.length cap := let ⟨a, cap, h, _⟩ := h.form; ⟨a, cap, h⟩

/-- A slice of three slices that was built. -/
theorem rdLL_three {w : World} {B : Nat} {c1 c2 c3 : Value} {l1 l2 l3 : List UInt8} {e : Nat} (h : w.heap[B]? = some (.cells #[c1, c2, c3] e (0, 0))) (h1 : RdB w c1 l1) (h2 : RdB w c2 l2) (h3 : RdB w c3 l3) :
    RdLL w (.slice (some ⟨B, 0, none⟩) 3 3) [l1, l2, l3] := by
  refine ⟨[c1, c2, c3], ⟨_, _, rfl, Nat.le_refl _, by unfold maxLen; simp, rfl, .inr ⟨B, 0, rfl, blk_lt h, fun j u hj => ?_⟩⟩, fun i c l hc hl => ?_⟩
  · rw [Nat.zero_add, blk_cell h]
    simpa using hj
  · match i, hc, hl with
    | 0, hc, hl => simp at hc hl; subst hc hl; exact h1
    | 1, hc, hl => simp at hc hl; subst hc hl; exact h2
    | 2, hc, hl => simp at hc hl; subst hc hl; exact h3
    | i + 3, hc, hl => simp at hc

set_option maxRecDepth 100000 in
set_option maxHeartbeats 1000000 in
theorem fput_any (w : World) (v : Value) (l : List UInt8) (h : RdB w v l) (hn : l.length < 1000000000000) :
    Calls Try.prog 24 #[v] w (RetB w.heap.size w (frL l)) := by
  obtain ⟨a, cap, rfl, hc1, hc2⟩ := h.form
  unfold maxLen at hc2
  by_cases hm : l.length ≤ 1048576
  · have g1 : ¬ (1048576 : Int) < (l.length : Int) := by omega
    have e1 : frL l = [fixL (l.length : Int) 4, fixL (sumL l : Int) 4, l].flatten := by
      unfold frL
      rw [if_pos hm]
      simp [frRaw]
    have HV := Lib.hid h
    rw [e1]
    clear e1
    have hs : sumLen [fixL (l.length : Int) 4, fixL (sumL l : Int) 4, l] < 1000000000000 := by
      simp [sumLen, fixL_length]
      omega
    have HS := Lib.hid hs
    clear h hs
    obtain ⟨fl, hfl⟩ : ∃ fl, fl = [fixL (l.length : Int) 4, fixL (sumL l : Int) 4, l].flatten := ⟨_, rfl⟩
    rw [← hfl]
    have HFL := Lib.hid hfl
    clear hfl
    go_enter Try.func24, Try.ntmps24
    go_wp2_with fail
    refine (fixed_yes (l.length : Int) 4 (by omega) _).mono ?_
    rintro e w1 ⟨u1, rfl, hu1, hb1⟩
    obtain ⟨a1, k1, rfl⟩ := rdB_form' hu1.read
    rw [fixL_length] at *
    have HV1 := Lib.hid (HV.out.below hb1 (Nat.le_refl _))
    have HU1 := Lib.hid hu1
    have HB1 := Lib.hid hb1
    clear hu1 hb1
    go_wp2_with fail
    refine (sum_any _ l _ HV1.out).mono ?_
    rintro e w2 ⟨rfl, rfl⟩
    go_wp2_with fail
    refine (fixed_yes (sumL l : Int) 4 (by omega) _).mono ?_
    rintro e w3 ⟨u3, rfl, hu3, hb3⟩
    obtain ⟨a3, k3, rfl⟩ := rdB_form' hu3.read
    rw [fixL_length] at *
    have HV3 := Lib.hid (HV1.out.below hb3 (Nat.le_refl _))
    have HU13 := Lib.hid (HU1.out.below hb3 (Nat.le_refl _))
    have HU3 := Lib.hid hu3
    have HB3 := Lib.hid (HB1.out.trans (hb3.mono HB1.out.size))
    clear hu3 hb3
    go_wp2_with fail
    obtain ⟨o3, ho3⟩ : ∃ o3, o3 = Obj.cells #[.slice a1 4 k1, .slice a3 4 k3, .slice a l.length cap] 22 := ⟨_, rfl⟩
    rw [← ho3]
    have hal : Below w.heap.size w (w3.alloc o3) := HB3.out.alloc HB3.out.size _
    have hal3 : Below w3.heap.size w3 (w3.alloc o3) := (Below.refl _ _).alloc (Nat.le_refl _) _
    have hrd := rdLL_three (w := w3.alloc o3) (B := w3.heap.size) (e := 22) (by rw [← ho3]; exact heap_alloc_new w3 o3) (HU13.out.read.below hal3 (Nat.le_refl _)) (HU3.out.read.below hal3 (Nat.le_refl _)) (HV3.out.below hal3 (Nat.le_refl _))
    refine (concat_any _ _ _ hrd (by simp) HS.out).mono ?_
    rintro e w4 ⟨u4, rfl, hu4, hb4⟩
    go_wp2_with fail
    go_ret
    rw [HFL.out]
    exact ⟨_, rfl, own_base hu4 fun k hk => Nat.le_trans hal.size (World.ownsRow.lt hu4 k hk).1, hal.trans (hb4.mono hal.size)⟩
  · have g1 : (1048576 : Int) < (l.length : Int) := by omega
    have e1 : frL l = [] := by unfold frL; rw [if_neg hm]
    rw [e1]
    clear h e1
    go_enter Try.func24, Try.ntmps24
    go_wp2
    go_ret
    exact ⟨_, rfl, OwnB.nil _ _ _, Below.refl _ _⟩

/-- What Get tells of a place: nothing, or what the record there holds, and where it ends. -/
def GetFr (w : World) (l : List UInt8) (at_ : Int) (e : Ending) (w' : World) : Prop :=
  ((∀ p : Nat, at_ = p → frOk l p = false) ∧ e = .returned (.tuple #[.slice none 0 0, .int .i64 0, .bool false]) ∧ Below w.heap.size w w') ∨
  (∃ p : Nat, at_ = p ∧ frOk l p = true ∧ ∃ u, e = .returned (.tuple #[u, .int .i64 ((p + 8 + frN l p : Nat) : Int), .bool true]) ∧ OwnB w' w.heap.size 5 u (frP l p) ∧ Below w.heap.size w w')

theorem frN_lt (l : List UInt8) (p : Nat) : frN l p < 4294967296 := by
  have h := valL_lt ((l.drop p).take 4)
  have h2 : ((l.drop p).take 4).length ≤ 4 := by rw [List.length_take]; omega
  have h3 : 256 ^ ((l.drop p).take 4).length ≤ 256 ^ 4 := Nat.pow_le_pow_right (by omega) h2
  unfold frN
  omega

theorem frOk_far {l : List UInt8} {p : Nat} (h : l.length < p + 8 + frN l p) : frOk l p = false := by
  unfold frOk
  rw [decide_eq_false (by omega)]
  rfl

theorem frOk_big {l : List UInt8} {p : Nat} (h : 1048576 < frN l p) : frOk l p = false := by
  unfold frOk
  rw [decide_eq_false (p := frN l p ≤ 1048576) (by omega)]
  simp

theorem frOk_sum {l : List UInt8} {p : Nat} (h : ¬ sumL (frP l p) = valL ((l.drop (p + 4)).take 4)) : frOk l p = false := by
  unfold frOk
  rw [decide_eq_false h]
  simp

theorem frOk_mk {l : List UInt8} {p : Nat} (h1 : p + 8 + frN l p ≤ l.length) (h2 : frN l p ≤ 1048576) (h3 : sumL (frP l p) = valL ((l.drop (p + 4)).take 4)) : frOk l p = true := by
  unfold frOk
  rw [decide_eq_true h1, decide_eq_true h2, decide_eq_true h3]
  rfl

theorem rdB_empty (w : World) (a : Option Addr) (c : Nat) (hc : c ≤ maxLen) (ha : a = none → c = 0) : RdB w (.slice a 0 c) [] := ⟨a, c, rfl, Nat.zero_le _, hc, rfl, .inl ⟨rfl, ha⟩⟩

set_option maxRecDepth 100000 in
set_option maxHeartbeats 2000000 in
theorem fget_any (w : World) (v : Value) (l : List UInt8) (at_ : Int) (h : RdB w v l) (hn : l.length < 1000000000000) (ha : -9223372036854775808 ≤ at_ ∧ at_ ≤ 9223372036854775807) :
    Calls Try.prog 51 #[v, .int .i64 at_] w (GetFr w l at_) := by
  obtain ⟨a, cap, rfl, hc1, hc2⟩ := h.form
  unfold maxLen at hc2
  have HV := Lib.hid h
  by_cases h1 : at_ < 0 ∨ (l.length : Int) - 4 < at_
  · have HG := Lib.hid (getFixed_out _ l at_ 4 (by omega) (by omega) w h)
    have HN : Hid (∀ p : Nat, at_ = p → frOk l p = false) := Lib.hid fun p hp => frOk_far (by omega)
    clear h1 h
    go_enter Try.func51, Try.ntmps51
    go_wp2_with (go_at_call 49; refine HG.out.mono ?_; rintro e w1 ⟨rfl, rfl⟩)
    go_ret3
    exact .inl ⟨HN.out, rfl, Below.refl _ _⟩
  obtain ⟨p, rfl⟩ : ∃ p : Nat, at_ = p := ⟨at_.toNat, by omega⟩
  have hp4 : p + 4 ≤ l.length := by omega
  have HG := Lib.hid (getFixed_yes _ l p 4 (by omega) hp4 w h)
  have hlt := frN_lt l p
  have hfn : valL ((l.drop p).take 4) = frN l p := rfl
  rw [hfn] at HG
  by_cases h2 : 1048576 < frN l p ∨ l.length < p + 8 + frN l p
  · have HN : Hid (frOk l p = false) := Lib.hid (h2.elim (fun h => frOk_big h) fun h => frOk_far h)
    have HN' : Hid (∀ q : Nat, ((p : Int) = (q : Int)) → frOk l q = false) := Lib.hid fun q hq => by
      have : q = p := by omega
      rw [this]; exact HN.out
    clear h hfn h1
    generalize frN l p = n at *
    have g : (1048576 : Int) < (n : Int) ∨ ((n : Int) ≤ 1048576 ∧ (l.length : Int) - (p : Int) - 8 < (n : Int)) := by omega
    clear h2
    rcases g with g | ⟨g1, g2⟩
    all_goals
      go_enter Try.func51, Try.ntmps51
      go_wp2_with (go_at_call 49; refine HG.out.mono ?_; rintro e w1 ⟨rfl, rfl⟩)
      go_ret3
      exact .inl ⟨HN'.out, rfl, Below.refl _ _⟩
  have h3 : frN l p ≤ 1048576 := by omega
  have h4 : p + 8 + frN l p ≤ l.length := by omega
  obtain ⟨b, off, cap', hv', _, _, _, _⟩ := h.cells (by intro e; subst e; simp at h4)
  cases hv'
  have hadd : (⟨b, off, none⟩ : Addr).add (p + 8) = ⟨b, off + (p + 8), none⟩ := by unfold Addr.add; split <;> simp_all
  have HG2 := Lib.hid (getFixed_yes _ l (p + 4) 4 (by omega) (by omega) w h)
  have HSUB := Lib.hid (sub_rd h (p + 8) (frN l p) (by omega) (by omega))
  rw [Option.map_some, hadd] at HSUB
  clear hadd
  have HP := Lib.hid (frP_length h4)
  have hck : ((valL ((l.drop (p + 4)).take 4) : Nat) : Int) < 4294967296 := by
    have := frN_lt l (p + 4)
    unfold frN at this
    omega
  have hpe : ((p + 4 : Nat) : Int) = (p : Int) + 4 := by omega
  rw [hpe] at HG2
  rw [show ((4 : Nat) : Int) = 4 from rfl] at HG HG2
  have hn1 : ((p : Int) + 8 + (frN l p : Int)).toNat = p + 8 + frN l p := by omega
  have hn2 : p + 8 + frN l p - (p + 8) = frN l p := by omega
  have hret : ((p : Int) + 8 + (frN l p : Int)) = ((p + 8 + frN l p : Nat) : Int) := by omega
  have HRET := Lib.hid hret
  have hps : ((p : Int) + 8).toNat = p + 8 := by omega
  have HOK : Hid (sumL (frP l p) = valL ((l.drop (p + 4)).take 4) → frOk l p = true) := Lib.hid fun h => frOk_mk h4 h3 h
  have HNO : Hid (¬ sumL (frP l p) = valL ((l.drop (p + 4)).take 4) → frOk l p = false) := Lib.hid fun h => frOk_sum h
  have hX : (l.drop (p + 8)).take (frN l p) = frP l p := rfl
  rw [hX] at HSUB
  clear h hfn h1 h2 hpe hret hX
  generalize hfe : frP l p = f at *
  generalize valL ((l.drop (p + 4)).take 4) = ck at *
  generalize hne : frN l p = n at *
  have HFE := Lib.hid hfe
  have HNE := Lib.hid hne
  clear hfe hne
  have g1 : ¬ (1048576 : Int) < (n : Int) := by omega
  have g2 : ¬ (l.length : Int) - (p : Int) - 8 < (n : Int) := by omega
  obtain ⟨sv, hsv⟩ : ∃ sv, sv = (if cap = p + 8 then Value.slice (some ⟨b, off, none⟩) n 0 else .slice (some ⟨b, off + (p + 8), none⟩) n (cap - (p + 8))) := ⟨_, rfl⟩
  have HR : Hid (RdB w sv f) := Lib.hid (by
    rw [hsv]
    split
    · rename_i hcp
      have hn0 : n = 0 := by omega
      have hf0 : f = [] := List.eq_nil_of_length_eq_zero (by rw [HP.out, hn0])
      rw [hf0, hn0]
      exact rdB_empty _ _ _ (Nat.zero_le _) fun h => by cases h
    · unfold RdB
      rw [HP.out]
      exact HSUB.out)
  have hsum : (sumL f : Int) < 4294967296 := by have := sumL_lt f; omega
  clear hsum hck hlt
  by_cases hcp : cap = p + 8
  · rw [if_pos hcp] at hsv
    subst hsv
    subst hcp
    by_cases hs : sumL f = ck
    · have HOK' := Lib.hid (HOK.out hs)
      have HCL := Lib.hid (bclone_any w _ f HR.out (by have := HP.out; omega))
      have HSM := Lib.hid (sum_any _ f w HR.out)
      have hsi : ((sumL f : Int) != (ck : Int)) = false := by rw [hs]; simp
      clear hs
      go_enter Try.func51, Try.ntmps51
      go_wp2_with (first | (go_at_call 49; first | ((with_reducible refine HG.out.mono ?_); rintro e w1 ⟨rfl, rfl⟩) | ((with_reducible refine HG2.out.mono ?_); rintro e w1 ⟨rfl, rfl⟩)) | (go_at_call 41; (with_reducible refine HSM.out.mono ?_); rintro e w1 ⟨rfl, rfl⟩) | (go_at_call 70; (with_reducible refine HCL.out.mono ?_); rintro e w1 ⟨u, rfl, hu, hb⟩; have HU := Lib.hid hu; have HB := Lib.hid hb; clear hu hb))
      go_ret3
      refine .inr ⟨p, rfl, HOK'.out, u, ?_, ?_, HB.out⟩
      · rw [HNE.out, ← HRET.out]
        rfl
      · rw [HFE.out]
        exact HU.out
    · have HNO' : Hid (∀ q : Nat, ((p : Int) = (q : Int)) → frOk l q = false) := Lib.hid fun q hq => by
        have : q = p := by omega
        rw [this]; exact HNO.out hs
      have HSM := Lib.hid (sum_any _ f w HR.out)
      have hsb : ((sumL f : Int) != (ck : Int)) = true := by simp; omega
      clear hs
      go_enter Try.func51, Try.ntmps51
      go_wp2_with (first | (go_at_call 49; first | ((with_reducible refine HG.out.mono ?_); rintro e w1 ⟨rfl, rfl⟩) | ((with_reducible refine HG2.out.mono ?_); rintro e w1 ⟨rfl, rfl⟩)) | (go_at_call 41; (with_reducible refine HSM.out.mono ?_); rintro e w1 ⟨rfl, rfl⟩))
      go_ret3
      exact .inl ⟨HNO'.out, rfl, Below.refl _ _⟩
  · rw [if_neg hcp] at hsv
    subst hsv
    by_cases hs : sumL f = ck
    · have HOK' := Lib.hid (HOK.out hs)
      have HCL := Lib.hid (bclone_any w _ f HR.out (by have := HP.out; omega))
      have HSM := Lib.hid (sum_any _ f w HR.out)
      have hsi : ((sumL f : Int) != (ck : Int)) = false := by rw [hs]; simp
      clear hs
      go_enter Try.func51, Try.ntmps51
      go_wp2_with (first | (go_at_call 49; first | ((with_reducible refine HG.out.mono ?_); rintro e w1 ⟨rfl, rfl⟩) | ((with_reducible refine HG2.out.mono ?_); rintro e w1 ⟨rfl, rfl⟩)) | (go_at_call 41; (with_reducible refine HSM.out.mono ?_); rintro e w1 ⟨rfl, rfl⟩) | (go_at_call 70; (with_reducible refine HCL.out.mono ?_); rintro e w1 ⟨u, rfl, hu, hb⟩; have HU := Lib.hid hu; have HB := Lib.hid hb; clear hu hb))
      go_ret3
      refine .inr ⟨p, rfl, HOK'.out, u, ?_, ?_, HB.out⟩
      · rw [HNE.out, ← HRET.out]
        rfl
      · rw [HFE.out]
        exact HU.out
    · have HNO' : Hid (∀ q : Nat, ((p : Int) = (q : Int)) → frOk l q = false) := Lib.hid fun q hq => by
        have : q = p := by omega
        rw [this]; exact HNO.out hs
      have HSM := Lib.hid (sum_any _ f w HR.out)
      have hsb : ((sumL f : Int) != (ck : Int)) = true := by simp; omega
      clear hs
      go_enter Try.func51, Try.ntmps51
      go_wp2_with (first | (go_at_call 49; first | ((with_reducible refine HG.out.mono ?_); rintro e w1 ⟨rfl, rfl⟩) | ((with_reducible refine HG2.out.mono ?_); rintro e w1 ⟨rfl, rfl⟩)) | (go_at_call 41; (with_reducible refine HSM.out.mono ?_); rintro e w1 ⟨rfl, rfl⟩))
      go_ret3
      exact .inl ⟨HNO'.out, rfl, Below.refl _ _⟩
end Go.Proofs.Yteeikmpfgbfeoaa

/-
  What the document's Frame and Unframe do.
-/
namespace Go.Proofs.Yteeikmpfgbfeoaa
open Go.RowKit

end Go.Proofs.Yteeikmpfgbfeoaa

/-
  What the document's answer for layer 1 does: texts out of bytes.
-/
namespace Go.Proofs.Yteeikmpfgbfeoaa
open Go.RowKit

end Go.Proofs.Yteeikmpfgbfeoaa

/-
  What key.Put and the document's PutKey do, for every key.
-/
namespace Go.Proofs.Yteeikmpfgbfeoaa
open Go.RowKit

/-- The bytes of a key: none, if it may not be. -/
def putK (u : List UInt8) (s k : Int) : List UInt8 := bif mayB u s k then putT u ++ putL (2 * s + k - 1).toNat else []

theorem put_pos (n : Int) (h0 : 0 ≤ n) (h1 : n ≤ 9223372036854775807) (w : World) : Calls Try.prog 48 #[.int .i64 n] w (RetB w.heap.size w (putL n.toNat)) := by
  obtain ⟨m, rfl⟩ := Int.eq_ofNat_of_zero_le h0
  exact put_nat m h1 w

theorem OwnB.mono_B {w : World} {B B' e : Nat} {v : Value} {l : List UInt8} (h : OwnB w B e v l) (hB : B' ≤ B) : OwnB w B' e v l := by
  refine ⟨h.1, ?_⟩
  rcases h.2 with h2 | ⟨g, cap, cur, rfl, h3, r⟩
  · exact .inl h2
  · exact .inr ⟨g, cap, cur, rfl, by omega, r⟩

set_option maxRecDepth 100000 in
theorem kput_no (u : ByteArray) (s k : Int) (hu : u.size ≤ maxLen) (h : mayB u.data.toList s k = false) (w : World) :
    Calls Try.prog 47 #[.agg #[.string u, .int .i64 s, .int .i64 k]] w (RetB w.heap.size w []) := by
  have hm := may_any u s k hu
  rw [h] at hm
  have HM := Lib.hid hm
  clear hm h
  go_enter Try.func47, Try.ntmps47
  go_wp2_with (go_at_call 57; refine (HM.out _).mono ?_; rintro e w1 ⟨rfl, hb⟩)
  go_ret
  exact ⟨_, rfl, OwnB.nil _ _ _, ((Below.refl _ _).alloc (Nat.le_refl _) _).trans (hb.mono (by simp))⟩

set_option maxRecDepth 100000 in
set_option maxHeartbeats 1000000 in
theorem kput_yes (u : ByteArray) (s k : Int) (hu : u.size ≤ 64) (h0 : 0 ≤ s) (h1 : s ≤ 9007199254740992) (hk0 : 1 ≤ k) (hk1 : k ≤ 2) (w : World) :
    Calls Try.prog 47 #[.agg #[.string u, .int .i64 s, .int .i64 k]] w (RetB w.heap.size w (putT u.data.toList ++ putL (2 * s + k - 1).toNat)) := by
  have hm := may_any u s k (by unfold maxLen; omega)
  rw [mayB_mk (by rw [str_len]; exact hu) h0 h1 (by omega)] at hm
  have HM := Lib.hid hm
  have HLP := Lib.hid (putL_length (2 * s + k - 1).toNat (by omega))
  have HLT : Hid ((putT u.data.toList).length ≤ 73) := Lib.hid (by have := putL_length u.size (by omega); unfold putT; rw [List.length_append, str_len]; omega)
  clear hm
  go_enter Try.func47, Try.ntmps47
  go_wp2_with (go_at_call 57; refine (HM.out _).mono ?_; rintro e w1 ⟨rfl, hb⟩)
  have d0 : w1.cell? ⟨w.heap.size, 0, none⟩ = some (.string u) := (hb.cell (p := ⟨w.heap.size, 0, none⟩) (by simp)).trans (by go_simp)
  have d1 : w1.cell? ⟨w.heap.size, 1, none⟩ = some (.int .i64 s) := (hb.cell (p := ⟨w.heap.size, 1, none⟩) (by simp)).trans (by go_simp)
  have d2 : w1.cell? ⟨w.heap.size, 2, none⟩ = some (.int .i64 k) := (hb.cell (p := ⟨w.heap.size, 2, none⟩) (by simp)).trans (by go_simp)
  have hB : Below w.heap.size w w1 := ((Below.refl _ _).alloc (Nat.le_refl _) _).trans (hb.mono (by simp))
  clear hb
  have e1 : IntKind.i64.wrap (2 * s) = 2 * s := IntWalk.i64_in _ (by omega)
  have e2 : IntKind.i64.wrap (2 * s + k) = 2 * s + k := IntWalk.i64_in _ (by omega)
  have e3 : IntKind.i64.wrap (2 * s + k - 1) = 2 * s + k - 1 := IntWalk.i64_in _ (by omega)
  refine wp_region_plan [(true, 0), (true, 1), (true, 3), (true, 4), (true, 5), (true, 6), (true, 7), (true, 8), (true, 9), (false, 2), (false, 10), (false, 11), (true, 12)] (by kernel_rfl) (by kernel_rfl) (by kernel_rfl) (by kernel_rfl) (by kernel_rfl) ?_
  simp only [planO, List.drop_succ_cons, List.drop_zero]
  refine PlanO.take (v := ?v0) (by kernel_rfl) ?y0 ?r0
  case y0 => (intro wz hz; go_simp; try with_reducible rfl)
  (try simp only [Act.put, List.setIfInBounds_toArray, List.set_cons_zero, List.set_cons_succ])
  refine PlanO.take (v := ?v1) (by kernel_rfl) ?y1 ?r1
  case y1 => (intro wz hz; have c0 := Ext.at_ hz d0; have c1 := Ext.at_ hz d1; have c2 := Ext.at_ hz d2; go_simp; try with_reducible rfl)
  (try simp only [Act.put, List.setIfInBounds_toArray, List.set_cons_zero, List.set_cons_succ])
  refine PlanO.take (v := ?v3) (by kernel_rfl) ?y3 ?r3
  case y3 => (intro wz hz; go_simp; try with_reducible rfl)
  (try simp only [Act.put, List.setIfInBounds_toArray, List.set_cons_zero, List.set_cons_succ])
  refine PlanO.take (v := ?v4) (by kernel_rfl) ?y4 ?r4
  case y4 => (intro wz hz; have c0 := Ext.at_ hz d0; have c1 := Ext.at_ hz d1; have c2 := Ext.at_ hz d2; go_simp; try with_reducible rfl)
  (try simp only [Act.put, List.setIfInBounds_toArray, List.set_cons_zero, List.set_cons_succ])
  refine PlanO.take (v := ?v5) (by kernel_rfl) ?y5 ?r5
  case y5 => (intro wz hz; go_simp; try with_reducible rfl)
  (try simp only [Act.put, List.setIfInBounds_toArray, List.set_cons_zero, List.set_cons_succ])
  refine PlanO.take (v := ?v6) (by kernel_rfl) ?y6 ?r6
  case y6 => (intro wz hz; go_simp; try with_reducible rfl)
  (try simp only [Act.put, List.setIfInBounds_toArray, List.set_cons_zero, List.set_cons_succ])
  refine PlanO.take (v := ?v7) (by kernel_rfl) ?y7 ?r7
  case y7 => (intro wz hz; have c0 := Ext.at_ hz d0; have c1 := Ext.at_ hz d1; have c2 := Ext.at_ hz d2; go_simp; try with_reducible rfl)
  (try simp only [Act.put, List.setIfInBounds_toArray, List.set_cons_zero, List.set_cons_succ])
  refine PlanO.take (v := ?v8) (by kernel_rfl) ?y8 ?r8
  case y8 => (intro wz hz; go_simp; try with_reducible rfl)
  (try simp only [Act.put, List.setIfInBounds_toArray, List.set_cons_zero, List.set_cons_succ])
  refine PlanO.take (v := ?v9) (by kernel_rfl) ?y9 ?r9
  case y9 => (intro wz hz; go_simp; try with_reducible rfl)
  (try simp only [Act.put, List.setIfInBounds_toArray, List.set_cons_zero, List.set_cons_succ])
  refine PlanO.keep (fun K hK => ?_)
  go_simp
  go_at_call 60
  refine (putText_any u (by omega) _).mono ?_
  rintro e u1 ⟨p1, rfl, ho1, hb1⟩
  have hE1 : Ext w1.drew u1 := hb1
  go_wp2_with fail
  refine hK.out _ _ hb1 ?_
  clear hK K
  (try simp only [Act.put, List.setIfInBounds_toArray, List.set_cons_zero, List.set_cons_succ])
  refine PlanO.keep (fun K hK => ?_)
  go_simp
  go_at_call 48
  refine (put_pos _ (by omega) (by omega) _).mono ?_
  rintro e u2 ⟨p2, rfl, ho2, hb2⟩
  have hr2 := ho2.read
  clear ho2
  have hE2 : Ext w1.drew u2 := Ext.trans hE1 hb2
  have ho1' := ho1.below hb2 (Nat.le_refl _)
  clear ho1
  go_wp2_with fail
  refine hK.out _ _ (hb2.mono hE1.size) ?_
  clear hK K
  (try simp only [Act.put, List.setIfInBounds_toArray, List.set_cons_zero, List.set_cons_succ])
  refine PlanO.keep (fun K hK => ?_)
  refine step_append_bytes rfl (.tmp 8) (.tmp 16) 22 rfl w1.drew.heap.size 5 Try.underlying22 info_u8 _ _ _ _ rfl rfl ho1' hr2 ?b1 ?b2 ?_
  case b1 => exact hE2.size
  case b2 => have := HLT.out; have := HLP.out; omega
  intro v' w' hown' hb'
  have hE3 : Ext w1.drew w' := hb' _ _ (Nat.le_refl _) hE2
  refine hK.out _ _ (hb' _ _ (Nat.le_refl _) (Below.refl _ _)) ?_
  clear hK K
  (try simp only [Act.put, List.setIfInBounds_toArray, List.set_cons_zero, List.set_cons_succ])
  refine PlanO.take (v := ?v12) (by kernel_rfl) ?y12 ?r12
  case y12 => (intro wz hz; go_simp; try with_reducible rfl)
  (try simp only [Act.put, List.setIfInBounds_toArray, List.set_cons_zero, List.set_cons_succ])
  refine PlanO.done (NoPanic.normal ?_)
  go_wp2
  go_ret
  exact ⟨_, rfl, hown'.mono_B (hB.size), hB.trans ((below_draw hE3).mono hB.size)⟩

theorem kput_any (u : ByteArray) (s k : Int) (hu : u.size ≤ maxLen) (w : World) : Calls Try.prog 47 #[.agg #[.string u, .int .i64 s, .int .i64 k]] w (RetB w.heap.size w (putK u.data.toList s k)) := by
  unfold putK
  cases h : mayB u.data.toList s k with
  | false => exact kput_no u s k hu h w
  | true =>
    have := mayB_true h
    rw [str_len] at this
    exact kput_yes u s k (by omega) (by omega) (by omega) (by omega) (by omega) w



end Go.Proofs.Yteeikmpfgbfeoaa

/-
  Tables: a table of entries with any filter, as the document tells it.
-/
namespace Go.Proofs.Yteeikmpfgbfeoaa
open Go.RowKit

theorem part_at {es : List Ent} {per k i : Nat} (hi : i < (partE es per k).length) : (partE es per k).getD i Ent.none_ = es.getD (k * per + i) Ent.none_ := by
  rw [part_len] at hi
  unfold partE
  simp only [List.getD, List.getElem?_take, List.getElem?_drop]
  rw [if_pos (by omega)]
theorem blkF_len {es : List Ent} {per k : Nat} (h : putErr (partE es per k) = 0) : (blockL (partE es per k)).length ≤ 100000 ∧ (blkF es per k).length ≤ 100008 := by
  obtain ⟨h1, _, h3⟩ := putErr_ok h
  have := bodyN_len (fun k hk => rising_may h1 hk) (partE es per k).length (Nat.le_refl _)
  have hl := blockL_len (partE es per k)
  unfold blkF
  rw [frRaw_length]
  omega
theorem tabB_len {es : List Ent} {per : Nat} (h : ∀ k, k < nBlk es per → putErr (partE es per k) = 0) : ∀ k, k ≤ nBlk es per → (tabB es per k).length ≤ 100008 * k
  | 0, _ => by simp [tabB]
  | k + 1, hk => by
    unfold tabB
    rw [List.length_append]
    have := tabB_len h k (by omega)
    have := (blkF_len (h k (by omega))).2
    omega
theorem keyB_len {e : Ent} (h : e.may = true) : (keyB e).length ≤ 100 := by
  obtain ⟨m1, m2, m3, m4, _⟩ := may_facts h
  unfold keyB
  rw [List.length_append]
  have h2 := putT_le (uL e) (by omega)
  have h3 := putL_length (numE e) (by unfold numE; omega)
  omega
theorem idxB_len {es : List Ent} {per : Nat} (h : ∀ k, k < nBlk es per → putErr (partE es per k) = 0) (hk2 : nBlk es per ≤ 256) : ∀ k, k ≤ nBlk es per → (idxB es per k).length ≤ 200 * k
  | 0, _ => by simp [idxB]
  | k + 1, hk => by
    unfold idxB
    simp only [List.length_append]
    have h1 := idxB_len h hk2 k (by omega)
    have h0 := h k (by omega)
    have h2 := (blkF_len h0).2
    have h3 := tabB_len h k (by omega)
    have h4 := putL_length (tabB es per k).length (by omega)
    have h5 := putL_length (blkF es per k).length (by omega)
    obtain ⟨r1, r2, _⟩ := putErr_ok h0
    have hp := List.length_pos_iff.2 r2
    have h6 := keyB_len (rising_may r1 (k := (partE es per k).length - 1) (by omega))
    omega

end Go.Proofs.Yteeikmpfgbfeoaa

/-
  Tables: the Users of entries, each once, as the document tells them.
-/
namespace Go.Proofs.Yteeikmpfgbfeoaa
open Go.RowKit

/-- The Users of the first k entries, each once. -/
def usersN (es : List Ent) : Nat → List ByteArray
  | 0 => []
  | k + 1 => usersN es k ++ (if k = 0 ∨ (es.getD k Ent.none_).u ≠ (es.getD (k - 1) Ent.none_).u then [(es.getD k Ent.none_).u] else [])
def usersL (es : List Ent) : List ByteArray := usersN es es.length
theorem usersN_len (es : List Ent) : ∀ k, (usersN es k).length ≤ k
  | 0 => Nat.le_refl _
  | k + 1 => by
    unfold usersN
    rw [List.length_append]
    have := usersN_len es k
    split
    · simp; omega
    · simp; omega
theorem usersN_in (es : List Ent) : ∀ k, k ≤ es.length → ∀ s ∈ usersN es k, ∃ e ∈ es, e.u = s
  | 0, _, s, h => by cases h
  | k + 1, hk, s, h => by
    unfold usersN at h
    rcases List.mem_append.1 h with h | h
    · exact usersN_in es k (by omega) s h
    · split at h
      · rw [List.mem_singleton] at h
        refine ⟨es.getD k Ent.none_, ?_, h.symm⟩
        simp only [List.getD, List.getElem?_eq_getElem (show k < es.length by omega), Option.getD_some]
        exact List.getElem_mem _
      · cases h

theorem info_strT : (Try.prog.info? 9).map (fun i => (i.zero, i.size, i.bytes)) = some (some (.string ⟨#[]⟩), 1, 16) := by kernel_rfl
theorem str_oneT (l : List ByteArray) : ∀ u ∈ l.map Value.string, u.oneCell' = true := by
  intro u hu
  obtain ⟨s, _, rfl⟩ := List.mem_map.1 hu
  rfl
/-- Texts in memory of the call's own. -/
def OwnS (w : World) (B : Nat) (v : Value) (l : List ByteArray) : Prop := w.ownsRow B 9 1 v l.length (l.map Value.string)
theorem one_strT (w : World) (s : ByteArray) : Rd (w.alloc (.cells #[.string s] 9)) 1 (.slice (some ⟨w.heap.size, 0, none⟩) 1 1) 1 ([s].map Value.string) := by
  refine ⟨_, 1, rfl, Nat.le_refl _, by unfold maxLen; omega, rfl, .inr ⟨w.heap.size, 0, rfl, by simp, fun j u hj => ?_⟩⟩
  rw [Nat.zero_add, cell_of_row _ w.heap.size j _ 9 (0, 0) (heap_alloc_new w _)]
  simpa using hj

end Go.Proofs.Yteeikmpfgbfeoaa

/-
  Rounding to the nearest: what is not less is not less when it is rounded. Plain facts on the words of floating point numbers.
-/
namespace Go.Proofs.Yteeikmpfgbfeoaa
open Ieee

/-- 'n / g' to the nearest, between two the even one. -/
def rnd (n g : Nat) : Nat := n / g + (if g < 2 * (n % g) ∨ (2 * (n % g) = g ∧ n / g % 2 = 1) then 1 else 0)

theorem rnd_le (n g : Nat) : n / g ≤ rnd n g ∧ rnd n g ≤ n / g + 1 := by unfold rnd; split <;> omega

theorem rnd_mono {n m g : Nat} (hg : 0 < g) (h : n ≤ m) : rnd n g ≤ rnd m g := by
  have hd := Nat.div_le_div_right (c := g) h
  rcases Nat.lt_or_ge (n / g) (m / g) with h1 | h1
  · have := (rnd_le n g).2
    have := (rnd_le m g).1
    omega
  · have he : n / g = m / g := by omega
    have e1 := Nat.div_add_mod n g
    have e2 := Nat.div_add_mod m g
    rw [he] at e1
    have hr : n % g ≤ m % g := by omega
    unfold rnd
    rw [he]
    split
    · rename_i hc
      rw [if_pos]
      · omega
      · have := Nat.mod_lt m hg
        omega
    · split <;> omega

theorem rnd_scale (n g k : Nat) (hk : 0 < k) : rnd (n * k) (g * k) = rnd n g := by
  unfold rnd
  rw [Nat.mul_div_mul_right _ _ hk, Nat.mul_mod_mul_right]
  have e1 : (g * k < 2 * (n % g * k)) ↔ (g < 2 * (n % g)) := by
    rw [← Nat.mul_assoc]
    exact Nat.mul_lt_mul_right hk
  have e2 : (2 * (n % g * k) = g * k) ↔ (2 * (n % g) = g) := by
    rw [← Nat.mul_assoc]
    exact Nat.mul_left_inj (by omega)
  simp only [e1, e2]

theorem rnd_one (n : Nat) : rnd n 1 = n := by
  unfold rnd
  rw [Nat.div_one, Nat.mod_one]
  simp

theorem cut_even (neg : Bool) (n drop : Nat) : Toward.even.cut neg n drop = rnd n (2 ^ drop) := by
  unfold Toward.cut
  simp only
  rw [Nat.one_shiftLeft]
  by_cases h : drop ≤ n.log2 + 2
  · rw [Nat.min_eq_left h]
    unfold rnd
    congr 1
    by_cases hc : 2 ^ drop < 2 * (n % 2 ^ drop) ∨ (2 * (n % 2 ^ drop) = 2 ^ drop ∧ n / 2 ^ drop % 2 = 1)
    · rw [if_pos hc]
      have : (decide (2 ^ drop < 2 * (n % 2 ^ drop)) || (2 ^ drop == 2 * (n % 2 ^ drop) && n / 2 ^ drop % 2 == 1)) = true := by
        simp only [Bool.or_eq_true, Bool.and_eq_true, decide_eq_true_eq, beq_iff_eq]
        omega
      rw [this]; rfl
    · rw [if_neg hc]
      have : (decide (2 ^ drop < 2 * (n % 2 ^ drop)) || (2 ^ drop == 2 * (n % 2 ^ drop) && n / 2 ^ drop % 2 == 1)) = false := by
        rw [Bool.eq_false_iff]
        simp only [ne_eq, Bool.or_eq_true, Bool.and_eq_true, decide_eq_true_eq, beq_iff_eq]
        omega
      rw [this]; rfl
  · rw [Nat.min_eq_right (by omega)]
    have hn : n < 2 ^ (n.log2 + 1) := by
      by_cases h0 : n = 0
      · subst h0; exact Nat.two_pow_pos _
      · exact (Nat.log2_lt h0).1 (by omega)
    have h2 : 2 ^ (n.log2 + 2) = 2 * 2 ^ (n.log2 + 1) := by rw [Nat.pow_succ, Nat.mul_comm]
    have h3 : 2 ^ (n.log2 + 2) ≤ 2 ^ drop := Nat.pow_le_pow_right (by omega) (by omega)
    have key : ∀ g, 2 * n < g → n / g = 0 ∧ n % g = n := fun g hg => ⟨Nat.div_eq_of_lt (by omega), Nat.mod_eq_of_lt (by omega)⟩
    obtain ⟨a1, a2⟩ := key (2 ^ (n.log2 + 2)) (by omega)
    obtain ⟨b1, b2⟩ := key (2 ^ drop) (by omega)
    unfold rnd
    rw [a1, a2, b1, b2]
    have : (decide (2 ^ (n.log2 + 2) < 2 * n) || (2 ^ (n.log2 + 2) == 2 * n && 0 % 2 == 1)) = false := by
      rw [Bool.eq_false_iff]
      simp only [ne_eq, Bool.or_eq_true, Bool.and_eq_true, decide_eq_true_eq, beq_iff_eq]
      omega
    rw [this, if_neg (by omega)]
    rfl

/-- 'm * 2 ^ e' in units of '2 ^ b'. -/
def flV (b : Int) (m : Nat) (e : Int) : Nat := m * 2 ^ (e - b).toNat

theorem log2_shift {m : Nat} (hm : m ≠ 0) (k : Nat) : (m * 2 ^ k).log2 = m.log2 + k := by
  have hp := Nat.two_pow_pos k
  refine (Nat.log2_eq_iff (by have := Nat.mul_pos (Nat.pos_of_ne_zero hm) hp; omega)).2 ?_
  have h1 := Nat.log2_self_le hm
  have h2 : m < 2 ^ (m.log2 + 1) := (Nat.log2_lt hm).1 (by omega)
  constructor
  · rw [Nat.pow_add]; exact Nat.mul_le_mul_right _ h1
  · have : 2 ^ (m.log2 + k + 1) = 2 ^ (m.log2 + 1) * 2 ^ k := by rw [← Nat.pow_add]; congr 1; omega
    rw [this]
    exact (Nat.mul_lt_mul_right hp).2 h2

/-- The rung that is nearest to 'v' units of '2 ^ b'. -/
def rungOf (f : Format) (b : Int) (v : Nat) : Nat :=
  (max (b + v.log2 - f.fractionBits) f.leastPlace - f.leastPlace).toNat * f.binade + rnd v (2 ^ (max (b + v.log2 - f.fractionBits) f.leastPlace - b).toNat)

theorem nearest_rung (f : Format) {m : Nat} {e b : Int} (hm : m ≠ 0) (hb : b ≤ e) (hl : b ≤ f.leastPlace) : f.nearest false m e = min (rungOf f b (flV b m e)) f.infRung := by
  unfold Format.nearest Format.word
  rw [if_neg hm]
  simp only [Bool.false_eq_true, if_false]
  unfold rungOf
  have hlog : (flV b m e).log2 = m.log2 + (e - b).toNat := log2_shift hm _
  have e1 : b + ((flV b m e).log2 : Int) - f.fractionBits = e + (m.log2 : Int) - f.fractionBits := by rw [hlog]; omega
  rw [e1]
  generalize hlast : max (e + (m.log2 : Int) - f.fractionBits) f.leastPlace = last at *
  congr 1
  rw [cut_even, Nat.shiftLeft_eq]
  have hbl : b ≤ last := by
    have : f.leastPlace ≤ last := by rw [← hlast]; exact Int.le_max_right _ _
    omega
  unfold flV
  have hk := Nat.two_pow_pos (min e last - b).toNat
  rw [← rnd_scale (m * 2 ^ (e - last).toNat) (2 ^ (last - e).toNat) _ hk, Nat.mul_assoc, ← Nat.pow_add, ← Nat.pow_add]
  have a1 : (e - last).toNat + (min e last - b).toNat = (e - b).toNat := by omega
  have a2 : (last - e).toNat + (min e last - b).toNat = (last - b).toNat := by omega
  rw [a1, a2]

theorem log2_mono {v w : Nat} (hv : v ≠ 0) (h : v ≤ w) : v.log2 ≤ w.log2 :=
  (Nat.le_log2 (by omega)).2 (Nat.le_trans (Nat.log2_self_le hv) h)

theorem rungOf_mono (f : Format) {b : Int} (hl : b ≤ f.leastPlace) {v w : Nat} (hv : v ≠ 0) (h : v ≤ w) : rungOf f b v ≤ rungOf f b w := by
  have hlog := log2_mono hv h
  have hw : w ≠ 0 := by omega
  unfold rungOf
  generalize hLv : max (b + (v.log2 : Int) - f.fractionBits) f.leastPlace = Lv
  generalize hLw : max (b + (w.log2 : Int) - f.fractionBits) f.leastPlace = Lw
  have hle : Lv ≤ Lw := by omega
  have hlv : f.leastPlace ≤ Lv := by omega
  have hB : 0 < f.binade := Nat.two_pow_pos _
  rcases Int.lt_or_le Lv Lw with hlt | hge
  · have hLw' : Lw = b + (w.log2 : Int) - f.fractionBits := by omega
    have hGv := Nat.two_pow_pos (Lv - b).toNat
    have hGw := Nat.two_pow_pos (Lw - b).toNat
    have u1 : v < 2 ^ (Lv - b).toNat * (2 * f.binade) := by
      have h1 : v < 2 ^ (v.log2 + 1) := (Nat.log2_lt hv).1 (by omega)
      have h2 : 2 ^ (v.log2 + 1) ≤ 2 ^ ((Lv - b).toNat + (f.fractionBits + 1)) := Nat.pow_le_pow_right (by omega) (by omega)
      have h3 : 2 ^ ((Lv - b).toNat + (f.fractionBits + 1)) = 2 ^ (Lv - b).toNat * (2 * f.binade) := by
        unfold Format.binade
        rw [Nat.pow_add, Nat.pow_succ 2 f.fractionBits, Nat.mul_comm (2 ^ f.fractionBits) 2]
      omega
    have u2 : v / 2 ^ (Lv - b).toNat < 2 * f.binade := (Nat.div_lt_iff_lt_mul hGv).2 (by rw [Nat.mul_comm]; exact u1)
    have u3 : 2 ^ (Lw - b).toNat * f.binade ≤ w := by
      have h1 := Nat.log2_self_le hw
      have h2 : 2 ^ (Lw - b).toNat * f.binade = 2 ^ w.log2 := by
        unfold Format.binade
        rw [← Nat.pow_add]
        congr 1
        omega
      omega
    have u4 : f.binade ≤ w / 2 ^ (Lw - b).toNat := (Nat.le_div_iff_mul_le hGw).2 (by rw [Nat.mul_comm]; exact u3)
    have r1 := (rnd_le v (2 ^ (Lv - b).toNat)).2
    have r2 := (rnd_le w (2 ^ (Lw - b).toNat)).1
    have key : (Lv - f.leastPlace).toNat * f.binade + f.binade ≤ (Lw - f.leastPlace).toNat * f.binade := by
      rw [← Nat.succ_mul]
      exact Nat.mul_le_mul_right _ (by omega)
    omega
  · have : Lv = Lw := by omega
    subst this
    exact Nat.add_le_add_left (rnd_mono (Nat.two_pow_pos _) h) _

/-- **What is not less is not less when it is rounded.** -/
theorem nearest_mono (f : Format) {m1 m2 : Nat} {e1 e2 b : Int} (h1 : b ≤ e1) (h2 : b ≤ e2) (hl : b ≤ f.leastPlace) (h : flV b m1 e1 ≤ flV b m2 e2) : f.nearest false m1 e1 ≤ f.nearest false m2 e2 := by
  by_cases z1 : m1 = 0
  · subst z1
    unfold Format.nearest Format.word
    simp
  · have hv : flV b m1 e1 ≠ 0 := by
      unfold flV
      have := Nat.mul_pos (Nat.pos_of_ne_zero z1) (Nat.two_pow_pos (e1 - b).toNat)
      omega
    have z2 : m2 ≠ 0 := by
      rintro rfl
      unfold flV at h hv
      rw [Nat.zero_mul] at h
      omega
    rw [nearest_rung f z1 h1 hl, nearest_rung f z2 h2 hl]
    have := rungOf_mono f hl hv h
    omega

/-! ### What a word stands for. -/
/-- The number of a rung, in units of the least place. -/
def rungH (f : Format) (r : Nat) : Nat := if r < f.binade then r else (f.binade + r % f.binade) * 2 ^ (r / f.binade - 1)

theorem rungH_succ (f : Format) (r : Nat) : rungH f r < rungH f (r + 1) := by
  have hB : 0 < f.binade := Nat.two_pow_pos _
  unfold rungH
  generalize f.binade = B at *
  by_cases h1 : r + 1 < B
  · rw [if_pos (by omega), if_pos h1]; omega
  · by_cases h2 : r < B
    · have : r + 1 = B := by omega
      rw [if_pos h2, if_neg h1, this, Nat.mod_self, Nat.div_self hB]
      omega
    · rw [if_neg h2, if_neg h1]
      have e1 := Nat.div_add_mod r B
      have hm := Nat.mod_lt r hB
      have hq : 1 ≤ r / B := (Nat.le_div_iff_mul_le hB).2 (by omega)
      have hp := Nat.two_pow_pos (r / B - 1)
      by_cases h3 : r % B + 1 < B
      · have d1 : (r + 1) / B = r / B := by
          rw [Nat.div_eq_iff hB]
          constructor
          · rw [Nat.mul_comm]; omega
          · rw [Nat.mul_comm]; omega
        have d2 : (r + 1) % B = r % B + 1 := by
          have e2 := Nat.div_add_mod (r + 1) B
          rw [d1] at e2
          omega
        rw [d1, d2]
        exact (Nat.mul_lt_mul_right hp).2 (by omega)
      · have h4 : r % B + 1 = B := by omega
        have h5 : r + 1 = B * (r / B + 1) := by rw [Nat.mul_succ]; omega
        have d1 : (r + 1) / B = r / B + 1 := by rw [h5, Nat.mul_div_cancel_left _ hB]
        have d2 : (r + 1) % B = 0 := by rw [h5, Nat.mul_mod_right]
        rw [d1, d2, Nat.add_zero, Nat.add_sub_cancel]
        have h6 : 2 ^ (r / B) = 2 * 2 ^ (r / B - 1) := by rw [← Nat.pow_succ']; congr 1; omega
        rw [h6, ← Nat.mul_assoc]
        exact (Nat.mul_lt_mul_right hp).2 (by omega)

theorem rungH_strict (f : Format) {r s : Nat} (h : r < s) : rungH f r < rungH f s := by
  induction h with
  | refl => exact rungH_succ f _
  | step _ ih => exact Nat.lt_trans ih (rungH_succ f _)
theorem rungH_mono (f : Format) {r s : Nat} (h : r ≤ s) : rungH f r ≤ rungH f s := by
  rcases Nat.lt_or_ge r s with h1 | h1
  · exact Nat.le_of_lt (rungH_strict f h1)
  · rw [show r = s by omega]; exact Nat.le_refl _

/-- What a word below infinity reads as. -/
theorem read_rung (f : Format) {r : Nat} (h : r < f.infRung) : ∃ m e, f.read r = .number false m e ∧ f.leastPlace ≤ e ∧ flV f.leastPlace m e = rungH f r := by
  have hB : 0 < f.binade := Nat.two_pow_pos _
  have hs := f.infRung_lt
  unfold Format.read
  rw [Nat.div_eq_of_lt (show r < f.signWeight by omega), Nat.mod_eq_of_lt (show r < f.signWeight by omega)]
  simp only
  unfold rungH
  by_cases h1 : r < f.binade
  · rw [if_pos h1, if_pos h1]
    exact ⟨_, _, rfl, by omega, by unfold flV; simp⟩
  · rw [if_neg h1, if_pos h, if_neg h1]
    refine ⟨_, _, rfl, by omega, ?_⟩
    unfold flV
    congr 2
    omega

/-- Down to a whole number. -/
theorem cut_down (n drop : Nat) : Toward.down.cut false n drop = n / 2 ^ drop := by
  unfold Toward.cut
  simp only [Bool.false_and, Bool.toNat_false, Nat.add_zero]
  rw [Nat.one_shiftLeft]
  by_cases h : drop ≤ n.log2 + 2
  · rw [Nat.min_eq_left h]
  · rw [Nat.min_eq_right (by omega)]
    have hn : n < 2 ^ (n.log2 + 1) := by
      by_cases h0 : n = 0
      · subst h0; exact Nat.two_pow_pos _
      · exact (Nat.log2_lt h0).1 (by omega)
    have h2 : 2 ^ (n.log2 + 1) ≤ 2 ^ (n.log2 + 2) := Nat.pow_le_pow_right (by omega) (by omega)
    have h3 : 2 ^ (n.log2 + 2) ≤ 2 ^ drop := Nat.pow_le_pow_right (by omega) (by omega)
    rw [Nat.div_eq_of_lt (by omega), Nat.div_eq_of_lt (by omega)]

theorem floor_flV {m : Nat} {e b : Int} (hb : b ≤ e) (h0 : b ≤ 0) : Toward.down.cut false (m <<< e.toNat) (-e).toNat = flV b m e / 2 ^ (-b).toNat := by
  rw [cut_down, Nat.shiftLeft_eq]
  unfold flV
  rcases Int.lt_or_le e 0 with h | h
  · have e1 : e.toNat = 0 := by omega
    have e2 : (-b).toNat = (-e).toNat + (e - b).toNat := by omega
    rw [e1, Nat.pow_zero, Nat.mul_one, e2, Nat.pow_add, Nat.mul_div_mul_right _ _ (Nat.two_pow_pos _)]
  · have e1 : (-e).toNat = 0 := by omega
    have e2 : (e - b).toNat = e.toNat + (-b).toNat := by omega
    rw [e1, Nat.pow_zero, Nat.div_one, e2, Nat.pow_add, ← Nat.mul_assoc, Nat.mul_div_cancel _ (Nat.two_pow_pos _)]
end Go.Proofs.Yteeikmpfgbfeoaa

/-
  Floating point numbers that are exact; how two compare; a part of a number, down to a whole one. Plain facts.
-/
namespace Go.Proofs.Yteeikmpfgbfeoaa
open Ieee

theorem rnd_exact (q g : Nat) (hg : 0 < g) : rnd (q * g) g = q := by
  unfold rnd
  rw [Nat.mul_div_cancel _ hg, Nat.mul_mod_left]
  rw [if_neg (by omega)]
  omega

/-- A number of few digits is told exactly. -/
theorem rung_exact (f : Format) {q d : Nat} (hq : q < 2 * f.binade) : rungH f (rungOf f f.leastPlace (q * 2 ^ d)) = q * 2 ^ d := by
  have hB : 0 < f.binade := Nat.two_pow_pos _
  by_cases h0 : q = 0
  · subst h0
    have : rungOf f f.leastPlace 0 = 0 := by
      unfold rungOf rnd
      have e : max (f.leastPlace + ((Nat.log2 0 : Nat) : Int) - f.fractionBits) f.leastPlace = f.leastPlace := by
        rw [Nat.log2_zero]; omega
      rw [e]
      simp
    rw [Nat.zero_mul, this]
    unfold rungH
    rw [if_pos hB]
  · have hlog := log2_shift h0 d
    have hql : q.log2 ≤ f.fractionBits := by
      have : q.log2 < f.fractionBits + 1 := (Nat.log2_lt h0).2 (by
        have : 2 ^ (f.fractionBits + 1) = 2 * f.binade := by unfold Format.binade; rw [Nat.pow_succ, Nat.mul_comm]
        omega)
      omega
    have hq1 := Nat.log2_self_le h0
    have hq2 : q < 2 ^ (q.log2 + 1) := (Nat.log2_lt h0).1 (by omega)
    unfold rungOf
    rw [hlog]
    obtain ⟨s, hs⟩ : ∃ s : Nat, max (f.leastPlace + ((q.log2 + d : Nat) : Int) - f.fractionBits) f.leastPlace = f.leastPlace + (s : Int) := ⟨(max (f.leastPlace + ((q.log2 + d : Nat) : Int) - f.fractionBits) f.leastPlace - f.leastPlace).toNat, by omega⟩
    rw [hs]
    have e1 : (f.leastPlace + (s : Int) - f.leastPlace).toNat = s := by omega
    rw [e1]
    have hsd : s ≤ d := by omega
    have hsv : q * 2 ^ d = q * 2 ^ (d - s) * 2 ^ s := by rw [Nat.mul_assoc, ← Nat.pow_add]; congr 2; omega
    rw [hsv, rnd_exact _ _ (Nat.two_pow_pos _)]
    -- the digits that are kept
    have hk2 : q * 2 ^ (d - s) < 2 * f.binade := by
      have h1 : q * 2 ^ (d - s) < 2 ^ (q.log2 + 1) * 2 ^ (d - s) := (Nat.mul_lt_mul_right (Nat.two_pow_pos _)).2 hq2
      have h2 : 2 ^ (q.log2 + 1) * 2 ^ (d - s) ≤ 2 ^ (f.fractionBits + 1) := by
        rw [← Nat.pow_add]
        exact Nat.pow_le_pow_right (by omega) (by omega)
      have h3 : 2 ^ (f.fractionBits + 1) = 2 * f.binade := by unfold Format.binade; rw [Nat.pow_succ, Nat.mul_comm]
      omega
    have hk1 : 0 < s → f.binade ≤ q * 2 ^ (d - s) := by
      intro hs0
      have h1 : 2 ^ q.log2 * 2 ^ (d - s) ≤ q * 2 ^ (d - s) := Nat.mul_le_mul_right _ hq1
      have h2 : f.binade = 2 ^ q.log2 * 2 ^ (d - s) := by
        unfold Format.binade
        rw [← Nat.pow_add]
        congr 1
        omega
      omega
    generalize q * 2 ^ (d - s) = k at *
    unfold rungH
    generalize f.binade = B at *
    by_cases hkB : k < B
    · have hs0 : s = 0 := by
        rcases Nat.eq_zero_or_pos s with h | h
        · exact h
        · have := hk1 h; omega
      subst hs0
      rw [Nat.zero_mul, Nat.zero_add, if_pos hkB]
      simp
    · have h1 : ¬ s * B + k < B := by omega
      rw [if_neg h1]
      have h2 : s * B + k = B * (s + 1) + (k - B) := by rw [Nat.mul_succ, Nat.mul_comm B s]; omega
      have h3 : k - B < B := by omega
      rw [h2, Nat.mul_add_mod, Nat.mod_eq_of_lt h3, Nat.mul_add_div hB, Nat.div_eq_of_lt h3, Nat.add_zero, Nat.add_sub_cancel]
      congr 1
      omega

/-- How two that are not below nought compare. -/
theorem order_pos {m n : Nat} {i j b : Int} (hi : b ≤ i) (hj : b ≤ j) : Datum.order (.number false m i) (.number false n j) = some (compare (flV b m i) (flV b n j)) := by
  unfold Datum.order
  simp only
  congr 1
  obtain ⟨c, hc⟩ : ∃ c : Int, c = min i j := ⟨_, rfl⟩
  rw [← hc]
  have e1 : flV b m i = (m <<< (i - c).toNat) * 2 ^ (c - b).toNat := by
    unfold flV
    rw [Nat.shiftLeft_eq, Nat.mul_assoc, ← Nat.pow_add]
    congr 2; omega
  have e2 : flV b n j = (n <<< (j - c).toNat) * 2 ^ (c - b).toNat := by
    unfold flV
    rw [Nat.shiftLeft_eq, Nat.mul_assoc, ← Nat.pow_add]
    congr 2; omega
  rw [e1, e2]
  unfold signed
  simp only [Bool.false_eq_true, if_false]
  generalize m <<< (i - c).toNat = x
  generalize n <<< (j - c).toNat = y
  have hp := Nat.two_pow_pos (c - b).toNat
  generalize 2 ^ (c - b).toNat = p at *
  show compareOfLessAndEq (x : Int) (y : Int) = compareOfLessAndEq (x * p) (y * p)
  unfold compareOfLessAndEq
  by_cases h1 : x < y
  · rw [if_pos (by omega), if_pos ((Nat.mul_lt_mul_right hp).2 h1)]
  · rw [if_neg (by omega), if_neg (fun h => h1 ((Nat.mul_lt_mul_right hp).1 h))]
    by_cases h2 : x = y
    · subst h2; simp
    · rw [if_neg (by omega), if_neg (fun h => h2 (Nat.eq_of_mul_eq_mul_right hp h))]
end Go.Proofs.Yteeikmpfgbfeoaa

/-
  Words of float64 that are not below one: what they read as, a product rounded, a part down to a whole number. Plain facts.
-/
namespace Go.Proofs.Yteeikmpfgbfeoaa
open Ieee

/-- The word of infinity, of 1, of 12. -/
abbrev infD : Nat := 9218868437227405312
abbrev oneD : Nat := 4607182418800017408

theorem infD_eq : double.infRung = infD := by decide
theorem lpD : double.leastPlace = -1074 := by decide
theorem binD : double.binade = 4503599627370496 := by decide
theorem sgnD : double.signWeight = 9223372036854775808 := by decide

/-- A word: below nought, or no number, or one of the rungs up to infinity. -/
theorem word_ways {b : Nat} (h : b < 2 ^ 64) : (b < infD) ∨ b = infD ∨ (∃ s t, double.read b = .nan s t) ∨ (∃ m e, double.read b = .number true m e) ∨ double.read b = .infinity true := by
  by_cases h1 : b < infD
  · exact .inl h1
  · by_cases h2 : b = infD
    · exact .inr (.inl h2)
    · right; right
      unfold Format.read
      rw [infD_eq, binD, sgnD]
      simp only
      by_cases h3 : b < 9223372036854775808
      · have e1 : b / 9223372036854775808 = 0 := Nat.div_eq_of_lt h3
        have e2 : b % 9223372036854775808 = b := Nat.mod_eq_of_lt h3
        rw [e1, e2, if_neg (by unfold infD at *; omega), if_neg h1, if_neg h2]
        exact .inl ⟨_, _, rfl⟩
      · have e1 : b / 9223372036854775808 = 1 := by omega
        rw [e1]
        simp only [show ((1 : Nat) % 2 == 1) = true from rfl]
        split
        · exact .inr (.inl ⟨_, _, rfl⟩)
        · split
          · exact .inr (.inl ⟨_, _, rfl⟩)
          · split
            · exact .inr (.inr rfl)
            · exact .inl ⟨_, _, rfl⟩

theorem read_inf : double.read infD = .infinity false := by decide

/-- How words that are not below nought compare. -/
theorem order_words {a b : Nat} (ha : a ≤ infD) (hb : b ≤ infD) : double.order a b = some (compare a b) := by
  unfold Format.order
  have key : ∀ r, r < infD → ∃ m e, double.read r = .number false m e ∧ (-1074 : Int) ≤ e ∧ flV (-1074) m e = rungH double r := by
    intro r hr
    have := read_rung double (r := r) (by rw [infD_eq]; exact hr)
    rw [lpD] at this
    exact this
  have cmpN : ∀ x y : Nat, compare x y = if x < y then .lt else if x = y then .eq else .gt := by
    intro x y
    show compareOfLessAndEq x y = _
    rfl
  rcases Nat.lt_or_ge a infD with h1 | h1 <;> rcases Nat.lt_or_ge b infD with h2 | h2
  · obtain ⟨m, i, e1, e2, e3⟩ := key a h1
    obtain ⟨n, j, e4, e5, e6⟩ := key b h2
    rw [e1, e4, order_pos e2 e5, e3, e6, cmpN, cmpN]
    rcases Nat.lt_trichotomy a b with h | h | h
    · rw [if_pos (rungH_strict _ h), if_pos h]
    · subst h; simp
    · have := rungH_strict double h
      rw [if_neg (by omega), if_neg (by omega), if_neg (by omega), if_neg (by omega)]
  · have hb' : b = infD := by omega
    subst hb'
    obtain ⟨m, i, e1, _, _⟩ := key a h1
    rw [e1, read_inf, cmpN, if_pos h1]
    rfl
  · have ha' : a = infD := by omega
    subst ha'
    obtain ⟨m, i, e1, _, _⟩ := key b h2
    rw [e1, read_inf, cmpN, if_neg (by omega), if_neg (by omega)]
    rfl
  · have ha' : a = infD := by omega
    have hb' : b = infD := by omega
    subst ha' hb'
    decide

/-- Below one: the words that are less, and those below nought. -/
theorem order_neg {b : Nat} (h : (∃ m e, double.read b = .number true m e) ∨ double.read b = .infinity true) : double.order b oneD = some .lt := by
  unfold Format.order
  have h1 : double.read oneD = .number false 4503599627370496 (-52) := by decide
  rw [h1]
  rcases h with ⟨m, e, h⟩ | h
  · rw [h]
    unfold Datum.order
    simp only
    congr 1
    have hpos : 0 < 4503599627370496 <<< (-52 - min e (-52)).toNat := by
      rw [Nat.shiftLeft_eq]; exact Nat.mul_pos (by decide) (Nat.two_pow_pos _)
    show compareOfLessAndEq (signed true m (e - min e (-52)).toNat) (signed false 4503599627370496 (-52 - min e (-52)).toNat) = .lt
    unfold compareOfLessAndEq signed
    generalize 4503599627370496 <<< (-52 - min e (-52)).toNat = y at *
    generalize m <<< (e - min e (-52)).toNat = x
    rw [if_pos]
    simp only [if_true, Bool.false_eq_true, if_false]
    omega
  · rw [h]; rfl

/-- The product of two, rounded: by their rungs. -/
def mulR (a b : Nat) : Nat := if rungH double a * rungH double b = 0 then 0 else min (rungOf double (-2148) (rungH double a * rungH double b)) infD

theorem mul_words {a b : Nat} (ha : a < infD) (hb : b < infD) : double.mul a b = some (mulR a b) := by
  obtain ⟨m, i, e1, e2, e3⟩ := read_rung double (r := a) (by rw [infD_eq]; exact ha)
  obtain ⟨n, j, e4, e5, e6⟩ := read_rung double (r := b) (by rw [infD_eq]; exact hb)
  rw [lpD] at e2 e3 e5 e6
  unfold Format.mul
  rw [e1, e4]
  show some (double.nearest (false ^^ false) (m * n) (i + j)) = _
  congr 1
  have hv : flV (-2148) (m * n) (i + j) = rungH double a * rungH double b := by
    rw [← e3, ← e6]
    unfold flV
    have h1 : (i + j - -2148).toNat = (i - -1074).toNat + (j - -1074).toNat := by omega
    rw [h1, Nat.pow_add]
    simp only [Nat.mul_assoc, Nat.mul_left_comm]
  unfold mulR
  rw [← hv]
  by_cases h0 : m * n = 0
  · have : flV (-2148) (m * n) (i + j) = 0 := by unfold flV; rw [h0, Nat.zero_mul]
    rw [if_pos this, h0]
    unfold Format.nearest Format.word
    simp
  · have : flV (-2148) (m * n) (i + j) ≠ 0 := by
      unfold flV
      have := Nat.mul_pos (Nat.pos_of_ne_zero h0) (Nat.two_pow_pos (i + j - -2148).toNat)
      omega
    rw [if_neg this, ← infD_eq]
    exact nearest_rung double h0 (by omega) (by rw [lpD]; omega)

theorem mulR_le (a b : Nat) : mulR a b ≤ infD := by
  unfold mulR
  split
  · unfold infD; omega
  · exact Nat.min_le_right _ _

theorem mulR_mono {a b c : Nat} (h : b ≤ c) : mulR a b ≤ mulR a c := by
  have h1 := rungH_mono double h
  have h2 : rungH double a * rungH double b ≤ rungH double a * rungH double c := Nat.mul_le_mul_left _ h1
  unfold mulR
  by_cases h0 : rungH double a * rungH double b = 0
  · rw [if_pos h0]; omega
  · rw [if_neg h0, if_neg (by omega)]
    have := rungOf_mono double (b := -2148) (by rw [lpD]; omega) h0 h2
    omega

/-- The exponent of the least place. (A name: a power that stands written out is reckoned.) -/
def leastP : Nat := 1074
def infP : Nat := 2046
/-- A word's whole part. -/
def wholeD (r : Nat) : Nat := rungH double r / 2 ^ leastP
theorem wholeD_mono {r s : Nat} (h : r ≤ s) : wholeD r ≤ wholeD s := Nat.div_le_div_right (rungH_mono _ h)

/-- The word of a whole number. -/
def wordN (n : Nat) : Nat := double.nearest false n 0
theorem wordN_mono {n m : Nat} (h : n ≤ m) : wordN n ≤ wordN m := nearest_mono double (b := -1074) (by omega) (by omega) (by rw [lpD]; omega) (by unfold flV; exact Nat.mul_le_mul_right _ h)
theorem wordN_le (n : Nat) : wordN n ≤ infD := by
  unfold wordN Format.nearest Format.word
  rw [infD_eq]
  simp only [Bool.false_eq_true, if_false]
  split
  · unfold infD; omega
  · exact Nat.min_le_right _ _

/-- Down to a whole number. -/
theorem floor_word {r : Nat} (h : r < infD) : double.write ((double.read r).integral .down) = wordN (wholeD r) := by
  obtain ⟨m, i, e1, e2, e3⟩ := read_rung double (r := r) (by rw [infD_eq]; exact h)
  rw [lpD] at e2 e3
  rw [e1]
  show double.nearest false (Toward.down.cut false (m <<< i.toNat) (-i).toNat) 0 = _
  have e4 : (-(-1074 : Int)).toNat = leastP := by decide
  rw [floor_flV e2 (by omega), e3, e4]
  unfold wordN wholeD
  rfl
theorem floor_inf : double.write ((double.read infD).integral .down) = infD := by decide
end Go.Proofs.Yteeikmpfgbfeoaa

/-
  Whole numbers as words of float64: the lesser one, the greater one, back to a number. Plain facts.
-/
namespace Go.Proofs.Yteeikmpfgbfeoaa
open Ieee

theorem rungH_inf : rungH double infD = 4503599627370496 * 2 ^ infP := by
  unfold rungH
  rw [binD, if_neg (by decide)]
  have e1 : infD % 4503599627370496 = 0 := by decide
  have e2 : infD / 4503599627370496 - 1 = infP := by decide
  rw [e1, e2, Nat.add_zero]

theorem wordN_exact {n : Nat} (h : n < 9007199254740992) : wordN n < infD ∧ rungH double (wordN n) = n * 2 ^ leastP := by
  have hB : n < 2 * double.binade := by rw [binD]; omega
  have hx := rung_exact double (d := leastP) hB
  rw [lpD] at hx
  by_cases h0 : n = 0
  · subst h0
    have : wordN 0 = 0 := by decide
    rw [this]
    refine ⟨by decide, ?_⟩
    rw [Nat.zero_mul]
    decide
  · have hw : wordN n = min (rungOf double (-1074) (n * 2 ^ leastP)) infD := by
      have := nearest_rung double (m := n) (e := 0) (b := -1074) h0 (by omega) (by rw [lpD]; omega)
      have e5 : flV (-1074) n 0 = n * 2 ^ leastP := by
        unfold flV
        rw [show ((0 : Int) - -1074).toNat = leastP from by decide]
      rw [infD_eq, e5] at this
      exact this
    have hlt : rungOf double (-1074) (n * 2 ^ leastP) < infD := by
      refine Classical.byContradiction fun hn => ?_
      have h1 := rungH_mono double (show infD ≤ rungOf double (-1074) (n * 2 ^ leastP) by omega)
      rw [hx, rungH_inf] at h1
      have h2 : n * 2 ^ leastP < 2 ^ 53 * 2 ^ leastP := (Nat.mul_lt_mul_right (Nat.two_pow_pos _)).2 (by
        have : (2 : Nat) ^ 53 = 9007199254740992 := by decide
        omega)
      have h3 : (2 : Nat) ^ 53 * 2 ^ leastP ≤ 4503599627370496 * 2 ^ infP := by
        have e1 : (2 : Nat) ^ 53 * 2 ^ leastP = 2 ^ (53 + leastP) := by rw [← Nat.pow_add]
        have key2 : ∀ a b : Nat, a ≤ b → 2 ^ a ≤ 2 ^ b := fun a b h => Nat.pow_le_pow_right (by omega) h
        have e2 := key2 (53 + leastP) infP (by decide)
        have key : ∀ x : Nat, x ≤ 4503599627370496 * x := fun x => by omega
        rw [e1]
        exact Nat.le_trans e2 (key (2 ^ infP))
      omega
    rw [hw, Nat.min_eq_left (Nat.le_of_lt hlt)]
    exact ⟨hlt, hx⟩

theorem wholeD_word {n : Nat} (h : n < 9007199254740992) : wholeD (wordN n) = n := by
  unfold wholeD
  rw [(wordN_exact h).2]
  exact Nat.mul_div_cancel _ (Nat.two_pow_pos _)

theorem wordN_strict {a b : Nat} (h : a < b) (ha : a < 9007199254740992) : wordN a < wordN b := by
  rcases Nat.lt_or_ge b 9007199254740992 with hb | hb
  · refine Classical.byContradiction fun hn => ?_
    have := wholeD_mono (show wordN b ≤ wordN a by omega)
    rw [wholeD_word ha, wholeD_word hb] at this
    omega
  · have h1 := (wordN_exact ha).1
    have h2 : wordN a < wordN 9007199254740992 := by
      have e : wordN 9007199254740992 = 4845873199050653696 := by decide
      rcases Nat.lt_or_ge a 9007199254740991 with h3 | h3
      · refine Nat.lt_of_lt_of_le ?_ (wordN_mono (show 9007199254740991 ≤ 9007199254740992 by omega))
        refine Classical.byContradiction fun hn => ?_
        have := wholeD_mono (show wordN 9007199254740991 ≤ wordN a by omega)
        rw [wholeD_word ha, wholeD_word (by omega)] at this
        omega
      · have : a = 9007199254740991 := by omega
        subst this
        rw [e]
        decide
    exact Nat.lt_of_lt_of_le h2 (wordN_mono hb)

/-- How whole numbers compare as words, one of them small. -/
theorem order_wordN {a b : Nat} (h : a < 9007199254740992) : double.order (wordN a) (wordN b) = some (compare a b) := by
  rw [order_words (wordN_le a) (wordN_le b)]
  have cmpN : ∀ x y : Nat, compare x y = if x < y then .lt else if x = y then .eq else .gt := fun x y => rfl
  rw [cmpN, cmpN]
  rcases Nat.lt_trichotomy a b with h1 | h1 | h1
  · rw [if_pos (wordN_strict h1 h), if_pos h1]
  · subst h1; simp
  · have := wordN_strict h1 (by omega)
    rw [if_neg (by omega), if_neg (by omega), if_neg (by omega), if_neg (by omega)]

theorem cut_zero (n drop : Nat) : Toward.zero.cut false n drop = n / 2 ^ drop := by
  have := cut_down n drop
  unfold Toward.cut at *
  simpa using this

/-- Back to a number. -/
theorem toInt_wordN {n : Nat} (h : n < 9007199254740992) : floatToIntVal .f64 (wordN n) .i64 = some (n : Int) := by
  obtain ⟨m, i, e1, e2, e3⟩ := read_rung double (r := wordN n) (by rw [infD_eq]; exact (wordN_exact h).1)
  rw [lpD] at e2 e3
  unfold floatToIntVal
  have hd : FloatKind.f64.decode (wordN n) = .number false m i := e1
  rw [hd]
  have hc : Toward.zero.cut false (m <<< i.toNat) (-i).toNat = n := by
    have h1 := floor_flV (m := m) e2 (by omega)
    rw [cut_down] at h1
    rw [cut_zero, h1, e3]
    have e4 : (-(-1074 : Int)).toNat = leastP := by decide
    rw [e4]
    exact wholeD_word h
  have ht : (Datum.number false m i).toInt .zero = some (n : Int) := by
    unfold Datum.toInt Datum.integral
    simp only
    rw [hc]
    unfold signed
    simp
  rw [ht]
  simp only
  rw [if_pos]
  simp only [IntKind.min, IntKind.max, IntKind.signed, IntKind.bits]
  simp
  omega
end Go.Proofs.Yteeikmpfgbfeoaa

/-
  math.Floor, math.IsNaN; what the document's Probes does, for every word.
-/
namespace Go.Proofs.Yteeikmpfgbfeoaa
open Go.RowKit Ieee

/-- What math.archFloor does, by what its word stands for. -/
noncomputable def archF (b : Nat) (d : Datum) : Sem Value :=
  Datum.casesOn d (fun s m i => pure (.float .f64 (FloatKind.f64.encode ((Datum.number s m i).integral .down)))) (fun s => pure (.float .f64 (FloatKind.f64.encode ((Datum.infinity s).integral .down))))
    fun s t => if FloatKind.f64.format.quiet t = t then pure (.float .f64 b) else do
      let kept ← choose (.extern "math.Floor,Ceil,Trunc,RoundToEven.signallingNaN kept" 2)
      pure (.float .f64 (if kept == 1 then b else FloatKind.f64.encode (.nan s (FloatKind.f64.format.quiet t))))
theorem archF_eq (b : Nat) : Extern.MathFloor.toIntegral "math.archFloor" .down #[.float .f64 b] = archF b (FloatKind.f64.decode b) := by
  show (match FloatKind.f64.decode b with
    | .nan s t => _
    | d => _) = _
  cases FloatKind.f64.decode b <;> rfl

set_option maxRecDepth 100000 in
theorem run_archFloor {b : Nat} (h : ∀ s t, double.read b ≠ .nan s t) (w : World) : (callFunc 79 #[.float .f64 b]).run Try.prog w = .ok (.value (.float .f64 (double.write ((double.read b).integral .down)))) w := by
  rw [run_callFunc_extern (e := Extern.MathFloor.toIntegral "math.archFloor" .down) Try.func79 (by kernel_rfl) (by kernel_rfl) (by kernel_rfl) (by kernel_rfl), archF_eq]
  have e : FloatKind.f64.decode b = double.read b := rfl
  rw [e]
  cases hr : double.read b with
  | nan s t => exact absurd hr (h s t)
  | number s m i => rfl
  | infinity s => rfl

set_option maxRecDepth 100000 in
theorem floor_any {b : Nat} (h : ∀ s t, double.read b ≠ .nan s t) (w : World) : Calls Try.prog 65 #[.float .f64 b] w fun e w' => e = .returned (.float .f64 (double.write ((double.read b).integral .down))) ∧ w = w' := by
  have hfl := run_archFloor h
  generalize double.write ((double.read b).integral .down) = r at *
  clear h
  go_enter Try.func65, Try.ntmps65
  go_wp2
  go_ret
  exact ⟨rfl, rfl⟩

set_option maxRecDepth 100000 in
theorem isNaN_any (b : Nat) (w : World) : Calls Try.prog 62 #[.float .f64 b] w fun e w' => e = .returned (.bool (double.order b b != some .eq)) ∧ w = w' := by
  go_enter Try.func62, Try.ntmps62
  go_wp2
  go_ret
  exact ⟨rfl, rfl⟩

theorem order_nan {b : Nat} (h : ∃ s t, double.read b = .nan s t) (c : Nat) : double.order b c = none := by
  obtain ⟨s, t, h⟩ := h
  unfold Format.order
  rw [h]
  rfl
theorem order_self {b : Nat} (h : ∀ s t, double.read b ≠ .nan s t) : double.order b b = some .eq := by
  unfold Format.order
  cases hr : double.read b with
  | nan s t => exact absurd hr (h s t)
  | number s m i =>
    unfold Datum.order
    simp only
    congr 1
    show compareOfLessAndEq (signed s m (i - min i i).toNat) (signed s m (i - min i i).toNat) = .eq
    unfold compareOfLessAndEq
    rw [if_neg (Int.lt_irrefl _), if_pos rfl]
  | infinity s =>
    unfold Datum.order
    simp only
    cases s <;> rfl

/-- 0.7 as a word. -/
abbrev sevenD : Nat := 4604480259023595110
/-- How often a filter is asked. -/
def probesW (b : Nat) : Nat := if oneD ≤ b ∧ b ≤ infD then max 1 (min 12 (if b = infD then 12 else wholeD (mulR sevenD b))) else 0

/-- A word in one of three ways: no number; below one; one or more. -/
theorem probes_ways {b : Nat} (h : b < 2 ^ 64) : ((∃ s t, double.read b = .nan s t) ∧ probesW b = 0) ∨ ((∀ s t, double.read b ≠ .nan s t) ∧ double.order b oneD = some .lt ∧ probesW b = 0) ∨ (oneD ≤ b ∧ b ≤ infD ∧ (∀ s t, double.read b ≠ .nan s t)) := by
  have key : ∀ r, r < infD → ∀ s t, double.read r ≠ .nan s t := fun r hr s t he => by
    obtain ⟨m, i, e1, _, _⟩ := read_rung double (r := r) (by rw [infD_eq]; exact hr)
    rw [e1] at he
    cases he
  have big : ∀ s m e, (double.read b = .nan s m ∨ double.read b = .number true m e ∨ double.read b = .infinity true) → probesW b = 0 := by
    intro s m e hr
    unfold probesW
    rw [if_neg]
    rintro ⟨_, h2⟩
    rcases Nat.lt_or_ge b infD with h3 | h3
    · obtain ⟨m', i, e1, _, _⟩ := read_rung double (r := b) (by rw [infD_eq]; exact h3)
      rcases hr with hr | hr | hr <;> rw [e1] at hr <;> cases hr
    · have : b = infD := by omega
      subst this
      rcases hr with hr | hr | hr <;> rw [read_inf] at hr <;> cases hr
  rcases word_ways h with h1 | h1 | ⟨s, t, h1⟩ | ⟨m, e, h1⟩ | h1
  · rcases Nat.lt_or_ge b oneD with h2 | h2
    · refine .inr (.inl ⟨key b h1, ?_, ?_⟩)
      · rw [order_words (Nat.le_of_lt h1) (by decide)]
        congr 1
        show compareOfLessAndEq b oneD = .lt
        unfold compareOfLessAndEq
        rw [if_pos h2]
      · unfold probesW; rw [if_neg (by omega)]
    · exact .inr (.inr ⟨h2, Nat.le_of_lt h1, key b h1⟩)
  · subst h1
    exact .inr (.inr ⟨by decide, Nat.le_refl _, fun s t he => by rw [read_inf] at he; cases he⟩)
  · exact .inl ⟨⟨s, t, h1⟩, big s t 0 (.inl h1)⟩
  · exact .inr (.inl ⟨fun s t he => (by rw [h1] at he; cases he), order_neg (.inl ⟨m, e, h1⟩), big true m e (.inr (.inl h1))⟩)
  · exact .inr (.inl ⟨fun s t he => (by rw [h1] at he; cases he), order_neg (.inr h1), big true 0 0 (.inr (.inr h1))⟩)

theorem compare_nat (x y : Nat) : compare x y = if x < y then .lt else if x = y then .eq else .gt := rfl

/-- The lesser one of two words, the greater one. -/
theorem run_min_words {P : Program} {a b : Nat} (ha : a ≤ infD) (hb : b ≤ infD) (ts : Array TypeId) (t : TypeId) (w : World) : (Builtin.min_ ts t #[.float .f64 a, .float .f64 b]).run P w = .ok (.float .f64 (min a b)) w := by
  have ho : FloatKind.f64.format.order a b = some (compare a b) := order_words ha hb
  rw [compare_nat] at ho
  rcases Nat.lt_trichotomy a b with h | h | h
  · rw [if_pos h] at ho
    rw [Nat.min_eq_left (Nat.le_of_lt h)]
    simp [Builtin.min_, Builtin.min2, ho]
  · subst h
    rw [if_neg (by omega), if_pos rfl] at ho
    rw [Nat.min_self]
    simp [Builtin.min_, Builtin.min2, ho]
  · rw [if_neg (by omega), if_neg (by omega)] at ho
    rw [Nat.min_eq_right (Nat.le_of_lt h)]
    simp [Builtin.min_, Builtin.min2, ho]
theorem run_max_words {P : Program} {a b : Nat} (ha : a ≤ infD) (hb : b ≤ infD) (ts : Array TypeId) (t : TypeId) (w : World) : (Builtin.max_ ts t #[.float .f64 a, .float .f64 b]).run P w = .ok (.float .f64 (max a b)) w := by
  have ho : FloatKind.f64.format.order a b = some (compare a b) := order_words ha hb
  rw [compare_nat] at ho
  rcases Nat.lt_trichotomy a b with h | h | h
  · rw [if_pos h] at ho
    rw [Nat.max_eq_right (Nat.le_of_lt h)]
    simp [Builtin.max_, Builtin.max2, ho]
  · subst h
    rw [if_neg (by omega), if_pos rfl] at ho
    rw [Nat.max_self]
    simp [Builtin.max_, Builtin.max2, ho]
  · rw [if_neg (by omega), if_neg (by omega)] at ho
    rw [Nat.max_eq_left (Nat.le_of_lt h)]
    simp [Builtin.max_, Builtin.max2, ho]
theorem min_wordN (a b : Nat) : min (wordN a) (wordN b) = wordN (min a b) := by
  rcases Nat.le_total a b with h | h
  · rw [Nat.min_eq_left h, Nat.min_eq_left (wordN_mono h)]
  · rw [Nat.min_eq_right h, Nat.min_eq_right (wordN_mono h)]
theorem max_wordN (a b : Nat) : max (wordN a) (wordN b) = wordN (max a b) := by
  rcases Nat.le_total a b with h | h
  · rw [Nat.max_eq_right h, Nat.max_eq_right (wordN_mono h)]
  · rw [Nat.max_eq_left h, Nat.max_eq_left (wordN_mono h)]

/-- What 0.7 times a word is, down to a whole number. -/
theorem seven_times {b : Nat} (h1 : oneD ≤ b) (h2 : b ≤ infD) : ∃ r, floatBits .mul .f64 sevenD b = some r ∧ (∀ s t, double.read r ≠ .nan s t) ∧ ((double.write ((double.read r).integral .down) = infD ∧ probesW b = 12) ∨ ∃ k, double.write ((double.read r).integral .down) = wordN k ∧ probesW b = max 1 (min 12 k)) := by
  have key : ∀ r, r ≤ infD → ∀ s t, double.read r ≠ .nan s t := fun r hr s t he => by
    rcases Nat.lt_or_ge r infD with h3 | h3
    · obtain ⟨m, i, e1, _, _⟩ := read_rung double (r := r) (by rw [infD_eq]; exact h3)
      rw [e1] at he; cases he
    · have : r = infD := by omega
      subst this
      rw [read_inf] at he; cases he
  by_cases hb : b = infD
  · subst hb
    refine ⟨infD, by decide, key _ (Nat.le_refl _), .inl ⟨floor_inf, ?_⟩⟩
    unfold probesW
    rw [if_pos ⟨h1, h2⟩, if_pos rfl]
    rfl
  · have hlt : b < infD := by omega
    refine ⟨mulR sevenD b, mul_words (by decide) hlt, key _ (mulR_le _ _), ?_⟩
    have hp : probesW b = max 1 (min 12 (wholeD (mulR sevenD b))) := by
      unfold probesW
      rw [if_pos ⟨h1, h2⟩, if_neg hb]
    rcases Nat.lt_or_ge (mulR sevenD b) infD with h3 | h3
    · exact .inr ⟨_, floor_word h3, hp⟩
    · have h4 : mulR sevenD b = infD := by have := mulR_le sevenD b; omega
      rw [h4] at hp ⊢
      refine .inl ⟨floor_inf, ?_⟩
      rw [hp]
      have : 12 ≤ wholeD infD := by
        have h5 := wholeD_mono (wordN_le 12)
        rw [wholeD_word (by omega)] at h5
        exact h5
      omega

end Go.Proofs.Yteeikmpfgbfeoaa

/-
  What sum.Hash does, for all that it is given, and the document's.
-/
namespace Go.Proofs.Yteeikmpfgbfeoaa
open Go.RowKit

theorem hashG_take (h : Nat) (l : List UInt8) (k : Nat) (hk : k < l.length) : hashG h (l.take (k + 1)) = hashB (hashG h (l.take k)) (l.getD k 0) := by
  rw [take_snoc' l k hk, hashG_snoc]

theorem hash_step (x : Nat) (c : UInt8) (hx : x < 4294967296) : bits .xor .u32 (x : Int) (c.toNat : Int) * 16777619 % 4294967296 = ((hashB x c : Nat) : Int) := by
  have := c.toNat_lt
  rw [xor_u32 _ _ hx (by omega), hashB]
  generalize x ^^^ c.toNat = z
  omega

theorem str_size (s : ByteArray) : s.data.toList.length = s.size := by rw [Array.length_toList]; rfl

set_option maxRecDepth 100000 in
set_option maxHeartbeats 1000000 in
theorem hash_any (s : ByteArray) (hs : s.size ≤ maxLen) (w : World) :
    Calls Try.prog 66 #[.string s] w fun e w' => e = .returned (.int .i64 (hashL s.data.toList : Nat)) ∧ w = w' := by
  have hsz := str_size s
  unfold maxLen at hs
  go_enter Try.func66, Try.ntmps66
  go_wp2
  go_loop [3, 7] (fun x i => ∃ k : Nat, k ≤ s.size ∧ i = .int .i64 k ∧ x = .int .u32 (hashG 2166136261 (s.data.toList.take k) : Nat)) (fun _ i => s.size - (intOf i).toNat)
  case atStart => exact ⟨0, Nat.zero_le _, rfl, rfl⟩
  case round =>
    obtain ⟨k, hk, rfl, rfl⟩ := hrel
    have hlt := hashG_lt 2166136261 (by decide) (s.data.toList.take k)
    by_cases hkl : k < s.size
    · have hst := hashG_take 2166136261 s.data.toList k (by omega)
      have hnx := hash_step (hashG 2166136261 (s.data.toList.take k)) (s.data.toList.getD k 0) hlt
      have hsk : s[k] = s.data.toList.getD k 0 := by
        simp only [ByteArray.getElem_eq_getElem_data, List.getD_eq_getElem?_getD]
        rw [List.getElem?_eq_getElem (by omega)]
        simp
      have hcb := byte_le (s.data.toList.getD k 0)
      have hm : ((s[k].toNat : Int) % 4294967296) = ((s.data.toList.getD k 0).toNat : Int) := by rw [hsk]; omega
      rw [← hm] at hnx
      clear hsk hcb hm
      generalize s.data.toList.getD k 0 = c at *
      generalize hashG 2166136261 (s.data.toList.take k) = x at *
      have hr := hnx.trans (congrArg (fun n : Nat => (n : Int)) hst.symm)
      have H := Lib.hid hr
      clear hr hnx hst
      go_wp2
      go_round
      case rel => exact ⟨k + 1, by omega, by go_num, congrArg (Value.int .u32) H.out⟩
      case measure => simp [intOf]; omega
    · obtain rfl : k = s.size := by omega
      have he : s.data.toList.take s.size = s.data.toList := by rw [← hsz, List.take_length]
      have hh : hashG 2166136261 (s.data.toList.take s.size) = hashL s.data.toList := by rw [he]; rfl
      rw [hh]
      clear hh he hlt
      have hx := hashL_lt s.data.toList
      generalize hq : hashL s.data.toList = x at *
      have HQ := Lib.hid hq
      clear hq
      go_wp2
      go_ret
      exact ⟨congrArg (fun n : Nat => Ending.returned (.int .i64 (n : Int))) HQ.out.symm, rfl⟩

end Go.Proofs.Yteeikmpfgbfeoaa

/-
  What bytes say of a key: what the document's MayBe does.
-/
namespace Go.Proofs.Yteeikmpfgbfeoaa
open Go.RowKit

theorem or_u32 (a b : Nat) (ha : a < 2 ^ 32) (hb : b < 2 ^ 32) : bits .or .u32 (a : Int) (b : Int) = ((a ||| b : Nat) : Int) := by
  have hx : a ||| b < 2 ^ 32 := Nat.or_lt_two_pow ha hb
  show IntKind.u32.wrap ((BitVec.ofInt 32 (a : Int) ||| BitVec.ofInt 32 (b : Int)).toNat : Int) = _
  rw [BitVec.toNat_or, ofInt_u32 a ha, ofInt_u32 b hb, IntKind.wrap_u32']
  omega

/-- A hash turned to the right by 17 of 32 bits. -/
def rot17 (h : Nat) : Nat := (h / 131072) ||| (h * 32768 % 4294967296)
theorem rot17_lt {h : Nat} (hh : h < 4294967296) : rot17 h < 4294967296 := Nat.or_lt_two_pow (n := 32) (show h / 131072 < 2 ^ 32 by omega) (show h * 32768 % 4294967296 < 2 ^ 32 by omega)
theorem rot17_bits {h : Nat} (hh : h < 4294967296) : bits .or .u32 ((h : Int) / 131072) ((h : Int) * 32768 % 4294967296) = ((rot17 h : Nat) : Int) := by
  have := or_u32 (h / 131072) (h * 32768 % 4294967296) (by omega) (by omega)
  rw [← show (((h / 131072 : Nat)) : Int) = (h : Int) / 131072 by omega, ← show (((h * 32768 % 4294967296 : Nat)) : Int) = (h : Int) * 32768 % 4294967296 by omega]
  exact this
/-- The j-th bit that is asked. -/
def bitX (h m j : Nat) : Nat := (h + j * rot17 h) % 4294967296 % (8 * m)
theorem bitX_int (h m j : Nat) : ((h : Int) + (j : Int) * ((rot17 h : Nat) : Int)) % 4294967296 % (8 * (m : Int)) = ((bitX h m j : Nat) : Int) := by
  unfold bitX
  rw [Int.natCast_emod, Int.natCast_emod, Int.natCast_add, Int.natCast_mul, Int.natCast_mul]
  rfl
theorem bitX_lt {h m j : Nat} (hm : 0 < m) : bitX h m j < 8 * m := Nat.mod_lt _ (by omega)

theorem and_one_u8 (a : Nat) (ha : a < 256) : bits .and .u8 (a : Int) 1 = ((a % 2 : Nat) : Int) := by
  have h1 : (BitVec.ofInt 8 1).toNat = 1 := by decide
  have h2 : (BitVec.ofInt 8 (a : Int)).toNat = a := by
    rw [BitVec.ofInt_natCast, BitVec.toNat_ofNat]
    exact Nat.mod_eq_of_lt (by omega)
  show IntKind.u8.wrap ((BitVec.ofInt 8 (a : Int) &&& BitVec.ofInt 8 1).toNat : Int) = _
  rw [BitVec.toNat_and, h2, h1, Nat.and_one_is_mod]
  rw [IntKind.wrap_u8]
  omega

/-- Is the bit set? -/
def hasBit (f : List UInt8) (x : Nat) : Bool := (f.getD (x / 8) 0).toNat / 2 ^ (x % 8) % 2 == 1
/-- May the key with this hash be there? -/
def mayL (f : List UInt8) (h : Nat) : Bool :=
  if f.length < 2 then true else if (f.getD (f.length - 1) 0).toNat = 0 ∨ 12 < (f.getD (f.length - 1) 0).toNat then true
  else (List.range (f.getD (f.length - 1) 0).toNat).all fun j => hasBit f (bitX h (f.length - 1) j)

theorem may_yes {f : List UInt8} {h m n : Nat} (h1 : ∀ j, j < n → hasBit f (bitX h m j) = true) : ((List.range n).all fun j => hasBit f (bitX h m j)) = true := by
  rw [List.all_eq_true]
  intro j hj
  exact h1 j (List.mem_range.1 hj)
theorem may_no {f : List UInt8} {h m n j : Nat} (hj : j < n) (h1 : hasBit f (bitX h m j) = false) : ((List.range n).all fun j => hasBit f (bitX h m j)) = false := by
  rw [List.all_eq_false]
  exact ⟨j, List.mem_range.2 hj, by rw [h1]; simp⟩

theorem mayret {a b : Bool} (h : a = b) : Ending.returned (.bool a) = .returned (.bool b) := by rw [h]

end Go.Proofs.Yteeikmpfgbfeoaa
