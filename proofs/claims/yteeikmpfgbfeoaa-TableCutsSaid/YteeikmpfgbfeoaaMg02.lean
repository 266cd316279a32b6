import Derived.Test.YteeikmpfgbfeoaaMg01
import Derived.Lib.AppendZeros
import Derived.Test.YteeikmpfgbfeoaaWords
import Derived.OwnWalk
import Derived.Test.YteeikmpfgbfeoaaTabRow
import Derived.Test.YteeikmpfgbfeoaaFixed
import Derived.Test.YteeikmpfgbfeoaaMemMath
import Derived.Test.YteeikmpfgbfeoaaKeyGood
import Derived.Test.YteeikmpfgbfeoaaBlkGet
import Derived.Test.YteeikmpfgbfeoaaBlkBox
import Derived.Test.YteeikmpfgbfeoaaOwnEnt
import Derived.Test.YteeikmpfgbfeoaaMg00
import Derived.Test.YteeikmpfgbfeoaaRegion
import Derived.Deep.Cut

/-
  What package frame needs of the library: bytes.Clone, slices.Grow of nothing, slices.Concat.
-/
namespace Go.Proofs.Yteeikmpfgbfeoaa
open Go.RowKit

theorem eqn_bytes (w : World) : (binOp .eql 22 (.slice none 0 0) (.slice none 0 0)).run Try.prog w = .ok (.bool true) w := by kernel_rfl
theorem eqs_bytes (ad : Addr) (n cap : Nat) (w : World) : (binOp .eql 22 (.slice (some ad) n cap) (.slice none 0 0)).run Try.prog w = .ok (.bool false) w := by kernel_rfl

set_option maxRecDepth 100000 in
set_option maxHeartbeats 1000000 in
theorem bclone_any (w : World) (v : Value) (l : List UInt8) (h : RdB w v l) (hn : l.length < 1000000000000) :
    Calls Try.prog 70 #[v] w (RetB w.heap.size w l) := by
  have h0 := h
  obtain ⟨a, cap, rfl, h1, h2, h3, h4⟩ := h
  by_cases hnil : a = none
  · subst hnil
    have hl : l = [] := by
      rcases h4 with ⟨h4, _⟩ | ⟨b, off, hb, _⟩
      · exact List.eq_nil_of_length_eq_zero h4
      · cases hb
    have hc : cap = 0 := by
      rcases h4 with ⟨_, h4⟩ | ⟨b, off, hb, _⟩
      · exact h4 rfl
      · cases hb
    subst hl hc
    have hq := eqn_bytes
    go_enter Try.func70, Try.ntmps70
    go_wp2
    go_ret
    exact ⟨_, rfl, OwnB.nil _ _ _, Below.refl _ _⟩
  · obtain ⟨ad, rfl⟩ := Option.ne_none_iff_exists'.1 hnil
    have hal : Below w.heap.size w (w.alloc (.cells #[] 5)) := (Below.refl _ _).alloc (Nat.le_refl _) _
    have hrd : RdB (w.alloc (.cells #[] 5)) (.slice (some ad) l.length cap) l := RdB.below h0 hal (Nat.le_refl _)
    have hq := eqs_bytes ad l.length cap
    have Hrd := Lib.hid hrd
    have Hal := Lib.hid hal
    clear hrd h3 h4 h0 hal
    go_enter Try.func70, Try.ntmps70
    go_wp2_with (at_builtin; refine wpList_append_bytes rfl (.tmp 5) (.tmp 6) 22 rfl w.heap.size 5 Try.underlying22 info_u8 _ _ [] l rfl rfl (OwnB.made w _ _ (Nat.le_refl _)) Hrd.out Hal.out.size (by simp; omega) ?_)
    intro c u1 ho1 hk1
    have HO := Lib.hid (show OwnB u1 w.heap.size 5 c l from ho1)
    have HB := Lib.hid (hk1 w.heap.size w (Nat.le_refl _) Hal.out)
    clear ho1 hk1
    go_wp2
    go_ret
    exact ⟨_, rfl, HO.out, HB.out⟩

set_option maxRecDepth 100000 in
set_option maxHeartbeats 1000000 in
theorem grow_nil (w : World) (n : Nat) (hn : n < 1000000000000) :
    Calls Try.prog 61 #[.slice none 0 0, .int .i64 n] w (RetB w.heap.size w []) := by
  obtain ⟨i0, hi, hz0, hz1, hz2⟩ := info_parts info_u8
  by_cases h0 : n = 0
  · subst h0
    go_enter Try.func61, Try.ntmps61
    go_wp2
    go_ret
    exact ⟨_, rfl, OwnB.nil _ _ _, Below.refl _ _⟩
  · have happ := Lib.run_append_nil_zeros (P := Try.prog) w 22 3 22 5 i0 (.int .u8 0) .i64 .i64 Try.underlying22 Try.underlying3 hi hz0 n (by omega) (by omega) (by omega) (by rw [hz2]; omega)
    have hcap := grownCap_le_maxLen w n 0 5 (by unfold maxLen; omega)
    have hge := grownCap_ge w n 0 5
    generalize grownCap w n 0 5 = g at *
    have hsz : (Builtin.zeroCells (Value.int .u8 0).cells n ++ Builtin.zeroCells (Value.int .u8 0).cells (g - n)).size = g * 1 := by simp [size_zeroCells, Value.cells]; omega
    generalize (Builtin.zeroCells (Value.int .u8 0).cells n ++ Builtin.zeroCells (Value.int .u8 0).cells (g - n)) = Z at *
    have hrow : (w.drew.alloc (.cells Z 5)).ownsRow w.heap.size 5 1 (.slice (some ⟨w.heap.size, 0, none⟩) 0 g) 0 [] := World.ownsRow_made w.drew Z g (Nat.le_refl _) hcap hsz
    have HR := Lib.hid hrow
    have hm : (0 : Int) < (n : Int) := by omega
    clear hrow hsz hi hz0 hz1 hz2
    go_enter Try.func61, Try.ntmps61
    go_wp2_with (at_builtin; refine Lib.wpList_append_run _ rfl _ _ _ _ rfl _ _ rfl rfl _ _ happ ?_)
    go_ret
    exact ⟨_, rfl, HR.out, (Below.refl _ w).drew.alloc (Nat.le_refl _) _⟩

def sumLen (ls : List (List UInt8)) : Nat := (ls.map List.length).sum

theorem sumLen_take (ls : List (List UInt8)) (k : Nat) (l : List UInt8) (h : ls[k]? = some l) : sumLen (ls.take (k + 1)) = sumLen (ls.take k) + l.length := by
  obtain ⟨hk, rfl⟩ := List.getElem?_eq_some_iff.1 h
  unfold sumLen
  rw [List.take_succ_eq_append_getElem hk, List.map_append, List.sum_append]
  simp

theorem sumLen_le (ls : List (List UInt8)) (k : Nat) : sumLen (ls.take k) ≤ sumLen ls := by
  unfold sumLen
  conv => rhs; rw [← List.take_append_drop k ls]
  rw [List.map_append, List.sum_append]
  omega

theorem flat_take (ls : List (List UInt8)) (k : Nat) (l : List UInt8) (h : ls[k]? = some l) : (ls.take (k + 1)).flatten = (ls.take k).flatten ++ l := by
  obtain ⟨hk, rfl⟩ := List.getElem?_eq_some_iff.1 h
  rw [List.take_succ_eq_append_getElem hk, List.flatten_append, List.flatten_singleton]

theorem flat_len (ls : List (List UInt8)) : ls.flatten.length = sumLen ls := by rw [List.length_flatten]; rfl

set_option maxRecDepth 100000 in
set_option maxHeartbeats 2000000 in
theorem concat_any (w : World) (v : Value) (ls : List (List UInt8)) (h : RdLL w v ls) (hn : ls.length < 1000000) (hs : sumLen ls < 1000000000000) :
    Calls Try.prog 40 #[v] w (RetB w.heap.size w ls.flatten) := by
  obtain ⟨la, lc, rfl, _, _⟩ := h.form
  have HL := Lib.hid h
  clear h
  go_enter Try.func40, Try.ntmps40
  go_wp2
  go_loopw [3, 11] (fun n i wr => ∃ k : Nat, k ≤ ls.length ∧ i = .int .i64 k ∧ n = .int .i64 (sumLen (ls.take k) : Nat) ∧ Below w.heap.size w wr) (fun _ i _ => ls.length - (intOf i).toNat)
  case atStart => exact ⟨0, Nat.zero_le _, rfl, rfl, Below.refl _ _⟩
  case round =>
    obtain ⟨k, hk, rfl, rfl, hb⟩ := hrel
    have HB := Lib.hid hb
    clear hb
    by_cases hlt : k < ls.length
    · obtain ⟨x, hx⟩ : ∃ x, ls[k]? = some x := ⟨_, List.getElem?_eq_getElem hlt⟩
      obtain ⟨b, o, a, cap, rfl, hcell, _, _⟩ := (HL.out.below HB.out (Nat.le_refl _)).at_ hx
      have hst := sumLen_take ls k x hx
      have hle := sumLen_le ls (k + 1)
      rw [hst] at hle
      have HS := Lib.hid hst
      clear hst hx
      generalize sumLen (ls.take k) = m at *
      go_wp2
      go_roundw
      case rel => exact ⟨k + 1, by omega, by go_num, by rw [HS.out]; go_num, HB.out⟩
      case measure => simp [intOf]; omega
    · have HX : Hid (sumLen (ls.take k) = sumLen ls) := by rw [List.take_of_length_le (by omega)]; exact rfl
      rw [HX.out]
      have HG := Lib.hid (grow_nil wr (sumLen ls) hs)
      have hbz := HB.out.size
      go_wp2_with (go_at_call 61; refine HG.out.mono ?_; rintro e w1 ⟨u, rfl, hu, hb1⟩; have HU := Lib.hid (own_base hu (B' := w.heap.size) fun k hk => Nat.le_trans hbz (World.ownsRow.lt hu k hk).1); have HB1 := Lib.hid (HB.out.trans (hb1.mono hbz)); clear hu hb1)
      go_loopw [6, 27] (fun u i wr => ∃ k : Nat, k ≤ ls.length ∧ i = .int .i64 k ∧ OwnB wr w.heap.size 5 u (ls.take k).flatten ∧ Below w.heap.size w wr) (fun _ i _ => ls.length - (intOf i).toNat)
      case atStart => exact ⟨0, Nat.zero_le _, rfl, HU.out, HB1.out⟩
      case round =>
        obtain ⟨k, hk, rfl, hu, hb⟩ := hrel
        have HU := Lib.hid hu
        have HB := Lib.hid hb
        clear hu hb
        by_cases hlt : k < ls.length
        · obtain ⟨x, hx⟩ : ∃ x, ls[k]? = some x := ⟨_, List.getElem?_eq_getElem hlt⟩
          obtain ⟨b, o, a, cap, rfl, hcell, hrx, _⟩ := (HL.out.below HB.out (Nat.le_refl _)).at_ hx
          have hst := sumLen_take ls k x hx
          have hle := sumLen_le ls (k + 1)
          rw [hst] at hle
          have hfl := flat_len (ls.take k)
          have HF := Lib.hid (flat_take ls k x hx)
          have HRX := Lib.hid hrx
          clear hst hx hrx
          generalize (ls.take k).flatten = f at *
          go_wp2_with (at_builtin; refine wpList_append_bytes rfl (.tmp 31) (.tmp 32) 22 rfl w.heap.size 5 Try.underlying22 info_u8 _ _ f x rfl rfl HU.out HRX.out HB.out.size (by omega) ?_)
          intro c u1 ho1 hk1
          have HO := Lib.hid ho1
          have HB2 := Lib.hid (hk1 w.heap.size w (Nat.le_refl _) HB.out)
          clear ho1 hk1
          go_wp2
          go_roundw
          case rel => exact ⟨k + 1, by omega, by go_num, by rw [HF.out]; exact HO.out, HB2.out⟩
          case measure => simp [intOf]; omega
        · have HX : Hid (ls.take k = ls) := Lib.hid (List.take_of_length_le (by omega))
          go_wp2
          go_ret
          exact ⟨_, rfl, HX.out ▸ HU.out, HB.out⟩
end Go.Proofs.Yteeikmpfgbfeoaa

/-
  What sum.Sum and sum.Hash do, for all that they are given.
-/
namespace Go.Proofs.Yteeikmpfgbfeoaa
open Go.RowKit

theorem crcL_take (c : Nat) (l : List UInt8) (k : Nat) (h : k < l.length) : crcL c (l.take (k + 1)) = crcB (crcL c (l.take k)) (l.getD k 0) := by
  rw [take_snoc' l k h, crcL_append]
  rfl

/-- One bit, the polynomial under a mask of the bit that falls out. -/
theorem step_mask (y : Nat) (hy : y < 2 ^ 32) : bits .xor .u32 ((y : Int) / 2) (bits .and .u32 2197175160 (-bits .and .u32 (y : Int) 1 % 4294967296)) = ((st1 y : Nat) : Int) := by
  rw [and_one_u32 y hy]
  have h2 : (y : Int) / 2 = ((y / 2 : Nat) : Int) := by omega
  have hp : st1 y < 2 ^ 32 := st1_lt y hy
  rcases Nat.mod_two_eq_zero_or_one y with h | h
  · rw [h, st1_even y h]
    have e : bits .and .u32 2197175160 (-((0 : Nat) : Int) % 4294967296) = ((0 : Nat) : Int) := by decide
    rw [e, h2, xor_u32 _ _ (by omega) (by decide), Nat.xor_zero]
  · rw [h, st1_odd y h]
    have e : bits .and .u32 2197175160 (-((1 : Nat) : Int) % 4294967296) = ((poly : Nat) : Int) := by decide
    rw [e, h2, xor_u32 _ _ (by omega) (by decide)]

/-- All bits turned round, as programs spell it. -/
theorem flip_u32 (x : Nat) (hx : x < 2 ^ 32) : wrap64 (bits .xor .u32 IntKind.u32.max (x : Int)) = ((x ^^^ 4294967295 : Nat) : Int) := by
  have h : x ^^^ 4294967295 < 2 ^ 32 := Nat.xor_lt_two_pow hx (by decide)
  have e : IntKind.u32.max = ((4294967295 : Nat) : Int) := by decide
  rw [e, xor_u32 _ _ (by decide) hx, Nat.xor_comm]
  exact IntWalk.wrap64_in _ (by omega)

set_option maxRecDepth 100000 in
set_option maxHeartbeats 1000000 in
theorem sum_any (v : Value) (l : List UInt8) (w : World) (hv : RdB w v l) :
    Calls Try.prog 41 #[v] w fun e w' => e = .returned (.int .i64 (sumL l : Nat)) ∧ w = w' := by
  obtain ⟨a, cap, rfl, hc1, hc2⟩ := hv.form
  unfold maxLen at hc2
  go_enter Try.func41, Try.ntmps41
  go_wp2
  go_loop [3, 8] (fun x i => ∃ k : Nat, k ≤ l.length ∧ i = .int .i64 k ∧ x = .int .u32 (crcL 4294967295 (l.take k) : Nat)) (fun _ i => l.length - (intOf i).toNat)
  case atStart => exact ⟨0, Nat.zero_le _, rfl, rfl⟩
  case round =>
    obtain ⟨k, hk, rfl, rfl⟩ := hrel
    have hlt := crcL_lt (l.take k) 4294967295 (by decide)
    by_cases hkl : k < l.length
    · obtain ⟨b, off, cap', hv', _, _, hbw, hcell⟩ := hv.cells (by intro h; subst h; simp at hkl)
      cases hv'
      have hcell' := hcell k hkl
      have hst := crcL_take 4294967295 l k hkl
      clear hcell
      generalize l.getD k 0 = c at hst hcell'
      generalize crcL 4294967295 (l.take k) = x at *
      have hcb := byte_le c
      have H := Lib.hid hst
      clear hst
      have hxc : x ^^^ c.toNat < 2 ^ 32 := Nat.xor_lt_two_pow hlt (by omega)
      have hX := xor_u32 x c.toNat hlt (by omega)
      unfold crcB at H
      generalize hz : x ^^^ c.toNat = z at *
      have HX := Lib.hid hX
      clear hX hz
      go_wp2
      go_loop [3, 16] (fun y i => ∃ m : Nat, m ≤ 8 ∧ i = .int .i64 m ∧ y = .int .u32 (stN m z : Nat)) (fun _ i => 8 - (intOf i).toNat)
      case atStart => exact ⟨0, Nat.zero_le _, rfl, congrArg (Value.int .u32) HX.out⟩
      case round =>
        obtain ⟨m, hm, rfl, rfl⟩ := hrel
        have hylt := stN_lt m z hxc
        by_cases hm8 : m < 8
        · have hnx : stN (m + 1) z = st1 (stN m z) := stN_add m 1 z
          generalize stN m z = y at *
          have HN := Lib.hid hnx
          clear hnx
          go_wp2
          go_round
          case rel => exact ⟨m + 1, by omega, by go_num, congrArg (Value.int .u32) ((step_mask y hylt).trans (congrArg (fun n : Nat => (n : Int)) HN.out.symm))⟩
          case measure => simp [intOf]; omega
        · obtain rfl : m = 8 := by omega
          generalize stN 8 z = y at *
          go_wp2
          go_round
          case rel => exact ⟨k + 1, by omega, by go_num, congrArg (fun n : Nat => Value.int .u32 (n : Int)) H.out.symm⟩
          case measure => simp [intOf]; omega
    · obtain rfl : k = l.length := by omega
      rw [List.take_length] at *
      have hs : sumL l = crcL 4294967295 l ^^^ 4294967295 := rfl
      have hf := flip_u32 _ hlt
      have hr := hf.trans (congrArg (fun n : Nat => (n : Int)) hs.symm)
      clear hf hs
      generalize crcL 4294967295 l = x at *
      have H := Lib.hid hr
      clear hr
      go_wp2
      go_ret
      exact ⟨congrArg (fun n : Int => Ending.returned (.int .i64 n)) H.out, rfl⟩

/-- .. of the document. -/
theorem xor_poly (y : Nat) (hy : y < 2 ^ 32) : bits .xor .u32 ((y : Int) / 2) 2197175160 = ((y / 2 ^^^ poly : Nat) : Int) := by
  have h2 : (y : Int) / 2 = ((y / 2 : Nat) : Int) := by omega
  rw [h2]
  exact xor_u32 _ poly (by omega) (by decide)

end Go.Proofs.Yteeikmpfgbfeoaa

/-
  What frame.Put and frame.Get do, for all that they are given.
-/
namespace Go.Proofs.Yteeikmpfgbfeoaa
open Go.RowKit

theorem rdB_form' {w : World} {v : Value} {l : List UInt8} (h : RdB w v l) : ∃ a cap, v = .slice a l.length cap := let ⟨a, cap, h, _⟩ := h.form; ⟨a, cap, h⟩

/-- A slice of three slices that was built. -/
theorem rdLL_three {w : World} {B : Nat} {c1 c2 c3 : Value} {l1 l2 l3 : List UInt8} {e : Nat} (h : w.heap[B]? = some (.cells #[c1, c2, c3] e (0, 0))) (h1 : RdB w c1 l1) (h2 : RdB w c2 l2) (h3 : RdB w c3 l3) :
    RdLL w (.slice (some ⟨B, 0, none⟩) 3 3) [l1, l2, l3] := by
  refine ⟨[c1, c2, c3], ⟨_, _, rfl, Nat.le_refl _, by unfold maxLen; simp, rfl, .inr ⟨B, 0, rfl, blk_lt h, fun j u hj => ?_⟩⟩, fun i c l hc hl => ?_⟩
  · rw [Nat.zero_add, blk_cell h]
    simpa using hj
  · match i, hc, hl with
    | 0, hc, hl => simp at hc hl; subst hc hl; exact h1
    | 1, hc, hl => simp at hc hl; subst hc hl; exact h2
    | 2, hc, hl => simp at hc hl; subst hc hl; exact h3
    | i + 3, hc, hl => simp at hc

set_option maxRecDepth 100000 in
set_option maxHeartbeats 1000000 in
theorem fput_any (w : World) (v : Value) (l : List UInt8) (h : RdB w v l) (hn : l.length < 1000000000000) :
    Calls Try.prog 24 #[v] w (RetB w.heap.size w (frL l)) := by
  obtain ⟨a, cap, rfl, hc1, hc2⟩ := h.form
  unfold maxLen at hc2
  by_cases hm : l.length ≤ 1048576
  · have g1 : ¬ (1048576 : Int) < (l.length : Int) := by omega
    have e1 : frL l = [fixL (l.length : Int) 4, fixL (sumL l : Int) 4, l].flatten := by
      unfold frL
      rw [if_pos hm]
      simp [frRaw]
    have HV := Lib.hid h
    rw [e1]
    clear e1
    have hs : sumLen [fixL (l.length : Int) 4, fixL (sumL l : Int) 4, l] < 1000000000000 := by
      simp [sumLen, fixL_length]
      omega
    have HS := Lib.hid hs
    clear h hs
    obtain ⟨fl, hfl⟩ : ∃ fl, fl = [fixL (l.length : Int) 4, fixL (sumL l : Int) 4, l].flatten := ⟨_, rfl⟩
    rw [← hfl]
    have HFL := Lib.hid hfl
    clear hfl
    go_enter Try.func24, Try.ntmps24
    go_wp2_with fail
    refine (fixed_yes (l.length : Int) 4 (by omega) _).mono ?_
    rintro e w1 ⟨u1, rfl, hu1, hb1⟩
    obtain ⟨a1, k1, rfl⟩ := rdB_form' hu1.read
    rw [fixL_length] at *
    have HV1 := Lib.hid (HV.out.below hb1 (Nat.le_refl _))
    have HU1 := Lib.hid hu1
    have HB1 := Lib.hid hb1
    clear hu1 hb1
    go_wp2_with fail
    refine (sum_any _ l _ HV1.out).mono ?_
    rintro e w2 ⟨rfl, rfl⟩
    go_wp2_with fail
    refine (fixed_yes (sumL l : Int) 4 (by omega) _).mono ?_
    rintro e w3 ⟨u3, rfl, hu3, hb3⟩
    obtain ⟨a3, k3, rfl⟩ := rdB_form' hu3.read
    rw [fixL_length] at *
    have HV3 := Lib.hid (HV1.out.below hb3 (Nat.le_refl _))
    have HU13 := Lib.hid (HU1.out.below hb3 (Nat.le_refl _))
    have HU3 := Lib.hid hu3
    have HB3 := Lib.hid (HB1.out.trans (hb3.mono HB1.out.size))
    clear hu3 hb3
    go_wp2_with fail
    obtain ⟨o3, ho3⟩ : ∃ o3, o3 = Obj.cells #[.slice a1 4 k1, .slice a3 4 k3, .slice a l.length cap] 22 := ⟨_, rfl⟩
    rw [← ho3]
    have hal : Below w.heap.size w (w3.alloc o3) := HB3.out.alloc HB3.out.size _
    have hal3 : Below w3.heap.size w3 (w3.alloc o3) := (Below.refl _ _).alloc (Nat.le_refl _) _
    have hrd := rdLL_three (w := w3.alloc o3) (B := w3.heap.size) (e := 22) (by rw [← ho3]; exact heap_alloc_new w3 o3) (HU13.out.read.below hal3 (Nat.le_refl _)) (HU3.out.read.below hal3 (Nat.le_refl _)) (HV3.out.below hal3 (Nat.le_refl _))
    refine (concat_any _ _ _ hrd (by simp) HS.out).mono ?_
    rintro e w4 ⟨u4, rfl, hu4, hb4⟩
    go_wp2_with fail
    go_ret
    rw [HFL.out]
    exact ⟨_, rfl, own_base hu4 fun k hk => Nat.le_trans hal.size (World.ownsRow.lt hu4 k hk).1, hal.trans (hb4.mono hal.size)⟩
  · have g1 : (1048576 : Int) < (l.length : Int) := by omega
    have e1 : frL l = [] := by unfold frL; rw [if_neg hm]
    rw [e1]
    clear h e1
    go_enter Try.func24, Try.ntmps24
    go_wp2
    go_ret
    exact ⟨_, rfl, OwnB.nil _ _ _, Below.refl _ _⟩

/-- What Get tells of a place: nothing, or what the record there holds, and where it ends. -/
def GetFr (w : World) (l : List UInt8) (at_ : Int) (e : Ending) (w' : World) : Prop :=
  ((∀ p : Nat, at_ = p → frOk l p = false) ∧ e = .returned (.tuple #[.slice none 0 0, .int .i64 0, .bool false]) ∧ Below w.heap.size w w') ∨
  (∃ p : Nat, at_ = p ∧ frOk l p = true ∧ ∃ u, e = .returned (.tuple #[u, .int .i64 ((p + 8 + frN l p : Nat) : Int), .bool true]) ∧ OwnB w' w.heap.size 5 u (frP l p) ∧ Below w.heap.size w w')

theorem frN_lt (l : List UInt8) (p : Nat) : frN l p < 4294967296 := by
  have h := valL_lt ((l.drop p).take 4)
  have h2 : ((l.drop p).take 4).length ≤ 4 := by rw [List.length_take]; omega
  have h3 : 256 ^ ((l.drop p).take 4).length ≤ 256 ^ 4 := Nat.pow_le_pow_right (by omega) h2
  unfold frN
  omega

theorem frOk_far {l : List UInt8} {p : Nat} (h : l.length < p + 8 + frN l p) : frOk l p = false := by
  unfold frOk
  rw [decide_eq_false (by omega)]
  rfl

theorem frOk_big {l : List UInt8} {p : Nat} (h : 1048576 < frN l p) : frOk l p = false := by
  unfold frOk
  rw [decide_eq_false (p := frN l p ≤ 1048576) (by omega)]
  simp

theorem frOk_sum {l : List UInt8} {p : Nat} (h : ¬ sumL (frP l p) = valL ((l.drop (p + 4)).take 4)) : frOk l p = false := by
  unfold frOk
  rw [decide_eq_false h]
  simp

theorem frOk_mk {l : List UInt8} {p : Nat} (h1 : p + 8 + frN l p ≤ l.length) (h2 : frN l p ≤ 1048576) (h3 : sumL (frP l p) = valL ((l.drop (p + 4)).take 4)) : frOk l p = true := by
  unfold frOk
  rw [decide_eq_true h1, decide_eq_true h2, decide_eq_true h3]
  rfl

theorem rdB_empty (w : World) (a : Option Addr) (c : Nat) (hc : c ≤ maxLen) (ha : a = none → c = 0) : RdB w (.slice a 0 c) [] := ⟨a, c, rfl, Nat.zero_le _, hc, rfl, .inl ⟨rfl, ha⟩⟩

set_option maxRecDepth 100000 in
set_option maxHeartbeats 2000000 in
theorem fget_any (w : World) (v : Value) (l : List UInt8) (at_ : Int) (h : RdB w v l) (hn : l.length < 1000000000000) (ha : -9223372036854775808 ≤ at_ ∧ at_ ≤ 9223372036854775807) :
    Calls Try.prog 51 #[v, .int .i64 at_] w (GetFr w l at_) := by
  obtain ⟨a, cap, rfl, hc1, hc2⟩ := h.form
  unfold maxLen at hc2
  have HV := Lib.hid h
  by_cases h1 : at_ < 0 ∨ (l.length : Int) - 4 < at_
  · have HG := Lib.hid (getFixed_out _ l at_ 4 (by omega) (by omega) w h)
    have HN : Hid (∀ p : Nat, at_ = p → frOk l p = false) := Lib.hid fun p hp => frOk_far (by omega)
    clear h1 h
    go_enter Try.func51, Try.ntmps51
    go_wp2_with (go_at_call 49; refine HG.out.mono ?_; rintro e w1 ⟨rfl, rfl⟩)
    go_ret3
    exact .inl ⟨HN.out, rfl, Below.refl _ _⟩
  obtain ⟨p, rfl⟩ : ∃ p : Nat, at_ = p := ⟨at_.toNat, by omega⟩
  have hp4 : p + 4 ≤ l.length := by omega
  have HG := Lib.hid (getFixed_yes _ l p 4 (by omega) hp4 w h)
  have hlt := frN_lt l p
  have hfn : valL ((l.drop p).take 4) = frN l p := rfl
  rw [hfn] at HG
  by_cases h2 : 1048576 < frN l p ∨ l.length < p + 8 + frN l p
  · have HN : Hid (frOk l p = false) := Lib.hid (h2.elim (fun h => frOk_big h) fun h => frOk_far h)
    have HN' : Hid (∀ q : Nat, ((p : Int) = (q : Int)) → frOk l q = false) := Lib.hid fun q hq => by
      have : q = p := by omega
      rw [this]; exact HN.out
    clear h hfn h1
    generalize frN l p = n at *
    have g : (1048576 : Int) < (n : Int) ∨ ((n : Int) ≤ 1048576 ∧ (l.length : Int) - (p : Int) - 8 < (n : Int)) := by omega
    clear h2
    rcases g with g | ⟨g1, g2⟩
    all_goals
      go_enter Try.func51, Try.ntmps51
      go_wp2_with (go_at_call 49; refine HG.out.mono ?_; rintro e w1 ⟨rfl, rfl⟩)
      go_ret3
      exact .inl ⟨HN'.out, rfl, Below.refl _ _⟩
  have h3 : frN l p ≤ 1048576 := by omega
  have h4 : p + 8 + frN l p ≤ l.length := by omega
  obtain ⟨b, off, cap', hv', _, _, _, _⟩ := h.cells (by intro e; subst e; simp at h4)
  cases hv'
  have hadd : (⟨b, off, none⟩ : Addr).add (p + 8) = ⟨b, off + (p + 8), none⟩ := by unfold Addr.add; split <;> simp_all
  have HG2 := Lib.hid (getFixed_yes _ l (p + 4) 4 (by omega) (by omega) w h)
  have HSUB := Lib.hid (sub_rd h (p + 8) (frN l p) (by omega) (by omega))
  rw [Option.map_some, hadd] at HSUB
  clear hadd
  have HP := Lib.hid (frP_length h4)
  have hck : ((valL ((l.drop (p + 4)).take 4) : Nat) : Int) < 4294967296 := by
    have := frN_lt l (p + 4)
    unfold frN at this
    omega
  have hpe : ((p + 4 : Nat) : Int) = (p : Int) + 4 := by omega
  rw [hpe] at HG2
  rw [show ((4 : Nat) : Int) = 4 from rfl] at HG HG2
  have hn1 : ((p : Int) + 8 + (frN l p : Int)).toNat = p + 8 + frN l p := by omega
  have hn2 : p + 8 + frN l p - (p + 8) = frN l p := by omega
  have hret : ((p : Int) + 8 + (frN l p : Int)) = ((p + 8 + frN l p : Nat) : Int) := by omega
  have HRET := Lib.hid hret
  have hps : ((p : Int) + 8).toNat = p + 8 := by omega
  have HOK : Hid (sumL (frP l p) = valL ((l.drop (p + 4)).take 4) → frOk l p = true) := Lib.hid fun h => frOk_mk h4 h3 h
  have HNO : Hid (¬ sumL (frP l p) = valL ((l.drop (p + 4)).take 4) → frOk l p = false) := Lib.hid fun h => frOk_sum h
  have hX : (l.drop (p + 8)).take (frN l p) = frP l p := rfl
  rw [hX] at HSUB
  clear h hfn h1 h2 hpe hret hX
  generalize hfe : frP l p = f at *
  generalize valL ((l.drop (p + 4)).take 4) = ck at *
  generalize hne : frN l p = n at *
  have HFE := Lib.hid hfe
  have HNE := Lib.hid hne
  clear hfe hne
  have g1 : ¬ (1048576 : Int) < (n : Int) := by omega
  have g2 : ¬ (l.length : Int) - (p : Int) - 8 < (n : Int) := by omega
  obtain ⟨sv, hsv⟩ : ∃ sv, sv = (if cap = p + 8 then Value.slice (some ⟨b, off, none⟩) n 0 else .slice (some ⟨b, off + (p + 8), none⟩) n (cap - (p + 8))) := ⟨_, rfl⟩
  have HR : Hid (RdB w sv f) := Lib.hid (by
    rw [hsv]
    split
    · rename_i hcp
      have hn0 : n = 0 := by omega
      have hf0 : f = [] := List.eq_nil_of_length_eq_zero (by rw [HP.out, hn0])
      rw [hf0, hn0]
      exact rdB_empty _ _ _ (Nat.zero_le _) fun h => by cases h
    · unfold RdB
      rw [HP.out]
      exact HSUB.out)
  have hsum : (sumL f : Int) < 4294967296 := by have := sumL_lt f; omega
  clear hsum hck hlt
  by_cases hcp : cap = p + 8
  · rw [if_pos hcp] at hsv
    subst hsv
    subst hcp
    by_cases hs : sumL f = ck
    · have HOK' := Lib.hid (HOK.out hs)
      have HCL := Lib.hid (bclone_any w _ f HR.out (by have := HP.out; omega))
      have HSM := Lib.hid (sum_any _ f w HR.out)
      have hsi : ((sumL f : Int) != (ck : Int)) = false := by rw [hs]; simp
      clear hs
      go_enter Try.func51, Try.ntmps51
      go_wp2_with (first | (go_at_call 49; first | ((with_reducible refine HG.out.mono ?_); rintro e w1 ⟨rfl, rfl⟩) | ((with_reducible refine HG2.out.mono ?_); rintro e w1 ⟨rfl, rfl⟩)) | (go_at_call 41; (with_reducible refine HSM.out.mono ?_); rintro e w1 ⟨rfl, rfl⟩) | (go_at_call 70; (with_reducible refine HCL.out.mono ?_); rintro e w1 ⟨u, rfl, hu, hb⟩; have HU := Lib.hid hu; have HB := Lib.hid hb; clear hu hb))
      go_ret3
      refine .inr ⟨p, rfl, HOK'.out, u, ?_, ?_, HB.out⟩
      · rw [HNE.out, ← HRET.out]
        rfl
      · rw [HFE.out]
        exact HU.out
    · have HNO' : Hid (∀ q : Nat, ((p : Int) = (q : Int)) → frOk l q = false) := Lib.hid fun q hq => by
        have : q = p := by omega
        rw [this]; exact HNO.out hs
      have HSM := Lib.hid (sum_any _ f w HR.out)
      have hsb : ((sumL f : Int) != (ck : Int)) = true := by simp; omega
      clear hs
      go_enter Try.func51, Try.ntmps51
      go_wp2_with (first | (go_at_call 49; first | ((with_reducible refine HG.out.mono ?_); rintro e w1 ⟨rfl, rfl⟩) | ((with_reducible refine HG2.out.mono ?_); rintro e w1 ⟨rfl, rfl⟩)) | (go_at_call 41; (with_reducible refine HSM.out.mono ?_); rintro e w1 ⟨rfl, rfl⟩))
      go_ret3
      exact .inl ⟨HNO'.out, rfl, Below.refl _ _⟩
  · rw [if_neg hcp] at hsv
    subst hsv
    by_cases hs : sumL f = ck
    · have HOK' := Lib.hid (HOK.out hs)
      have HCL := Lib.hid (bclone_any w _ f HR.out (by have := HP.out; omega))
      have HSM := Lib.hid (sum_any _ f w HR.out)
      have hsi : ((sumL f : Int) != (ck : Int)) = false := by rw [hs]; simp
      clear hs
      go_enter Try.func51, Try.ntmps51
      go_wp2_with (first | (go_at_call 49; first | ((with_reducible refine HG.out.mono ?_); rintro e w1 ⟨rfl, rfl⟩) | ((with_reducible refine HG2.out.mono ?_); rintro e w1 ⟨rfl, rfl⟩)) | (go_at_call 41; (with_reducible refine HSM.out.mono ?_); rintro e w1 ⟨rfl, rfl⟩) | (go_at_call 70; (with_reducible refine HCL.out.mono ?_); rintro e w1 ⟨u, rfl, hu, hb⟩; have HU := Lib.hid hu; have HB := Lib.hid hb; clear hu hb))
      go_ret3
      refine .inr ⟨p, rfl, HOK'.out, u, ?_, ?_, HB.out⟩
      · rw [HNE.out, ← HRET.out]
        rfl
      · rw [HFE.out]
        exact HU.out
    · have HNO' : Hid (∀ q : Nat, ((p : Int) = (q : Int)) → frOk l q = false) := Lib.hid fun q hq => by
        have : q = p := by omega
        rw [this]; exact HNO.out hs
      have HSM := Lib.hid (sum_any _ f w HR.out)
      have hsb : ((sumL f : Int) != (ck : Int)) = true := by simp; omega
      clear hs
      go_enter Try.func51, Try.ntmps51
      go_wp2_with (first | (go_at_call 49; first | ((with_reducible refine HG.out.mono ?_); rintro e w1 ⟨rfl, rfl⟩) | ((with_reducible refine HG2.out.mono ?_); rintro e w1 ⟨rfl, rfl⟩)) | (go_at_call 41; (with_reducible refine HSM.out.mono ?_); rintro e w1 ⟨rfl, rfl⟩))
      go_ret3
      exact .inl ⟨HNO'.out, rfl, Below.refl _ _⟩
end Go.Proofs.Yteeikmpfgbfeoaa

/-
  Tables: putEnd: what stands behind the filter's frame: the last frame, two places, how many entries there are, the mark.
-/
namespace Go.Proofs.Yteeikmpfgbfeoaa
open Go.RowKit

/-- A row as bytes. -/
def rwB (r : Rw) : List UInt8 := putT r.u.data.toList ++ putL (2 * r.s + r.k - 1).toNat ++ putL r.at_.toNat ++ putL r.n.toNat
def rwsB (rs : List Rw) : List UInt8 := rs.flatMap rwB
/-- The row's numbers are in their bounds. -/
structure RwOk (r : Rw) : Prop where
  u : r.u.size ≤ 64
  s0 : 0 ≤ r.s
  s1 : r.s ≤ 9007199254740992
  k0 : 1 ≤ r.k
  k1 : r.k ≤ 2
  a0 : 0 ≤ r.at_
  a1 : r.at_ ≤ 100000000
  n0 : 0 ≤ r.n
  n1 : r.n ≤ 100000000
theorem RwOk.len {r : Rw} (h : RwOk r) : (putT r.u.data.toList ++ putL (2 * r.s + r.k - 1).toNat).length ≤ 82 ∧ (putL r.at_.toNat).length ≤ 9 ∧ (putL r.n.toNat).length ≤ 9 ∧ (rwB r).length ≤ 100 := by
  have h1 := h.u; have h2 := h.s0; have h3 := h.s1; have h4 := h.k0; have h5 := h.k1; have h6 := h.a0; have h7 := h.a1; have h8 := h.n0; have h9 := h.n1
  have a := putL_length r.u.size (by omega)
  have b := putL_length (2 * r.s + r.k - 1).toNat (by omega)
  have c := putL_length r.at_.toNat (by omega)
  have d := putL_length r.n.toNat (by omega)
  unfold rwB putT
  simp only [List.length_append, str_len]
  omega
theorem rwsB_len {rs : List Rw} (h : ∀ r ∈ rs, RwOk r) : (rwsB rs).length ≤ 100 * rs.length := by
  induction rs with
  | nil => simp [rwsB]
  | cons r rs ih =>
    unfold rwsB at *
    rw [List.flatMap_cons, List.length_append, List.length_cons]
    have h1 := (h r List.mem_cons_self).len.2.2.2
    have h2 := ih fun x hx => h x (List.mem_cons_of_mem _ hx)
    omega
theorem rws_more (rs : List Rw) {k : Nat} (hk : k < rs.length) : rwsB (rs.take (k + 1)) = rwsB (rs.take k) ++ rwB (rs.getD k Rw.none_) := by
  unfold rwsB
  rw [List.take_add_one, List.flatMap_append]
  simp [List.getD, hk]
/-- What stands behind the filter's frame. -/
def endB (rs : List Rw) (fa la c : Int) : List UInt8 := frRaw (rwsB rs) ++ fixL fa 4 ++ fixL la 4 ++ fixL c 4 ++ [105, 99, 98, 49]
theorem endB_len {rs : List Rw} (h : ∀ r ∈ rs, RwOk r) (fa la c : Int) : (endB rs fa la c).length ≤ 100 * rs.length + 24 := by
  have := rwsB_len h
  unfold endB
  simp only [List.length_append, frRaw_length, fixL_length, List.length_cons, List.length_nil]
  omega

set_option maxRecDepth 100000 in
set_option maxHeartbeats 600000 in
theorem putEnd_any (v : Value) (rs : List Rw) (fa la c : Int) (w : World) (hv : RdR w v rs) (hok : ∀ r ∈ rs, RwOk r) (hl : rs.length ≤ 256) :
    Calls Try.prog 28 #[v, .int .i64 fa, .int .i64 la, .int .i64 c] w (RetB w.heap.size w (endB rs fa la c)) := by
  have HV := Lib.hid hv
  have HOK := Lib.hid hok
  obtain ⟨va, vc, rfl, hc1, hc2⟩ := hv.form
  unfold maxLen at hc2
  clear hv hok
  go_enter Try.func28, Try.ntmps28
  go_wp2
  go_loopw [9, 17] (fun b i wr => ∃ (k : Nat) (b' : Value), k ≤ rs.length ∧ b' = b ∧ i = .int .i64 (k : Int) ∧ Hid (BT w w.heap.size wr b' (.slice none 0 0) (rwsB (rs.take k)) [])) (fun _ i _ => rs.length - (intOf i).toNat)
  case atStart => exact ⟨0, _, Nat.zero_le _, rfl, rfl, Lib.hid (BT.start (Below.refl _ _) (Nat.le_refl _))⟩
  case round =>
    obtain ⟨k, xb, hk, rfl, rfl, HT⟩ := hrel
    by_cases hlt : k < rs.length
    · obtain ⟨_, _, hva, hone⟩ := HV.out.one
      cases hva
      obtain ⟨b, off, rfl, hbw, c0, c1, c2, c3, c4⟩ := hone k hlt
      have z0 := (HT.out.be.cell (p := ⟨b, off + k * 5, none⟩) hbw).trans c0
      have z1 := (HT.out.be.cell (p := ⟨b, off + k * 5 + 1, none⟩) hbw).trans c1
      have z2 := (HT.out.be.cell (p := ⟨b, off + k * 5 + 2, none⟩) hbw).trans c2
      have z3 := (HT.out.be.cell (p := ⟨b, off + k * 5 + 3, none⟩) hbw).trans c3
      have z4 := (HT.out.be.cell (p := ⟨b, off + k * 5 + 4, none⟩) hbw).trans c4
      have HMO := Lib.hid (rws_more rs hlt)
      have HLB : Hid ((rwsB (rs.take k)).length ≤ 25600) := Lib.hid (by
        have := rwsB_len (rs := rs.take k) fun r hr => HOK.out r (List.mem_of_mem_take hr)
        rw [List.length_take] at this
        omega)
      have hRK : RwOk (rs.getD k Rw.none_) := HOK.out _ (by simp only [List.getD, List.getElem?_eq_getElem hlt, Option.getD_some]; exact List.getElem_mem _)
      generalize rs.getD k Rw.none_ = X at *
      obtain ⟨xu, xs, xk, xa, xn⟩ := X
      simp only at z0 z1 z2 z3 z4
      have HLK : Hid ((putT xu.data.toList ++ putL (2 * xs + xk - 1).toNat).length ≤ 82) := Lib.hid hRK.len.1
      have HL1 : Hid ((putL xa.toNat).length ≤ 9) := Lib.hid hRK.len.2.1
      have HL2 : Hid ((putL xn.toNat).length ≤ 9) := Lib.hid hRK.len.2.2.1
      have HPK : Hid (∀ wz, Calls Try.prog 47 #[.agg #[.string xu, .int .i64 xs, .int .i64 xk]] wz (RetB wz.heap.size wz (putT xu.data.toList ++ putL (2 * xs + xk - 1).toNat))) := Lib.hid fun wz => kput_yes xu xs xk hRK.u hRK.s0 hRK.s1 hRK.k0 hRK.k1 wz
      have HP1 : Hid (∀ wz, Calls Try.prog 48 #[.int .i64 xa] wz (RetB wz.heap.size wz (putL xa.toNat))) := Lib.hid fun wz => put_pos xa hRK.a0 (by have := hRK.a1; simp only at this; omega) wz
      have HP2 : Hid (∀ wz, Calls Try.prog 48 #[.int .i64 xn] wz (RetB wz.heap.size wz (putL xn.toNat))) := Lib.hid fun wz => put_pos xn hRK.n0 (by have := hRK.n1; simp only at this; omega) wz
      have hkl : (k : Int) < (rs.length : Int) := by omega
      clear c0 c1 c2 c3 c4 hone hRK
      have HT0 := HT
      clear HT
      have hT := BX.start HT0.out [.string xu, .int .i64 xs, .int .i64 xk, .int .i64 xa, .int .i64 xn] 67
      have HT := Lib.hid hT
      clear hT
      go_wp2_with (first | (go_at_call 47; (with_reducible refine (HPK.out _).mono ?_); rintro e u3 ⟨p3, rfl, ho3, hb3⟩; have hT := HT.out.call hb3; have q0 := hT.cell 0; have q1 := hT.cell 1; have q2 := hT.cell 2; have q3 := hT.cell 3; have q4 := hT.cell 4; simp only [List.getElem?_toArray, List.getElem?_cons_zero, List.getElem?_cons_succ] at q0 q1 q2 q3 q4; have HT := Lib.hid hT; have HO := Lib.hid ho3.read; clear ho3 hb3 hT) | (go_at_call 48; (with_reducible refine (HP1.out _).mono ?_); rintro e u3 ⟨p3, rfl, ho3, hb3⟩; have hT := HT.out.call hb3; have q0 := hT.cell 0; have q1 := hT.cell 1; have q2 := hT.cell 2; have q3 := hT.cell 3; have q4 := hT.cell 4; simp only [List.getElem?_toArray, List.getElem?_cons_zero, List.getElem?_cons_succ] at q0 q1 q2 q3 q4; have HT := Lib.hid hT; have HO := Lib.hid ho3.read; clear ho3 hb3 hT) | (go_at_call 48; (with_reducible refine (HP2.out _).mono ?_); rintro e u3 ⟨p3, rfl, ho3, hb3⟩; have hT := HT.out.call hb3; have q0 := hT.cell 0; have q1 := hT.cell 1; have q2 := hT.cell 2; have q3 := hT.cell 3; have q4 := hT.cell 4; simp only [List.getElem?_toArray, List.getElem?_cons_zero, List.getElem?_cons_succ] at q0 q1 q2 q3 q4; have HT := Lib.hid hT; have HO := Lib.hid ho3.read; clear ho3 hb3 hT) | (at_builtin; refine wpList_plain rfl fun K' hK' => ?_; refine wp_append_at (.tmp 21) (.tmp 24) 22 rfl 5 1 1 (.int .u8 0) Try.underlying22 info_u8 rfl (by decide) _ _ _ _ _ _ rfl rfl HT.out.own0 HO.out (bv_oneCell _) (by have h1 := HLB.out; have h2 := HLK.out; have h3 := HL1.out; have h4 := HL2.out; (try simp only [List.length_append] at h2); (try simp only [List.length_append]); omega) (by unfold maxLen; have h1 := HLB.out; have h2 := HLK.out; have h3 := HL1.out; have h4 := HL2.out; (try simp only [List.length_append] at h2); (try simp only [List.length_append]); omega) (fun v' w' hown hmv => hK' _ _ ?_); have hT := HT.out.put hown hmv; have q0 := hT.cell 0; have q1 := hT.cell 1; have q2 := hT.cell 2; have q3 := hT.cell 3; have q4 := hT.cell 4; simp only [List.getElem?_toArray, List.getElem?_cons_zero, List.getElem?_cons_succ] at q0 q1 q2 q3 q4; have HT := Lib.hid hT; clear hown hmv hT) | (at_builtin; refine wpList_plain rfl fun K' hK' => ?_; refine wp_append_at (.tmp 26) (.tmp 29) 22 rfl 5 1 1 (.int .u8 0) Try.underlying22 info_u8 rfl (by decide) _ _ _ _ _ _ rfl rfl HT.out.own0 HO.out (bv_oneCell _) (by have h1 := HLB.out; have h2 := HLK.out; have h3 := HL1.out; have h4 := HL2.out; (try simp only [List.length_append] at h2); (try simp only [List.length_append]); omega) (by unfold maxLen; have h1 := HLB.out; have h2 := HLK.out; have h3 := HL1.out; have h4 := HL2.out; (try simp only [List.length_append] at h2); (try simp only [List.length_append]); omega) (fun v' w' hown hmv => hK' _ _ ?_); have hT := HT.out.put hown hmv; have q0 := hT.cell 0; have q1 := hT.cell 1; have q2 := hT.cell 2; have q3 := hT.cell 3; have q4 := hT.cell 4; simp only [List.getElem?_toArray, List.getElem?_cons_zero, List.getElem?_cons_succ] at q0 q1 q2 q3 q4; have HT := Lib.hid hT; clear hown hmv hT) | (at_builtin; refine wpList_plain rfl fun K' hK' => ?_; refine wp_append_at (.tmp 31) (.tmp 34) 22 rfl 5 1 1 (.int .u8 0) Try.underlying22 info_u8 rfl (by decide) _ _ _ _ _ _ rfl rfl HT.out.own0 HO.out (bv_oneCell _) (by have h1 := HLB.out; have h2 := HLK.out; have h3 := HL1.out; have h4 := HL2.out; (try simp only [List.length_append] at h2); (try simp only [List.length_append]); omega) (by unfold maxLen; have h1 := HLB.out; have h2 := HLK.out; have h3 := HL1.out; have h4 := HL2.out; (try simp only [List.length_append] at h2); (try simp only [List.length_append]); omega) (fun v' w' hown hmv => hK' _ _ ?_); have hT := HT.out.put hown hmv; have q0 := hT.cell 0; have q1 := hT.cell 1; have q2 := hT.cell 2; have q3 := hT.cell 3; have q4 := hT.cell 4; simp only [List.getElem?_toArray, List.getElem?_cons_zero, List.getElem?_cons_succ] at q0 q1 q2 q3 q4; have HT := Lib.hid hT; clear hown hmv hT))
      refine ⟨⟨k + 1, _, hlt, rfl, by go_num, Lib.hid ?_⟩, by simp [intOf]; omega⟩
      have := HT.out.toBT
      rw [HMO.out]
      unfold rwB
      simpa only [List.append_assoc] using this
    · have hkl : ¬ (k : Int) < (rs.length : Int) := by omega
      have HKE : Hid (rwsB (rs.take k) = rwsB rs) := Lib.hid (by rw [List.take_of_length_le (by omega)])
      have HLR : Hid ((rwsB rs).length ≤ 25600) := Lib.hid (by have := rwsB_len HOK.out; omega)
      rw [HKE.out] at HT
      obtain ⟨ba, bc, hba, _, _⟩ := HT.out.own.read.form
      subst hba
      have HFR : Hid (∀ wz x, RdB wz x (rwsB rs) → Calls Try.prog 24 #[x] wz (RetB wz.heap.size wz (frRaw (rwsB rs)))) := Lib.hid fun wz x hx => by
        have h := fput_any wz x _ hx (by have := HLR.out; omega)
        unfold frL at h
        rw [if_pos (by have := HLR.out; omega)] at h
        exact h
      have HFX : Hid (∀ n wz, Calls Try.prog 37 #[.int .i64 n, .int .i64 4] wz (RetB wz.heap.size wz (fixL n 4))) := Lib.hid fun n wz => fixed_yes n 4 (by omega) wz
      go_wp2_with (go_at_call 24; (refine (HFR.out _ _ HT.out.own.read).mono ?_); rintro e u3 ⟨p3, rfl, ho3, hb3⟩; have HO3 := Lib.hid ho3; have HB3 := Lib.hid (HT.out.be.trans (hb3.mono HT.out.bl)); have HS3 := Lib.hid (Nat.le_trans HT.out.bl hb3.size); have HBL := Lib.hid HT.out.bl; clear ho3 hb3)
      have hT0 : BT w w.heap.size u3 p3 (.slice none 0 0) (frRaw (rwsB rs)) [] := ⟨OwnB.mono_B HO3.out HBL.out, OwnB.nil _ _ _, (fun _ _ h => by cases h), HB3.out, HS3.out⟩
      have HT0 := Lib.hid (BX.start hT0 [.int .i64 fa, .int .i64 la, .int .i64 c] 3)
      have HQL : Hid (w.heap.size ≤ u3.heap.size) := HS3
      clear hT0 HO3 HB3 HS3 HT HKE
      go_loopw [12, 44] (fun b i wr => ∃ (j : Nat) (b' : Value), j ≤ 3 ∧ b' = b ∧ i = .int .i64 (j : Int) ∧ Hid (BX w w.heap.size u3.heap.size [.int .i64 fa, .int .i64 la, .int .i64 c] 3 wr b' (.slice none 0 0) (frRaw (rwsB rs) ++ ([fa, la, c].take j).flatMap fun n => fixL n 4) [])) (fun _ i _ => 3 - (intOf i).toNat)
      case atStart => exact ⟨0, _, by omega, rfl, rfl, by simpa using HT0⟩
      case round =>
        obtain ⟨j, xb, hj, rfl, rfl, HT⟩ := hrel
        have hT := HT.out
        have q0 := hT.cell 0; have q1 := hT.cell 1; have q2 := hT.cell 2; simp only [List.getElem?_toArray, List.getElem?_cons_zero, List.getElem?_cons_succ] at q0 q1 q2
        have HLE : Hid ((frRaw (rwsB rs) ++ ([fa, la, c].take j).flatMap fun n => fixL n 4).length ≤ 30000) := Lib.hid (by
          rw [List.length_append, frRaw_length]
          have := HLR.out
          have h2 : (([fa, la, c].take j).flatMap fun n => fixL n 4).length ≤ 12 := by
            obtain rfl | rfl | rfl | rfl : j = 0 ∨ j = 1 ∨ j = 2 ∨ j = 3 := by omega
            all_goals simp [fixL_length]
          omega)
        clear hT
        by_cases hlt : j < 3
        · obtain rfl | rfl | rfl : j = 0 ∨ j = 1 ∨ j = 2 := by omega
          · go_wp2_with (first | (go_at_call 37; (with_reducible refine (HFX.out _ _).mono ?_); rintro e u3 ⟨p3, rfl, ho3, hb3⟩; have hT := HT.out.call hb3; have q0 := hT.cell 0; have q1 := hT.cell 1; have q2 := hT.cell 2; simp only [List.getElem?_toArray, List.getElem?_cons_zero, List.getElem?_cons_succ] at q0 q1 q2; have HT := Lib.hid hT; have HO := Lib.hid ho3.read; clear ho3 hb3 hT) | (at_builtin; refine wpList_plain rfl fun K' hK' => ?_; refine wp_append_at (.tmp 48) (.tmp 50) 22 rfl 5 1 1 (.int .u8 0) Try.underlying22 info_u8 rfl (by decide) _ _ _ _ _ _ rfl rfl HT.out.own0 HO.out (bv_oneCell _) (by have h1 := HLE.out; (try simp only [List.length_append] at h1); (try simp only [List.length_append, fixL_length]); omega) (by unfold maxLen; have h1 := HLE.out; (try simp only [List.length_append] at h1); (try simp only [List.length_append, fixL_length]); omega) (fun v' w' hown hmv => hK' _ _ ?_); have hT := HT.out.put hown hmv; have q0 := hT.cell 0; have q1 := hT.cell 1; have q2 := hT.cell 2; simp only [List.getElem?_toArray, List.getElem?_cons_zero, List.getElem?_cons_succ] at q0 q1 q2; have HT := Lib.hid hT; clear hown hmv hT))
            refine ⟨⟨1, _, by omega, rfl, by go_num, Lib.hid ?_⟩, by simp [intOf]⟩
            simpa using HT.out
          · go_wp2_with (first | (go_at_call 37; (with_reducible refine (HFX.out _ _).mono ?_); rintro e u3 ⟨p3, rfl, ho3, hb3⟩; have hT := HT.out.call hb3; have q0 := hT.cell 0; have q1 := hT.cell 1; have q2 := hT.cell 2; simp only [List.getElem?_toArray, List.getElem?_cons_zero, List.getElem?_cons_succ] at q0 q1 q2; have HT := Lib.hid hT; have HO := Lib.hid ho3.read; clear ho3 hb3 hT) | (at_builtin; refine wpList_plain rfl fun K' hK' => ?_; refine wp_append_at (.tmp 48) (.tmp 50) 22 rfl 5 1 1 (.int .u8 0) Try.underlying22 info_u8 rfl (by decide) _ _ _ _ _ _ rfl rfl HT.out.own0 HO.out (bv_oneCell _) (by have h1 := HLE.out; (try simp only [List.length_append] at h1); (try simp only [List.length_append, fixL_length]); omega) (by unfold maxLen; have h1 := HLE.out; (try simp only [List.length_append] at h1); (try simp only [List.length_append, fixL_length]); omega) (fun v' w' hown hmv => hK' _ _ ?_); have hT := HT.out.put hown hmv; have q0 := hT.cell 0; have q1 := hT.cell 1; have q2 := hT.cell 2; simp only [List.getElem?_toArray, List.getElem?_cons_zero, List.getElem?_cons_succ] at q0 q1 q2; have HT := Lib.hid hT; clear hown hmv hT))
            refine ⟨⟨2, _, by omega, rfl, by go_num, Lib.hid ?_⟩, by simp [intOf]⟩
            simpa using HT.out
          · go_wp2_with (first | (go_at_call 37; (with_reducible refine (HFX.out _ _).mono ?_); rintro e u3 ⟨p3, rfl, ho3, hb3⟩; have hT := HT.out.call hb3; have q0 := hT.cell 0; have q1 := hT.cell 1; have q2 := hT.cell 2; simp only [List.getElem?_toArray, List.getElem?_cons_zero, List.getElem?_cons_succ] at q0 q1 q2; have HT := Lib.hid hT; have HO := Lib.hid ho3.read; clear ho3 hb3 hT) | (at_builtin; refine wpList_plain rfl fun K' hK' => ?_; refine wp_append_at (.tmp 48) (.tmp 50) 22 rfl 5 1 1 (.int .u8 0) Try.underlying22 info_u8 rfl (by decide) _ _ _ _ _ _ rfl rfl HT.out.own0 HO.out (bv_oneCell _) (by have h1 := HLE.out; (try simp only [List.length_append] at h1); (try simp only [List.length_append, fixL_length]); omega) (by unfold maxLen; have h1 := HLE.out; (try simp only [List.length_append] at h1); (try simp only [List.length_append, fixL_length]); omega) (fun v' w' hown hmv => hK' _ _ ?_); have hT := HT.out.put hown hmv; have q0 := hT.cell 0; have q1 := hT.cell 1; have q2 := hT.cell 2; simp only [List.getElem?_toArray, List.getElem?_cons_zero, List.getElem?_cons_succ] at q0 q1 q2; have HT := Lib.hid hT; clear hown hmv hT))
            refine ⟨⟨3, _, by omega, rfl, by go_num, Lib.hid ?_⟩, by simp [intOf]⟩
            simpa using HT.out
        · obtain rfl : j = 3 := by omega
          go_wp2_with (at_builtin; refine wpList_append_string rfl (.tmp 53) (.const (.string ⟨#[105, 99, 98, 49]⟩)) 22 9 rfl w.heap.size 5 Try.underlying22 Try.underlying9 info_u8 _ _ _ rfl rfl HT.out.own HT.out.bl ?lx ?kx)
          case lx =>
            have := HLE.out
            have hs : (⟨#[105, 99, 98, 49]⟩ : ByteArray).size = 4 := rfl
            rw [hs]
            omega
          case kx =>
            intro v' w' hown' hb'
            go_wp2
            go_ret
            refine ⟨_, rfl, ?_, hb' _ _ (Nat.le_refl _) HT.out.be⟩
            unfold endB
            simpa [List.append_assoc] using hown'
end Go.Proofs.Yteeikmpfgbfeoaa

/-
  Entries that are taken up one after another: plain facts.
-/
namespace Go.Proofs.Yteeikmpfgbfeoaa
open Go.RowKit

/-- The entries that are taken up, one after another. -/
def build (xs : List Ent) : List Ent := xs.foldl (fun acc e => addL e acc) []
theorem build_snoc (xs : List Ent) (e : Ent) : build (xs ++ [e]) = addL e (build xs) := by unfold build; rw [List.foldl_append]; rfl
theorem build_take {xs : List Ent} {k : Nat} (hk : k < xs.length) : build (xs.take (k + 1)) = addL (xs.getD k Ent.none_) (build (xs.take k)) := by
  rw [List.take_succ_eq_append_getElem hk, build_snoc]
  simp [List.getD, hk]
theorem build_len (xs : List Ent) : (build xs).length ≤ xs.length := by
  have key : ∀ (ys acc : List Ent), (ys.foldl (fun acc e => addL e acc) acc).length ≤ acc.length + ys.length := by
    intro ys
    induction ys with
    | nil => intro acc; simp
    | cons y r ih =>
      intro acc
      have h1 := ih (addL y acc)
      have h2 := addL_len y acc
      rw [List.foldl_cons, List.length_cons]
      omega
  have := key xs []
  unfold build
  simpa using this

theorem build_up (xs : List Ent) : Up (build xs) := by
  have key : ∀ (ys acc : List Ent), Up acc → Up (ys.foldl (fun acc e => addL e acc) acc) := by
    intro ys
    induction ys with
    | nil => intro acc h; exact h
    | cons y r ih => intro acc h; exact ih _ (addL_up h)
  exact key xs [] List.Pairwise.nil

theorem rising_up {L : List Ent} (hu : Up L) (hm : ∀ x ∈ L, x.may = true) : risingB L = true := by
  refine (rising_yes fun j hj => ?_).symm
  have e1 : L.getD j Ent.none_ = L[j] := by simp [List.getD, hj]
  cases j with
  | zero => exact goodAt_zero e1 (hm _ (List.getElem_mem _))
  | succ j =>
    have e2 : L.getD j Ent.none_ = L[j] := by simp [List.getD, Nat.lt_of_succ_lt hj]
    rw [goodAt_next e1 e2 (hm _ (List.getElem_mem _)), decide_eq_true_eq]
    exact (List.pairwise_iff_getElem.1 hu) j (j + 1) (by omega) hj (by omega)
end Go.Proofs.Yteeikmpfgbfeoaa

/-
  Tables: plain facts: the bytes of blocks and what they tell.
-/
namespace Go.Proofs.Yteeikmpfgbfeoaa
open Go.RowKit

theorem up_of_rising {es : List Ent} (h : risingB es = true) : Up es := by
  have key : ∀ d j, j + d + 1 < es.length → (es.getD j Ent.none_).cmp (es.getD (j + d + 1) Ent.none_) < 0 := by
    intro d
    induction d with
    | zero =>
      intro j hj
      unfold risingB at h
      rw [List.all_eq_true] at h
      have := h (j + 1) (List.mem_range.2 hj)
      unfold goodAt at this
      rw [Bool.and_eq_true] at this
      have h2 := this.2
      simpa using h2
    | succ d ih =>
      intro j hj
      have h1 := ih j (by omega)
      have h2 : (es.getD (j + d + 1) Ent.none_).cmp (es.getD (j + d + 1 + 1) Ent.none_) < 0 := by
        unfold risingB at h
        rw [List.all_eq_true] at h
        have := h (j + d + 1 + 1) (List.mem_range.2 (by omega))
        unfold goodAt at this
        rw [Bool.and_eq_true] at this
        have h2 := this.2
        simpa using h2
      exact cmp_trans h1 h2
  unfold Up
  rw [List.pairwise_iff_getElem]
  intro i j hi hj hij
  have := key (j - i - 1) i (by omega)
  rw [show i + (j - i - 1) + 1 = j by omega] at this
  rw [show es.getD i Ent.none_ = es[i] by simp [List.getD, hi], show es.getD j Ent.none_ = es[j] by simp [List.getD, hj]] at this
  exact this

/-- The k-th block's entries. -/
def partE (es : List Ent) (per k : Nat) : List Ent := (es.drop (k * per)).take per
/-- How many blocks there are. -/
def nBlk (es : List Ent) (per : Nat) : Nat := (es.length + per - 1) / per
theorem nBlk_lt {es : List Ent} {per : Nat} (hp : 1 ≤ per) (k : Nat) : k < nBlk es per ↔ k * per < es.length := by
  unfold nBlk
  rw [Nat.lt_iff_add_one_le, Nat.le_div_iff_mul_le (by omega), Nat.succ_mul]
  omega
theorem part_take (es : List Ent) (per k : Nat) : es.take ((k + 1) * per) = es.take (k * per) ++ partE es per k := by
  unfold partE
  rw [Nat.succ_mul, List.take_add]
theorem part_sub (es : List Ent) (per k : Nat) : (partE es per k).Sublist es := (List.take_sublist _ _).trans (List.drop_sublist _ _)
theorem part_len {es : List Ent} {per k : Nat} : (partE es per k).length = min per (es.length - k * per) := by
  unfold partE
  rw [List.length_take, List.length_drop]
theorem part_err {es : List Ent} {per k : Nat} (h : risingB es = true) (h1 : 1 ≤ per) (h2 : per ≤ 64) (hk : k * per < es.length) : putErr (partE es per k) = 0 := by
  have hl := part_len (es := es) (per := per) (k := k)
  have hm := rising_all h
  have hr : risingB (partE es per k) = true := rising_up ((up_of_rising h).sublist (part_sub es per k)) fun x hx => hm x ((part_sub es per k).subset hx)
  unfold putErr
  rw [if_neg, if_neg (by omega)]
  rw [hr]
  rintro (h | h)
  · cases h
  · rw [h] at hl
    simp at hl
    omega

/-- A block among records. -/
def blkF (es : List Ent) (per k : Nat) : List UInt8 := frRaw (blockL (partE es per k))
/-- The first k blocks. -/
def tabB (es : List Ent) (per : Nat) : Nat → List UInt8
  | 0 => []
  | k + 1 => tabB es per k ++ blkF es per k
theorem tabB_more (es : List Ent) (per k : Nat) : ∀ j, ∃ r, tabB es per (k + j) = tabB es per k ++ r
  | 0 => ⟨[], by simp⟩
  | j + 1 => by
    obtain ⟨r, h⟩ := tabB_more es per k j
    refine ⟨r ++ blkF es per (k + j), ?_⟩
    rw [← Nat.add_assoc]
    show tabB es per (k + j) ++ _ = _
    rw [h, List.append_assoc]
theorem tabB_split (es : List Ent) (per : Nat) {k n : Nat} (h : k ≤ n) : ∃ r, tabB es per n = tabB es per k ++ r := by
  obtain ⟨j, rfl⟩ : ∃ j, n = k + j := ⟨n - k, by omega⟩
  exact tabB_more es per k j
theorem tabB_lt (es : List Ent) (per : Nat) {k n : Nat} (h : k < n) : (tabB es per k).length < (tabB es per n).length := by
  obtain ⟨r, hr⟩ := tabB_split es per (k := k + 1) (n := n) h
  rw [hr]
  show (tabB es per k).length < ((tabB es per k ++ blkF es per k) ++ r).length
  unfold blkF
  simp only [List.length_append, frRaw_length]
  omega

/-- A key as bytes. -/
def keyB (e : Ent) : List UInt8 := putT (uL e) ++ putL (numE e)
/-- What is told of the first k blocks. -/
def idxB (es : List Ent) (per : Nat) : Nat → List UInt8
  | 0 => []
  | k + 1 => idxB es per k ++ keyB ((partE es per k).getD ((partE es per k).length - 1) Ent.none_) ++ putL (tabB es per k).length ++ putL (blkF es per k).length
/-- The bytes of a table with any filter. -/
def tableL (es : List Ent) (per : Nat) (f : List UInt8) : List UInt8 :=
  tabB es per (nBlk es per) ++ frRaw f ++ frRaw (idxB es per (nBlk es per)) ++ fixL (((tabB es per (nBlk es per)).length : Nat) : Int) 4 ++ fixL ((((tabB es per (nBlk es per)).length + (f.length + 8)) : Nat) : Int) 4 ++ fixL ((es.length : Nat) : Int) 4 ++ [105, 99, 98, 49]
def MayT (es : List Ent) : Prop := risingB es = true ∧ es ≠ [] ∧ es.length ≤ 256
/-- The bytes are that table. -/
def IsTab (b : List UInt8) (es : List Ent) (f : List UInt8) : Prop := ∃ per, 1 ≤ per ∧ per ≤ 64 ∧ MayT es ∧ f.length ≤ 1048576 ∧ tableL es per f = b

theorem part_same {es : List Ent} {per : Nat} (h : es.length ≤ per) : partE es per 0 = es := by
  unfold partE
  rw [Nat.zero_mul, List.drop_zero, List.take_of_length_le h]
theorem nBlk_one {es : List Ent} {per : Nat} (h : es.length ≤ per) (hne : es ≠ []) : nBlk es per = 1 := by
  have hpos := List.length_pos_iff.2 hne
  unfold nBlk
  rw [Nat.div_eq_of_lt_le] <;> omega
/-- A block of more than there are is a block of all. -/
theorem table_min {es : List Ent} {per : Nat} (f : List UInt8) (hne : es ≠ []) : tableL es (min per es.length) f = tableL es per f := by
  rcases Nat.le_total per es.length with h | h
  · rw [Nat.min_eq_left h]
  · rw [Nat.min_eq_right h]
    have e1 : nBlk es es.length = 1 := nBlk_one (Nat.le_refl _) hne
    have e2 : nBlk es per = 1 := nBlk_one h hne
    have p1 : partE es es.length 0 = partE es per 0 := by rw [part_same (Nat.le_refl _), part_same h]
    unfold tableL
    rw [e1, e2]
    have t : tabB es es.length 1 = tabB es per 1 := by
      show tabB es es.length 0 ++ blkF es es.length 0 = tabB es per 0 ++ blkF es per 0
      unfold blkF
      rw [p1]
      rfl
    have x : idxB es es.length 1 = idxB es per 1 := by
      show idxB es es.length 0 ++ keyB _ ++ putL _ ++ putL (blkF es es.length 0).length = idxB es per 0 ++ keyB _ ++ putL _ ++ putL (blkF es per 0).length
      unfold blkF
      rw [p1]
      rfl
    rw [t, x]
end Go.Proofs.Yteeikmpfgbfeoaa

/-
  Tables: plain facts: which entries, and which filter, any bytes are a table of.
-/
namespace Go.Proofs.Yteeikmpfgbfeoaa
open Go.RowKit

def IsTabP (b : List UInt8) (es : List Ent) (per : Nat) (f : List UInt8) : Prop := 1 ≤ per ∧ per ≤ 64 ∧ MayT es ∧ f.length ≤ 1048576 ∧ tableL es per f = b
/-- Where a table's filter begins, as its last bytes tell. -/
def atT (b : List UInt8) : Nat := valL ((b.drop (b.length - 16)).take 4)

theorem table_split (es : List Ent) (per : Nat) (f : List UInt8) : ∃ t, t.length = 16 ∧ t.take 4 = fixL (((tabB es per (nBlk es per)).length : Nat) : Int) 4 ∧ tableL es per f = tabB es per (nBlk es per) ++ (frRaw f ++ (frRaw (idxB es per (nBlk es per)) ++ t)) := by
  refine ⟨fixL (((tabB es per (nBlk es per)).length : Nat) : Int) 4 ++ fixL ((((tabB es per (nBlk es per)).length + (f.length + 8)) : Nat) : Int) 4 ++ fixL ((es.length : Nat) : Int) 4 ++ [105, 99, 98, 49], ?_, ?_, ?_⟩
  · simp [fixL_length]
  · rw [List.append_assoc, List.append_assoc, List.take_left' (fixL_length _ _)]
  · unfold tableL
    simp only [List.append_assoc]

theorem IsTabP.len {b : List UInt8} {es : List Ent} {per : Nat} {f : List UInt8} (h : IsTabP b es per f) : (tabB es per (nBlk es per)).length + 32 + f.length ≤ b.length := by
  obtain ⟨t, h1, _, h3⟩ := table_split es per f
  rw [← h.2.2.2.2, h3]
  simp only [List.length_append, frRaw_length, h1]
  omega
theorem IsTabP.at_ {b : List UInt8} {es : List Ent} {per : Nat} {f : List UInt8} (h : IsTabP b es per f) (hb : b.length ≤ 100000000) : atT b = (tabB es per (nBlk es per)).length := by
  have hl := h.len
  obtain ⟨t, h1, h2, h3⟩ := table_split es per f
  have hd : b.drop (b.length - 16) = t := by
    rw [← h.2.2.2.2, h3, ← List.append_assoc, ← List.append_assoc]
    rw [List.drop_left' (by simp only [List.length_append, h1]; omega)]
  unfold atT
  rw [hd, h2, valL_fixL _ _ (by omega)]

/-- A block is told. -/
theorem IsTabP.step {b : List UInt8} {es : List Ent} {per : Nat} {f : List UInt8} (h : IsTabP b es per f) (hb : b.length ≤ 1000000) {k : Nat} (hk : k < nBlk es per) :
    frOk b (tabB es per k).length = true ∧ frP b (tabB es per k).length = blockL (partE es per k) ∧ (tabB es per k).length + 8 + frN b (tabB es per k).length = (tabB es per (k + 1)).length := by
  obtain ⟨r, hr⟩ := tabB_split es per (k := k + 1) (n := nBlk es per) hk
  obtain ⟨t, _, _, h3⟩ := table_split es per f
  have hbk : b = tabB es per k ++ (frRaw (blockL (partE es per k)) ++ (r ++ (frRaw f ++ (frRaw (idxB es per (nBlk es per)) ++ t)))) := by
    rw [← h.2.2.2.2, h3, hr]
    show (tabB es per k ++ blkF es per k ++ r) ++ _ = _
    unfold blkF
    simp only [List.append_assoc]
  have hp : (blockL (partE es per k)).length ≤ 1048576 := by
    have := congrArg List.length hbk
    simp only [List.length_append, frRaw_length] at this
    omega
  have h1 := frame_parts (tabB es per k) (blockL (partE es per k)) (r ++ (frRaw f ++ (frRaw (idxB es per (nBlk es per)) ++ t))) hp
  have h2 := frame_there (tabB es per k) (blockL (partE es per k)) (r ++ (frRaw f ++ (frRaw (idxB es per (nBlk es per)) ++ t))) hp
  rw [← hbk] at h1 h2
  refine ⟨h2, h1.2.2, ?_⟩
  rw [h1.1]
  show _ = (tabB es per k ++ blkF es per k).length
  unfold blkF
  rw [List.length_append, frRaw_length]
  omega
/-- The filter is told. -/
theorem IsTabP.filter {b : List UInt8} {es : List Ent} {per : Nat} {f : List UInt8} (h : IsTabP b es per f) : frOk b (tabB es per (nBlk es per)).length = true ∧ frP b (tabB es per (nBlk es per)).length = f := by
  obtain ⟨t, _, _, h3⟩ := table_split es per f
  have h1 := frame_parts (tabB es per (nBlk es per)) f (frRaw (idxB es per (nBlk es per)) ++ t) h.2.2.2.1
  have h2 := frame_there (tabB es per (nBlk es per)) f (frRaw (idxB es per (nBlk es per)) ++ t) h.2.2.2.1
  rw [← h3, h.2.2.2.2] at h1 h2
  exact ⟨h2, h1.2.2⟩

/-- So far they are those of any table that the bytes can be. -/
def ParT (b : List UInt8) (acc : List Ent) (i per0 : Nat) : Prop := ∀ es per f, IsTabP b es per f → ∃ k, k ≤ nBlk es per ∧ acc = es.take (k * per) ∧ i = (tabB es per k).length ∧ per0 = if k = 0 then 0 else min per es.length

theorem ParT.start (b : List UInt8) : ParT b [] 0 0 := fun es per f _ => ⟨0, Nat.zero_le _, by rw [Nat.zero_mul]; rfl, rfl, rfl⟩
theorem ParT.at_end {b : List UInt8} (hb : b.length ≤ 1000000) {es : List Ent} {per : Nat} {f : List UInt8} (h : IsTabP b es per f) {k : Nat} (hk : k ≤ nBlk es per) : (tabB es per k).length < atT b ↔ k < nBlk es per := by
  rw [h.at_ (by omega)]
  constructor
  · intro h1
    rcases Nat.lt_or_ge k (nBlk es per) with h2 | h2
    · exact h2
    · have : k = nBlk es per := by omega
      subst this
      omega
  · exact fun h1 => tabB_lt es per h1
theorem ParT.one {b : List UInt8} {acc : List Ent} {i per0 : Nat} (h : ParT b acc i per0) (hb : b.length ≤ 1000000) (hi : i < atT b) {es : List Ent} {per : Nat} {f : List UInt8} (ht : IsTabP b es per f) :
    ∃ k, k < nBlk es per ∧ acc = es.take (k * per) ∧ i = (tabB es per k).length ∧ (per0 = if k = 0 then 0 else min per es.length) ∧ frOk b i = true ∧ getB (frP b i) = some (partE es per k) ∧ i + 8 + frN b i = (tabB es per (k + 1)).length := by
  obtain ⟨k, h1, h2, rfl, h4⟩ := h es per f ht
  have hk := (ParT.at_end hb ht h1).1 hi
  obtain ⟨s1, s2, s3⟩ := ht.step hb hk
  refine ⟨k, hk, h2, rfl, h4, s1, ?_, s3⟩
  rw [s2]
  exact getB_put (part_err ht.2.2.1.1 ht.1 ht.2.1 ((nBlk_lt ht.1 k).1 hk))
theorem ParT.no {b : List UInt8} {acc : List Ent} {i per0 : Nat} (h : ParT b acc i per0) (hb : b.length ≤ 1000000) (hi : i < atT b) (hn : frOk b i = false ∨ getB (frP b i) = none ∨ ∃ x, getB (frP b i) = some x ∧ 256 < acc.length + x.length) (es : List Ent) (f : List UInt8) : ¬ IsTab b es f := by
  rintro ⟨per, ht⟩
  obtain ⟨k, hk, h2, _, _, s1, s2, _⟩ := h.one hb hi ht
  rcases hn with hn | hn | ⟨x, hn, hx⟩
  · rw [hn] at s1; cases s1
  · rw [hn] at s2; cases s2
  · rw [hn] at s2
    simp only [Option.some.injEq] at s2
    have h3 := congrArg List.length (part_take es per k)
    rw [List.length_append, ← h2, ← s2, List.length_take] at h3
    have := ht.2.2.1.2.2
    omega
theorem ParT.more {b : List UInt8} {acc x : List Ent} {i per0 : Nat} (h : ParT b acc i per0) (hb : b.length ≤ 1000000) (hi : i < atT b) (hx : getB (frP b i) = some x) : ParT b (acc ++ x) (i + 8 + frN b i) (if per0 = 0 then x.length else per0) := by
  intro es per f ht
  obtain ⟨k, hk, h2, h3, h4, s1, s2, s3⟩ := h.one hb hi ht
  rw [hx] at s2
  simp only [Option.some.injEq] at s2
  have hpos := List.length_pos_iff.2 ht.2.2.1.2.1
  refine ⟨k + 1, hk, by rw [part_take, ← h2, s2], s3, ?_⟩
  rw [show (if k + 1 = 0 then 0 else min per es.length) = min per es.length from if_neg (by omega)]
  have hper := ht.1
  by_cases h0 : k = 0
  · have hp0 : per0 = 0 := by rw [h4, if_pos h0]
    rw [if_pos hp0, s2, part_len, h0, Nat.zero_mul, Nat.sub_zero]
  · have hp0 : per0 = min per es.length := by rw [h4, if_neg h0]
    rw [if_neg (by omega), hp0]
theorem ParT.end_ {b : List UInt8} {acc : List Ent} {i per0 : Nat} (h : ParT b acc i per0) (hb : b.length ≤ 1000000) (hi : ¬ i < atT b) {es : List Ent} {per : Nat} {f : List UInt8} (ht : IsTabP b es per f) :
    acc = es ∧ per0 = min per es.length ∧ frOk b (atT b) = true ∧ frP b (atT b) = f := by
  obtain ⟨k, h1, h2, rfl, h4⟩ := h es per f ht
  have hk : ¬ k < nBlk es per := fun hlt => hi ((ParT.at_end hb ht h1).2 hlt)
  have hkn : ¬ k * per < es.length := fun hlt => hk ((nBlk_lt ht.1 k).2 hlt)
  have hpos := List.length_pos_iff.2 ht.2.2.1.2.1
  have hf := ht.filter
  rw [← ht.at_ (by omega)] at hf
  refine ⟨by rw [h2, List.take_of_length_le (by omega)], ?_, hf.1, hf.2⟩
  rw [h4, if_neg]
  intro h0
  rw [h0, Nat.zero_mul] at hkn
  omega

/-- The table's entries and filter are told by its bytes. -/
theorem tab_one {b : List UInt8} (hb : b.length ≤ 1000000) {x y : List Ent} {f g : List UInt8} (hx : IsTab b x f) (hy : IsTab b y g) : x = y ∧ f = g := by
  obtain ⟨p, hx'⟩ := hx
  obtain ⟨q, hy'⟩ := hy
  have hx : IsTabP b x p f := hx'
  have hy : IsTabP b y q g := hy'
  have key : ∀ n k, nBlk x p - k = n → k ≤ nBlk x p → ∀ acc i per0, ParT b acc i per0 → acc = x.take (k * p) → i = (tabB x p k).length → ∃ acc' i' per', ParT b acc' i' per' ∧ ¬ i' < atT b := by
    intro n
    induction n with
    | zero =>
      intro k h1 h2 acc i per0 hp _ hi
      exact ⟨acc, i, per0, hp, fun h => by rw [hi] at h; have := (ParT.at_end hb hx h2).1 h; omega⟩
    | succ n ih =>
      intro k h1 h2 acc i per0 hp ha hi
      have hk : k < nBlk x p := by omega
      have hlt : i < atT b := by rw [hi]; exact (ParT.at_end hb hx h2).2 hk
      obtain ⟨s1, s2, s3⟩ := hx.step hb hk
      have hg : getB (frP b i) = some (partE x p k) := by rw [hi, s2]; exact getB_put (part_err hx.2.2.1.1 hx.1 hx.2.1 ((nBlk_lt hx.1 k).1 hk))
      exact ih (k + 1) (by omega) hk _ _ _ (hp.more hb hlt hg) (by rw [part_take, ha]) (by rw [← s3, hi])
  obtain ⟨acc, i, per0, hp, hn⟩ := key _ 0 rfl (Nat.zero_le _) [] 0 0 (ParT.start b) (by rw [Nat.zero_mul]; rfl) rfl
  obtain ⟨a1, _, _, a3⟩ := hp.end_ hb hn hx
  obtain ⟨b1, _, _, b3⟩ := hp.end_ hb hn hy
  exact ⟨a1.symm.trans b1, a3.symm.trans b3⟩

open Classical in
/-- The entries and the filter whose table the bytes are. -/
noncomputable def getT (b : List UInt8) : Option (List Ent × List UInt8) := if h : ∃ x : List Ent × List UInt8, IsTab b x.1 x.2 then some h.choose else none
theorem getT_some {b : List UInt8} (hb : b.length ≤ 1000000) {es : List Ent} {f : List UInt8} (h : IsTab b es f) : getT b = some (es, f) := by
  have hex : ∃ x : List Ent × List UInt8, IsTab b x.1 x.2 := ⟨(es, f), h⟩
  unfold getT
  rw [dif_pos hex]
  obtain ⟨h1, h2⟩ := tab_one hb hex.choose_spec h
  rw [show hex.choose = (es, f) from Prod.ext h1 h2]
theorem getT_none {b : List UInt8} (h : ∀ es f, ¬ IsTab b es f) : getT b = none := by
  unfold getT
  rw [dif_neg]
  rintro ⟨⟨es, f⟩, he⟩
  exact h es f he
theorem getT_is {b : List UInt8} {es : List Ent} {f : List UInt8} (h : getT b = some (es, f)) : IsTab b es f := by
  unfold getT at h
  split at h
  · rename_i hx
    simp only [Option.some.injEq] at h
    have := hx.choose_spec
    rw [h] at this
    exact this
  · cases h
end Go.Proofs.Yteeikmpfgbfeoaa

/-
  Two rows of bytes that are put together, and a third one that is read.
-/
namespace Go.Proofs.Yteeikmpfgbfeoaa
open Go.RowKit

structure BF (W : World) (B : Nat) (w : World) (xb xt xf : Value) (r t f : List UInt8) : Prop extends BT W B w xb xt r t where
  third : OwnB w B 5 xf f
  nb : ∀ j, xf.ownBlock = some j → xb.ownBlock ≠ some j
  nt : ∀ j, xf.ownBlock = some j → xt.ownBlock ≠ some j
section
variable {W w w' : World} {B : Nat} {xb xt xf v' : Value} {r t f n : List UInt8}
/-- What a call has just told lies apart from both. -/
theorem BF.start (h : BT W B w xb xt r t) (hb : Below w.heap.size w w') (hf : OwnB w' w.heap.size 5 xf f) : BF W B w' xb xt xf r t f where
  toBT := h.call hb
  third := own_base hf fun k hk => Nat.le_trans h.bl (World.ownsRow.lt hf k hk).1
  nb j hj he := by
    have h1 := (World.ownsRow.lt hf j hj).1
    have h2 := own_lt h.own j he
    omega
  nt j hj he := by
    have h1 := (World.ownsRow.lt hf j hj).1
    have h2 := own_lt h.tail j he
    omega
theorem BF.call (h : BF W B w xb xt xf r t f) (hb : Below w.heap.size w w') : BF W B w' xb xt xf r t f where
  toBT := h.toBT.call hb
  third := h.third.below hb (Nat.le_refl _)
  nb := h.nb
  nt := h.nt
theorem BF.put (h : BF W B w xb xt xf r t f) (ho : w'.ownsRow 0 5 1 v' (r.length + n.length) (r.map bv ++ n.map bv)) (hm : Moves w w' xb v') : BF W B w' v' xt xf (r ++ n) t f where
  toBT := h.toBT.put ho hm
  third := own_beside h.third h.nb hm
  nb j hj he := by
    rcases hm.at_ j he with e | e
    · exact h.nb j hj e
    · have := own_lt h.third j hj
      omega
  nt := h.nt
theorem BF.more (h : BF W B w xb xt xf r t f) (ho : w'.ownsRow 0 5 1 v' (t.length + n.length) (t.map bv ++ n.map bv)) (hm : Moves w w' xt v') : BF W B w' xb v' xf r (t ++ n) f where
  toBT := h.toBT.more ho hm
  third := own_beside h.third h.nt hm
  nb := h.nb
  nt j hj he := by
    rcases hm.at_ j he with e | e
    · exact h.nt j hj e
    · have := own_lt h.third j hj
      omega
end
end Go.Proofs.Yteeikmpfgbfeoaa

/-
  What the document's Frame and Unframe do.
-/
namespace Go.Proofs.Yteeikmpfgbfeoaa
open Go.RowKit

end Go.Proofs.Yteeikmpfgbfeoaa

/-
  Tables: a table of entries with any filter, as the document tells it.
-/
namespace Go.Proofs.Yteeikmpfgbfeoaa
open Go.RowKit

theorem part_at {es : List Ent} {per k i : Nat} (hi : i < (partE es per k).length) : (partE es per k).getD i Ent.none_ = es.getD (k * per + i) Ent.none_ := by
  rw [part_len] at hi
  unfold partE
  simp only [List.getD, List.getElem?_take, List.getElem?_drop]
  rw [if_pos (by omega)]
theorem blkF_len {es : List Ent} {per k : Nat} (h : putErr (partE es per k) = 0) : (blockL (partE es per k)).length ≤ 100000 ∧ (blkF es per k).length ≤ 100008 := by
  obtain ⟨h1, _, h3⟩ := putErr_ok h
  have := bodyN_len (fun k hk => rising_may h1 hk) (partE es per k).length (Nat.le_refl _)
  have hl := blockL_len (partE es per k)
  unfold blkF
  rw [frRaw_length]
  omega
theorem tabB_len {es : List Ent} {per : Nat} (h : ∀ k, k < nBlk es per → putErr (partE es per k) = 0) : ∀ k, k ≤ nBlk es per → (tabB es per k).length ≤ 100008 * k
  | 0, _ => by simp [tabB]
  | k + 1, hk => by
    unfold tabB
    rw [List.length_append]
    have := tabB_len h k (by omega)
    have := (blkF_len (h k (by omega))).2
    omega
theorem keyB_len {e : Ent} (h : e.may = true) : (keyB e).length ≤ 100 := by
  obtain ⟨m1, m2, m3, m4, _⟩ := may_facts h
  unfold keyB
  rw [List.length_append]
  have h2 := putT_le (uL e) (by omega)
  have h3 := putL_length (numE e) (by unfold numE; omega)
  omega
theorem idxB_len {es : List Ent} {per : Nat} (h : ∀ k, k < nBlk es per → putErr (partE es per k) = 0) (hk2 : nBlk es per ≤ 256) : ∀ k, k ≤ nBlk es per → (idxB es per k).length ≤ 200 * k
  | 0, _ => by simp [idxB]
  | k + 1, hk => by
    unfold idxB
    simp only [List.length_append]
    have h1 := idxB_len h hk2 k (by omega)
    have h0 := h k (by omega)
    have h2 := (blkF_len h0).2
    have h3 := tabB_len h k (by omega)
    have h4 := putL_length (tabB es per k).length (by omega)
    have h5 := putL_length (blkF es per k).length (by omega)
    obtain ⟨r1, r2, _⟩ := putErr_ok h0
    have hp := List.length_pos_iff.2 r2
    have h6 := keyB_len (rising_may r1 (k := (partE es per k).length - 1) (by omega))
    omega

end Go.Proofs.Yteeikmpfgbfeoaa

/-
  Tables: the Users of entries, each once, as the document tells them.
-/
namespace Go.Proofs.Yteeikmpfgbfeoaa
open Go.RowKit

/-- The Users of the first k entries, each once. -/
def usersN (es : List Ent) : Nat → List ByteArray
  | 0 => []
  | k + 1 => usersN es k ++ (if k = 0 ∨ (es.getD k Ent.none_).u ≠ (es.getD (k - 1) Ent.none_).u then [(es.getD k Ent.none_).u] else [])
def usersL (es : List Ent) : List ByteArray := usersN es es.length
theorem usersN_len (es : List Ent) : ∀ k, (usersN es k).length ≤ k
  | 0 => Nat.le_refl _
  | k + 1 => by
    unfold usersN
    rw [List.length_append]
    have := usersN_len es k
    split
    · simp; omega
    · simp; omega
theorem usersN_in (es : List Ent) : ∀ k, k ≤ es.length → ∀ s ∈ usersN es k, ∃ e ∈ es, e.u = s
  | 0, _, s, h => by cases h
  | k + 1, hk, s, h => by
    unfold usersN at h
    rcases List.mem_append.1 h with h | h
    · exact usersN_in es k (by omega) s h
    · split at h
      · rw [List.mem_singleton] at h
        refine ⟨es.getD k Ent.none_, ?_, h.symm⟩
        simp only [List.getD, List.getElem?_eq_getElem (show k < es.length by omega), Option.getD_some]
        exact List.getElem_mem _
      · cases h

theorem info_strT : (Try.prog.info? 9).map (fun i => (i.zero, i.size, i.bytes)) = some (some (.string ⟨#[]⟩), 1, 16) := by kernel_rfl
theorem str_oneT (l : List ByteArray) : ∀ u ∈ l.map Value.string, u.oneCell' = true := by
  intro u hu
  obtain ⟨s, _, rfl⟩ := List.mem_map.1 hu
  rfl
/-- Texts in memory of the call's own. -/
def OwnS (w : World) (B : Nat) (v : Value) (l : List ByteArray) : Prop := w.ownsRow B 9 1 v l.length (l.map Value.string)
theorem one_strT (w : World) (s : ByteArray) : Rd (w.alloc (.cells #[.string s] 9)) 1 (.slice (some ⟨w.heap.size, 0, none⟩) 1 1) 1 ([s].map Value.string) := by
  refine ⟨_, 1, rfl, Nat.le_refl _, by unfold maxLen; omega, rfl, .inr ⟨w.heap.size, 0, rfl, by simp, fun j u hj => ?_⟩⟩
  rw [Nat.zero_add, cell_of_row _ w.heap.size j _ 9 (0, 0) (heap_alloc_new w _)]
  simpa using hj

end Go.Proofs.Yteeikmpfgbfeoaa
