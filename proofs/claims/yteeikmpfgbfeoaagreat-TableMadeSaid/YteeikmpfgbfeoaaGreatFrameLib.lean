/-
  What package frame needs of the library: bytes.Clone, slices.Grow of nothing, slices.Concat.
-/
import Derived.Test.YteeikmpfgbfeoaaGreatLists
import Derived.Lib.AppendZeros
namespace Go.Proofs.YteeikmpfgbfeoaaGreat
open Go.RowKit

theorem eqn_bytes (w : World) : (binOp .eql 24 (.slice none 0 0) (.slice none 0 0)).run Tryz.prog w = .ok (.bool true) w := by kernel_rfl
theorem eqs_bytes (ad : Addr) (n cap : Nat) (w : World) : (binOp .eql 24 (.slice (some ad) n cap) (.slice none 0 0)).run Tryz.prog w = .ok (.bool false) w := by kernel_rfl

set_option maxRecDepth 100000 in
set_option maxHeartbeats 1000000 in
theorem bclone_any (w : World) (v : Value) (l : List UInt8) (h : RdB w v l) (hn : l.length < 1000000000000) :
    Calls Tryz.prog 91 #[v] w (RetB w.heap.size w l) := by
  have h0 := h
  obtain ⟨a, cap, rfl, h1, h2, h3, h4⟩ := h
  by_cases hnil : a = none
  · subst hnil
    have hl : l = [] := by
      rcases h4 with ⟨h4, _⟩ | ⟨b, off, hb, _⟩
      · exact List.eq_nil_of_length_eq_zero h4
      · cases hb
    have hc : cap = 0 := by
      rcases h4 with ⟨_, h4⟩ | ⟨b, off, hb, _⟩
      · exact h4 rfl
      · cases hb
    subst hl hc
    have hq := eqn_bytes
    go_enter Tryz.func91, Tryz.ntmps91
    go_wp2
    go_ret
    exact ⟨_, rfl, OwnB.nil _ _ _, Below.refl _ _⟩
  · obtain ⟨ad, rfl⟩ := Option.ne_none_iff_exists'.1 hnil
    have hal : Below w.heap.size w (w.alloc (.cells #[] 5)) := (Below.refl _ _).alloc (Nat.le_refl _) _
    have hrd : RdB (w.alloc (.cells #[] 5)) (.slice (some ad) l.length cap) l := RdB.below h0 hal (Nat.le_refl _)
    have hq := eqs_bytes ad l.length cap
    have Hrd := Lib.hid hrd
    have Hal := Lib.hid hal
    clear hrd h3 h4 h0 hal
    go_enter Tryz.func91, Tryz.ntmps91
    go_wp2_with (at_builtin; refine wpList_append_bytes rfl (.tmp 5) (.tmp 6) 24 rfl w.heap.size 5 Tryz.underlying24 info_u8 _ _ [] l rfl rfl (OwnB.made w _ _ (Nat.le_refl _)) Hrd.out Hal.out.size (by simp; omega) ?_)
    intro c u1 ho1 hk1
    have HO := Lib.hid (show OwnB u1 w.heap.size 5 c l from ho1)
    have HB := Lib.hid (hk1 w.heap.size w (Nat.le_refl _) Hal.out)
    clear ho1 hk1
    go_wp2
    go_ret
    exact ⟨_, rfl, HO.out, HB.out⟩

set_option maxRecDepth 100000 in
set_option maxHeartbeats 1000000 in
theorem grow_nil (w : World) (n : Nat) (hn : n < 1000000000000) :
    Calls Tryz.prog 78 #[.slice none 0 0, .int .i64 n] w (RetB w.heap.size w []) := by
  obtain ⟨i0, hi, hz0, hz1, hz2⟩ := info_parts info_u8
  by_cases h0 : n = 0
  · subst h0
    go_enter Tryz.func78, Tryz.ntmps78
    go_wp2
    go_ret
    exact ⟨_, rfl, OwnB.nil _ _ _, Below.refl _ _⟩
  · have happ := Lib.run_append_nil_zeros (P := Tryz.prog) w 24 3 24 5 i0 (.int .u8 0) .i64 .i64 Tryz.underlying24 Tryz.underlying3 hi hz0 n (by omega) (by omega) (by omega) (by rw [hz2]; omega)
    have hcap := grownCap_le_maxLen w n 0 5 (by unfold maxLen; omega)
    have hge := grownCap_ge w n 0 5
    generalize grownCap w n 0 5 = g at *
    have hsz : (Builtin.zeroCells (Value.int .u8 0).cells n ++ Builtin.zeroCells (Value.int .u8 0).cells (g - n)).size = g * 1 := by simp [size_zeroCells, Value.cells]; omega
    generalize (Builtin.zeroCells (Value.int .u8 0).cells n ++ Builtin.zeroCells (Value.int .u8 0).cells (g - n)) = Z at *
    have hrow : (w.drew.alloc (.cells Z 5)).ownsRow w.heap.size 5 1 (.slice (some ⟨w.heap.size, 0, none⟩) 0 g) 0 [] := World.ownsRow_made w.drew Z g (Nat.le_refl _) hcap hsz
    have HR := Lib.hid hrow
    have hm : (0 : Int) < (n : Int) := by omega
    clear hrow hsz hi hz0 hz1 hz2
    go_enter Tryz.func78, Tryz.ntmps78
    go_wp2_with (at_builtin; refine Lib.wpList_append_run _ rfl _ _ _ _ rfl _ _ rfl rfl _ _ happ ?_)
    go_ret
    exact ⟨_, rfl, HR.out, (Below.refl _ w).drew.alloc (Nat.le_refl _) _⟩

def sumLen (ls : List (List UInt8)) : Nat := (ls.map List.length).sum

theorem sumLen_take (ls : List (List UInt8)) (k : Nat) (l : List UInt8) (h : ls[k]? = some l) : sumLen (ls.take (k + 1)) = sumLen (ls.take k) + l.length := by
  obtain ⟨hk, rfl⟩ := List.getElem?_eq_some_iff.1 h
  unfold sumLen
  rw [List.take_succ_eq_append_getElem hk, List.map_append, List.sum_append]
  simp

theorem sumLen_le (ls : List (List UInt8)) (k : Nat) : sumLen (ls.take k) ≤ sumLen ls := by
  unfold sumLen
  conv => rhs; rw [← List.take_append_drop k ls]
  rw [List.map_append, List.sum_append]
  omega

theorem flat_take (ls : List (List UInt8)) (k : Nat) (l : List UInt8) (h : ls[k]? = some l) : (ls.take (k + 1)).flatten = (ls.take k).flatten ++ l := by
  obtain ⟨hk, rfl⟩ := List.getElem?_eq_some_iff.1 h
  rw [List.take_succ_eq_append_getElem hk, List.flatten_append, List.flatten_singleton]

theorem flat_len (ls : List (List UInt8)) : ls.flatten.length = sumLen ls := by rw [List.length_flatten]; rfl

set_option maxRecDepth 100000 in
set_option maxHeartbeats 2000000 in
theorem concat_any (w : World) (v : Value) (ls : List (List UInt8)) (h : RdLL w v ls) (hn : ls.length < 1000000) (hs : sumLen ls < 1000000000000) :
    Calls Tryz.prog 45 #[v] w (RetB w.heap.size w ls.flatten) := by
  obtain ⟨la, lc, rfl, _, _⟩ := h.form
  have HL := Lib.hid h
  clear h
  go_enter Tryz.func45, Tryz.ntmps45
  go_wp2
  go_loopw [3, 11] (fun n i wr => ∃ k : Nat, k ≤ ls.length ∧ i = .int .i64 k ∧ n = .int .i64 (sumLen (ls.take k) : Nat) ∧ Below w.heap.size w wr) (fun _ i _ => ls.length - (intOf i).toNat)
  case atStart => exact ⟨0, Nat.zero_le _, rfl, rfl, Below.refl _ _⟩
  case round =>
    obtain ⟨k, hk, rfl, rfl, hb⟩ := hrel
    have HB := Lib.hid hb
    clear hb
    by_cases hlt : k < ls.length
    · obtain ⟨x, hx⟩ : ∃ x, ls[k]? = some x := ⟨_, List.getElem?_eq_getElem hlt⟩
      obtain ⟨b, o, a, cap, rfl, hcell, _, _⟩ := (HL.out.below HB.out (Nat.le_refl _)).at_ hx
      have hst := sumLen_take ls k x hx
      have hle := sumLen_le ls (k + 1)
      rw [hst] at hle
      have HS := Lib.hid hst
      clear hst hx
      generalize sumLen (ls.take k) = m at *
      go_wp2
      go_roundw
      case rel => exact ⟨k + 1, by omega, by go_num, by rw [HS.out]; go_num, HB.out⟩
      case measure => simp [intOf]; omega
    · have HX : Hid (sumLen (ls.take k) = sumLen ls) := by rw [List.take_of_length_le (by omega)]; exact rfl
      rw [HX.out]
      have HG := Lib.hid (grow_nil wr (sumLen ls) hs)
      have hbz := HB.out.size
      go_wp2_with (go_at_call 78; refine HG.out.mono ?_; rintro e w1 ⟨u, rfl, hu, hb1⟩; have HU := Lib.hid (own_base hu (B' := w.heap.size) fun k hk => Nat.le_trans hbz (World.ownsRow.lt hu k hk).1); have HB1 := Lib.hid (HB.out.trans (hb1.mono hbz)); clear hu hb1)
      go_loopw [6, 27] (fun u i wr => ∃ k : Nat, k ≤ ls.length ∧ i = .int .i64 k ∧ OwnB wr w.heap.size 5 u (ls.take k).flatten ∧ Below w.heap.size w wr) (fun _ i _ => ls.length - (intOf i).toNat)
      case atStart => exact ⟨0, Nat.zero_le _, rfl, HU.out, HB1.out⟩
      case round =>
        obtain ⟨k, hk, rfl, hu, hb⟩ := hrel
        have HU := Lib.hid hu
        have HB := Lib.hid hb
        clear hu hb
        by_cases hlt : k < ls.length
        · obtain ⟨x, hx⟩ : ∃ x, ls[k]? = some x := ⟨_, List.getElem?_eq_getElem hlt⟩
          obtain ⟨b, o, a, cap, rfl, hcell, hrx, _⟩ := (HL.out.below HB.out (Nat.le_refl _)).at_ hx
          have hst := sumLen_take ls k x hx
          have hle := sumLen_le ls (k + 1)
          rw [hst] at hle
          have hfl := flat_len (ls.take k)
          have HF := Lib.hid (flat_take ls k x hx)
          have HRX := Lib.hid hrx
          clear hst hx hrx
          generalize (ls.take k).flatten = f at *
          go_wp2_with (at_builtin; refine wpList_append_bytes rfl (.tmp 31) (.tmp 32) 24 rfl w.heap.size 5 Tryz.underlying24 info_u8 _ _ f x rfl rfl HU.out HRX.out HB.out.size (by omega) ?_)
          intro c u1 ho1 hk1
          have HO := Lib.hid ho1
          have HB2 := Lib.hid (hk1 w.heap.size w (Nat.le_refl _) HB.out)
          clear ho1 hk1
          go_wp2
          go_roundw
          case rel => exact ⟨k + 1, by omega, by go_num, by rw [HF.out]; exact HO.out, HB2.out⟩
          case measure => simp [intOf]; omega
        · have HX : Hid (ls.take k = ls) := Lib.hid (List.take_of_length_le (by omega))
          go_wp2
          go_ret
          exact ⟨_, rfl, HX.out ▸ HU.out, HB.out⟩
end Go.Proofs.YteeikmpfgbfeoaaGreat
