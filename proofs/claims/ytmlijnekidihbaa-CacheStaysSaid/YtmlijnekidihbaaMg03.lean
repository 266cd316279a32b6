import Derived.Test.YtmlijnekidihbaaMoves
import Derived.Test.YtmlijnekidihbaaWords
import Derived.Lib.AppendZeros
import Derived.Test.YtmlijnekidihbaaKeyMath
import Derived.Lib.Strings
import Derived.Test.YtmlijnekidihbaaText
import Derived.Test.YtmlijnekidihbaaRegion
import Derived.Test.YtmlijnekidihbaaSumMath
import Derived.Laws.DeepBits32
import Derived.Test.YtmlijnekidihbaaCells
import Derived.Lib.AppendStr

/-
  Slices of slices of bytes: what reads as a list of lists of bytes; one of the call's own.
-/
namespace Go.Proofs.Ytmlijnekidihbaa
open Go.RowKit

/-- The slice 'v' of slices reads as the lists of bytes 'ls'. -/
def RdLL (w : World) (v : Value) (ls : List (List UInt8)) : Prop := ∃ cs : List Value, Rd w 1 v ls.length cs ∧ ∀ (i : Nat) (c : Value) (l : List UInt8), cs[i]? = some c → ls[i]? = some l → RdB w c l

theorem RdLL.below {w w' : World} {v : Value} {ls : List (List UInt8)} (h : RdLL w v ls) {B : Nat} (hb : Below B w w') (hB : w.heap.size ≤ B) : RdLL w' v ls := by
  obtain ⟨cs, h1, h2⟩ := h
  exact ⟨cs, h1.below hb hB, fun i c l hc hl => (h2 i c l hc hl).below hb hB⟩

theorem RdLL.form {w : World} {v : Value} {ls : List (List UInt8)} (h : RdLL w v ls) : ∃ a cap, v = .slice a ls.length cap ∧ ls.length ≤ cap ∧ cap ≤ maxLen := by
  obtain ⟨cs, ⟨a, cap, rfl, h1, h2, _⟩, _⟩ := h
  exact ⟨a, cap, rfl, h1, h2⟩

/-- One of them. -/
theorem RdLL.at_ {w : World} {la : Option Addr} {lc : Nat} {ls : List (List UInt8)} (h : RdLL w (.slice la ls.length lc) ls) {i : Nat} {l : List UInt8} (hl : ls[i]? = some l) :
    ∃ b o a cap, la = some ⟨b, o, none⟩ ∧ w.cell? ⟨b, o + i, none⟩ = some (.slice a l.length cap) ∧ RdB w (.slice a l.length cap) l ∧ b < w.heap.size := by
  obtain ⟨cs, ⟨a, cap, hv, h1, h2, h3, h4⟩, h5⟩ := h
  cases hv
  have hi : i < ls.length := (List.getElem?_eq_some_iff.1 hl).1
  obtain ⟨c, hc⟩ : ∃ c, cs[i]? = some c := ⟨_, List.getElem?_eq_getElem (by omega)⟩
  have hr := h5 i c l hc hl
  obtain ⟨a', cap', hcv, _, _⟩ := hr.form
  rcases h4 with ⟨h4, _⟩ | ⟨b, o, rfl, hb, hcell⟩
  · omega
  · exact ⟨b, o, a', cap', rfl, by rw [hcell i c hc, hcv], hcv ▸ hr, hb⟩

/-- A slice of slices of the call's own: what it holds lies in memory of the call's own, too, and in none of its blocks. -/
def OwnLL (w : World) (B e e' : Nat) (v : Value) (ls : List (List UInt8)) : Prop :=
  ∃ cs : List Value, w.ownsRow B e' 1 v ls.length cs ∧ ∀ (i : Nat) (c : Value) (l : List UInt8), cs[i]? = some c → ls[i]? = some l → OwnB w B e c l ∧ ∀ k, c.ownBlock = some k → v.ownBlock ≠ some k

theorem OwnLL.nil (w : World) (B e e' : Nat) : OwnLL w B e e' (.slice none 0 0) [] := ⟨[], World.ownsRow_nil _ _ _ _, fun i c l h => by simp at h⟩

theorem OwnLL.read {w : World} {B e e' : Nat} {v : Value} {ls : List (List UInt8)} (h : OwnLL w B e e' v ls) : RdLL w v ls := by
  obtain ⟨cs, h1, h2⟩ := h
  exact ⟨cs, rd_of_own h1, fun i c l hc hl => (h2 i c l hc hl).1.read⟩

theorem OwnLL.below {w w' : World} {B B' e e' : Nat} {v : Value} {ls : List (List UInt8)} (h : OwnLL w B e e' v ls) (hb : Below B' w w') (hB : w.heap.size ≤ B') : OwnLL w' B e e' v ls := by
  obtain ⟨cs, h1, h2⟩ := h
  refine ⟨cs, own_kept h1 (R := fun k => k < B') (Kept.of hb fun _ h => h) fun k hk => ?_, fun i c l hc hl => ⟨(h2 i c l hc hl).1.below hb hB, (h2 i c l hc hl).2⟩⟩
  have := own_lt h1 k hk
  omega

/-- One more, told by a call: 'append(s, x)' of a slice that lies in none of its blocks. -/
theorem OwnLL.more {w w' : World} {B e e' : Nat} {v v' c : Value} {ls : List (List UInt8)} {l : List UInt8} {cs : List Value} (h1 : w.ownsRow B e' 1 v ls.length cs)
    (h2 : ∀ (i : Nat) (c : Value) (l : List UInt8), cs[i]? = some c → ls[i]? = some l → OwnB w B e c l ∧ ∀ k, c.ownBlock = some k → v.ownBlock ≠ some k)
    (hc : OwnB w B e c l) (hcv : ∀ k, c.ownBlock = some k → v.ownBlock ≠ some k) (hB : B ≤ w.heap.size) (hown : w'.ownsRow 0 e' 1 v' (ls.length + 1) (cs ++ [c])) (hm : Moves w w' v v') : OwnLL w' B e e' v' (ls ++ [l]) := by
  have hlen : cs.length = ls.length := by have := h1.1; omega
  have hv' : ∀ k, v'.ownBlock = some k → v.ownBlock = some k ∨ w.heap.size ≤ k := fun k hk => (hm.at_ k hk).imp id fun h => h.1
  have keep : ∀ (c : Value) (l : List UInt8), OwnB w B e c l → (∀ k, c.ownBlock = some k → v.ownBlock ≠ some k) → OwnB w' B e c l ∧ ∀ k, c.ownBlock = some k → v'.ownBlock ≠ some k := by
    intro c l ho hne
    refine ⟨own_kept ho (hm.kept (R := fun k => k < w.heap.size ∧ v.ownBlock ≠ some k) fun k h => h) fun k hk => ⟨own_lt ho k hk, hne k hk⟩, fun k hk h => ?_⟩
    rcases hv' k h with h | h
    · exact hne k hk h
    · have := own_lt ho k hk
      omega
  have hbase : w'.ownsRow B e' 1 v' (ls.length + 1) (cs ++ [c]) := own_base hown fun k hk => by
    rcases hv' k hk with h | h
    · exact (World.ownsRow.lt h1 k h).1
    · omega
  refine ⟨cs ++ [c], by rw [List.length_append]; exact hbase, fun i d m hd hm' => ?_⟩
  · rcases Nat.lt_or_ge i cs.length with hi | hi
    · rw [List.getElem?_append_left hi] at hd
      rw [List.getElem?_append_left (by omega)] at hm'
      exact keep d m (h2 i d m hd hm').1 (h2 i d m hd hm').2
    · rw [List.getElem?_append_right hi] at hd
      rw [List.getElem?_append_right (by omega), ← hlen] at hm'
      obtain ⟨hi0, hd0⟩ := List.getElem?_eq_some_iff.1 hd
      have hz : i - cs.length = 0 := by simpa using hi0
      rw [hz] at hd hm'
      cases hd
      cases hm'
      exact keep c l hc hcv

/-- One more: what a call told, put behind. -/
theorem OwnLL.push {w0 w1 : World} {B e e' e2 : Nat} {v c : Value} {ls : List (List UInt8)} {l : List UInt8} (h : OwnLL w0 B e e' v ls) (hb : Below w0.heap.size w0 w1) (hB : B ≤ w0.heap.size) (hc : OwnB w1 w0.heap.size e c l) :
    ∃ cs : List Value, (w1.alloc (.cells #[c] e2)).ownsRow 0 e' 1 v ls.length cs ∧ Rd (w1.alloc (.cells #[c] e2)) 1 (.slice (some ⟨w1.heap.size, 0, none⟩) 1 1) 1 [c] ∧
      ∀ v' w', w'.ownsRow 0 e' 1 v' (ls.length + 1) (cs ++ [c]) → Moves (w1.alloc (.cells #[c] e2)) w' v v' → OwnLL w' B e e' v' (ls ++ [l]) ∧ Below B w0 w' := by
  obtain ⟨cs, h1, h2⟩ := h
  have hal : Below w1.heap.size w1 (w1.alloc (.cells #[c] e2)) := (Below.refl _ _).alloc (Nat.le_refl _) _
  have hb2 : Below w0.heap.size w0 (w1.alloc (.cells #[c] e2)) := hb.trans (hal.mono hb.size)
  have hown : ∀ {B' : Nat}, B' ≤ B → (w1.alloc (.cells #[c] e2)).ownsRow B' e' 1 v ls.length cs := fun {B'} hB' =>
    own_base (own_kept h1 (R := fun k => k < w0.heap.size) (Kept.of hb2 fun _ h => h) fun k hk => own_lt h1 k hk) fun k hk => Nat.le_trans hB' (World.ownsRow.lt h1 k hk).1
  refine ⟨cs, hown (Nat.zero_le _), ⟨_, 1, rfl, Nat.le_refl _, by unfold maxLen; omega, rfl, .inr ⟨w1.heap.size, 0, rfl, by simp, fun j u hj => ?_⟩⟩, fun v' w' h3 h4 => ⟨?_, ?_⟩⟩
  · rw [Nat.zero_add, blk_cell (heap_alloc_new w1 (.cells #[c] e2))]
    simpa using hj
  · refine OwnLL.more (hown (Nat.le_refl _)) (fun i d m hd hm => ⟨(h2 i d m hd hm).1.below hb2 (Nat.le_refl _), (h2 i d m hd hm).2⟩) (own_base (OwnB.below hc hal (Nat.le_refl _)) fun k hk => Nat.le_trans hB (World.ownsRow.lt hc k hk).1) (fun k hk hv => ?_) (Nat.le_trans hB hb2.size) h3 h4
    have := (World.ownsRow.lt hc k hk).1
    have := own_lt h1 k hv
    omega
  · exact (hb2.mono hB).grown h4.grown (Nat.le_trans hB hb2.size) fun k hk => (World.ownsRow.lt h1 k hk).1
end Go.Proofs.Ytmlijnekidihbaa

/-
  What package frame needs of the library: bytes.Clone, slices.Grow of nothing, slices.Concat.
-/
namespace Go.Proofs.Ytmlijnekidihbaa
open Go.RowKit

theorem eqn_bytes (w : World) : (binOp .eql 22 (.slice none 0 0) (.slice none 0 0)).run Try.prog w = .ok (.bool true) w := by kernel_rfl
theorem eqs_bytes (ad : Addr) (n cap : Nat) (w : World) : (binOp .eql 22 (.slice (some ad) n cap) (.slice none 0 0)).run Try.prog w = .ok (.bool false) w := by kernel_rfl

set_option maxRecDepth 100000 in
set_option maxHeartbeats 1000000 in
theorem grow_nil (w : World) (n : Nat) (hn : n < 1000000000000) :
    Calls Try.prog 68 #[.slice none 0 0, .int .i64 n] w (RetB w.heap.size w []) := by
  obtain ⟨i0, hi, hz0, hz1, hz2⟩ := info_parts info_u8
  by_cases h0 : n = 0
  · subst h0
    go_enter Try.func68, Try.ntmps68
    go_wp2
    go_ret
    exact ⟨_, rfl, OwnB.nil _ _ _, Below.refl _ _⟩
  · have happ := Lib.run_append_nil_zeros (P := Try.prog) w 22 3 22 5 i0 (.int .u8 0) .i64 .i64 Try.underlying22 Try.underlying3 hi hz0 n (by omega) (by omega) (by omega) (by rw [hz2]; omega)
    have hcap := grownCap_le_maxLen w n 0 5 (by unfold maxLen; omega)
    have hge := grownCap_ge w n 0 5
    generalize grownCap w n 0 5 = g at *
    have hsz : (Builtin.zeroCells (Value.int .u8 0).cells n ++ Builtin.zeroCells (Value.int .u8 0).cells (g - n)).size = g * 1 := by simp [size_zeroCells, Value.cells]; omega
    generalize (Builtin.zeroCells (Value.int .u8 0).cells n ++ Builtin.zeroCells (Value.int .u8 0).cells (g - n)) = Z at *
    have hrow : (w.drew.alloc (.cells Z 5)).ownsRow w.heap.size 5 1 (.slice (some ⟨w.heap.size, 0, none⟩) 0 g) 0 [] := World.ownsRow_made w.drew Z g (Nat.le_refl _) hcap hsz
    have HR := Lib.hid hrow
    have hm : (0 : Int) < (n : Int) := by omega
    clear hrow hsz hi hz0 hz1 hz2
    go_enter Try.func68, Try.ntmps68
    go_wp2_with (at_builtin; refine Lib.wpList_append_run _ rfl _ _ _ _ rfl _ _ rfl rfl _ _ happ ?_)
    go_ret
    exact ⟨_, rfl, HR.out, (Below.refl _ w).drew.alloc (Nat.le_refl _) _⟩

def sumLen (ls : List (List UInt8)) : Nat := (ls.map List.length).sum

theorem sumLen_take (ls : List (List UInt8)) (k : Nat) (l : List UInt8) (h : ls[k]? = some l) : sumLen (ls.take (k + 1)) = sumLen (ls.take k) + l.length := by
  obtain ⟨hk, rfl⟩ := List.getElem?_eq_some_iff.1 h
  unfold sumLen
  rw [List.take_succ_eq_append_getElem hk, List.map_append, List.sum_append]
  simp

theorem sumLen_le (ls : List (List UInt8)) (k : Nat) : sumLen (ls.take k) ≤ sumLen ls := by
  unfold sumLen
  conv => rhs; rw [← List.take_append_drop k ls]
  rw [List.map_append, List.sum_append]
  omega

theorem flat_take (ls : List (List UInt8)) (k : Nat) (l : List UInt8) (h : ls[k]? = some l) : (ls.take (k + 1)).flatten = (ls.take k).flatten ++ l := by
  obtain ⟨hk, rfl⟩ := List.getElem?_eq_some_iff.1 h
  rw [List.take_succ_eq_append_getElem hk, List.flatten_append, List.flatten_singleton]

theorem flat_len (ls : List (List UInt8)) : ls.flatten.length = sumLen ls := by rw [List.length_flatten]; rfl

set_option maxRecDepth 100000 in
set_option maxHeartbeats 2000000 in
theorem concat_any (w : World) (v : Value) (ls : List (List UInt8)) (h : RdLL w v ls) (hn : ls.length < 1000000) (hs : sumLen ls < 1000000000000) :
    Calls Try.prog 52 #[v] w (RetB w.heap.size w ls.flatten) := by
  obtain ⟨la, lc, rfl, _, _⟩ := h.form
  have HL := Lib.hid h
  clear h
  go_enter Try.func52, Try.ntmps52
  go_wp2
  go_loopw [3, 11] (fun n i wr => ∃ k : Nat, k ≤ ls.length ∧ i = .int .i64 k ∧ n = .int .i64 (sumLen (ls.take k) : Nat) ∧ Below w.heap.size w wr) (fun _ i _ => ls.length - (intOf i).toNat)
  case atStart => exact ⟨0, Nat.zero_le _, rfl, rfl, Below.refl _ _⟩
  case round =>
    obtain ⟨k, hk, rfl, rfl, hb⟩ := hrel
    have HB := Lib.hid hb
    clear hb
    by_cases hlt : k < ls.length
    · obtain ⟨x, hx⟩ : ∃ x, ls[k]? = some x := ⟨_, List.getElem?_eq_getElem hlt⟩
      obtain ⟨b, o, a, cap, rfl, hcell, _, _⟩ := (HL.out.below HB.out (Nat.le_refl _)).at_ hx
      have hst := sumLen_take ls k x hx
      have hle := sumLen_le ls (k + 1)
      rw [hst] at hle
      have HS := Lib.hid hst
      clear hst hx
      generalize sumLen (ls.take k) = m at *
      go_wp2
      go_roundw
      case rel => exact ⟨k + 1, by omega, by go_num, by rw [HS.out]; go_num, HB.out⟩
      case measure => simp [intOf]; omega
    · have HX : Hid (sumLen (ls.take k) = sumLen ls) := by rw [List.take_of_length_le (by omega)]; exact rfl
      rw [HX.out]
      have HG := Lib.hid (grow_nil wr (sumLen ls) hs)
      have hbz := HB.out.size
      go_wp2_with (go_at_call 68; refine HG.out.mono ?_; rintro e w1 ⟨u, rfl, hu, hb1⟩; have HU := Lib.hid (own_base hu (B' := w.heap.size) fun k hk => Nat.le_trans hbz (World.ownsRow.lt hu k hk).1); have HB1 := Lib.hid (HB.out.trans (hb1.mono hbz)); clear hu hb1)
      go_loopw [6, 27] (fun u i wr => ∃ k : Nat, k ≤ ls.length ∧ i = .int .i64 k ∧ OwnB wr w.heap.size 5 u (ls.take k).flatten ∧ Below w.heap.size w wr) (fun _ i _ => ls.length - (intOf i).toNat)
      case atStart => exact ⟨0, Nat.zero_le _, rfl, HU.out, HB1.out⟩
      case round =>
        obtain ⟨k, hk, rfl, hu, hb⟩ := hrel
        have HU := Lib.hid hu
        have HB := Lib.hid hb
        clear hu hb
        by_cases hlt : k < ls.length
        · obtain ⟨x, hx⟩ : ∃ x, ls[k]? = some x := ⟨_, List.getElem?_eq_getElem hlt⟩
          obtain ⟨b, o, a, cap, rfl, hcell, hrx, _⟩ := (HL.out.below HB.out (Nat.le_refl _)).at_ hx
          have hst := sumLen_take ls k x hx
          have hle := sumLen_le ls (k + 1)
          rw [hst] at hle
          have hfl := flat_len (ls.take k)
          have HF := Lib.hid (flat_take ls k x hx)
          have HRX := Lib.hid hrx
          clear hst hx hrx
          generalize (ls.take k).flatten = f at *
          go_wp2_with (at_builtin; refine wpList_append_bytes rfl (.tmp 31) (.tmp 32) 22 rfl w.heap.size 5 Try.underlying22 info_u8 _ _ f x rfl rfl HU.out HRX.out HB.out.size (by omega) ?_)
          intro c u1 ho1 hk1
          have HO := Lib.hid ho1
          have HB2 := Lib.hid (hk1 w.heap.size w (Nat.le_refl _) HB.out)
          clear ho1 hk1
          go_wp2
          go_roundw
          case rel => exact ⟨k + 1, by omega, by go_num, by rw [HF.out]; exact HO.out, HB2.out⟩
          case measure => simp [intOf]; omega
        · have HX : Hid (ls.take k = ls) := Lib.hid (List.take_of_length_le (by omega))
          go_wp2
          go_ret
          exact ⟨_, rfl, HX.out ▸ HU.out, HB.out⟩
end Go.Proofs.Ytmlijnekidihbaa

/-
  What key.May and the document's MayKey do, for every key.
-/
namespace Go.Proofs.Ytmlijnekidihbaa
open Go.RowKit

theorem ret_bool {a b : Bool} (h : a = b) : Ending.returned (.bool a) = .returned (.bool b) := by rw [h]
theorem ret_num {k : IntKind} {a b : Int} (h : a = b) : Ending.returned (.int k a) = .returned (.int k b) := by rw [h]

/-- What was there is there as it was. -/
theorem bcell {W w1 : World} (hb : Below W.heap.size W w1) : (∀ b o, b < W.heap.size → w1.cell? ⟨b, o, none⟩ = W.cell? ⟨b, o, none⟩) ∧ (∀ b o, b < W.heap.size → w1.frozen? ⟨b, o, none⟩ = W.frozen? ⟨b, o, none⟩) :=
  ⟨fun b o h => hb.cell (p := ⟨b, o, none⟩) h, fun b o h => hb.frozen (p := ⟨b, o, none⟩) h⟩

theorem str_len (u : ByteArray) : u.data.toList.length = u.size := by rw [Array.length_toList]; rfl

theorem toList_data (u : ByteArray) : u.toList = u.data.toList := Lib.toList_data u

theorem str_at (u : ByteArray) (k : Nat) (h : k < u.size) : u.data.toList.getD k 0 = u[k] := by
  have h' : k < u.data.toList.length := by rw [str_len]; exact h
  simp only [List.getD, List.getElem?_eq_getElem h', Option.getD_some]
  rfl


end Go.Proofs.Ytmlijnekidihbaa

/-
  What the document's answer for layer 1 does: numbers as bytes.
-/
namespace Go.Proofs.Ytmlijnekidihbaa
open Go.RowKit

theorem more_byte' (n : Nat) : (128 + (n : Int) % 128) = ((moreB n).toNat : Int) := by
  unfold moreB
  rw [ofNat_toNat _ (by omega)]
  omega

end Go.Proofs.Ytmlijnekidihbaa

/-
  What the document's answer for layer 1 does: texts out of bytes.
-/
namespace Go.Proofs.Ytmlijnekidihbaa
open Go.RowKit

end Go.Proofs.Ytmlijnekidihbaa

/-
  What key.Put and the document's PutKey do, for every key.
-/
namespace Go.Proofs.Ytmlijnekidihbaa
open Go.RowKit

/-- The bytes of a key: none, if it may not be. -/
def putK (u : List UInt8) (s k : Int) : List UInt8 := bif mayB u s k then putT u ++ putL (2 * s + k - 1).toNat else []

theorem put_pos (n : Int) (h0 : 0 ≤ n) (h1 : n ≤ 9223372036854775807) (w : World) : Calls Try.prog 54 #[.int .i64 n] w (RetB w.heap.size w (putL n.toNat)) := by
  obtain ⟨m, rfl⟩ := Int.eq_ofNat_of_zero_le h0
  exact put_nat m h1 w

theorem OwnB.mono_B {w : World} {B B' e : Nat} {v : Value} {l : List UInt8} (h : OwnB w B e v l) (hB : B' ≤ B) : OwnB w B' e v l := by
  refine ⟨h.1, ?_⟩
  rcases h.2 with h2 | ⟨g, cap, cur, rfl, h3, r⟩
  · exact .inl h2
  · exact .inr ⟨g, cap, cur, rfl, by omega, r⟩

end Go.Proofs.Ytmlijnekidihbaa

/-
  What num.Fixed and num.GetFixed do, for all that they are given.
-/
namespace Go.Proofs.Ytmlijnekidihbaa
open Go.RowKit

set_option maxRecDepth 100000 in
set_option maxHeartbeats 400000 in
theorem fixed_yes (n : Int) (s : Nat) (hs : 1 ≤ s ∧ s ≤ 8) (w : World) :
    Calls Try.prog 55 #[.int .i64 n, .int .i64 s] w (RetB w.heap.size w (fixL n s)) := by
  obtain ⟨h1, h8⟩ := hs
  obtain ⟨i0, hi, hz0, hz1, hz2⟩ := info_parts info_u8
  have g1 : ¬ (s : Int) < 1 := by omega
  have g2 : ¬ (8 : Int) < (s : Int) := by omega
  go_enter Try.func55, Try.ntmps55
  go_wp2
  go_step3
  go_wp2_with (at_make; refine wpList_make_own _ rfl _ _ 22 rfl w.heap.size 5 i0 (.int .u8 0) 1 Try.underlying22 hi hz0 hz1 _ _ _ s rfl rfl rfl ?b2 ?b3 (Nat.le_refl _) ?_)
  case b2 => rw [hz2]; omega
  case b3 => unfold maxLen; omega
  intro w0 hown0 hgrow0
  go_wp2
  go_step3
  go_wp2
  go_loopw [5, 6] (fun b left wr => ∃ (k : Nat) (l : List UInt8), k ≤ 8 ∧ left = .int .i64 ((k : Int) - 1) ∧ OwnB wr w.heap.size 5 b l ∧ l ++ fixL n (min k s) = fixL n s ∧ Below w.heap.size w wr)
    (fun _ left _ => ((intOf left) + 1).toNat)
  case atStart => exact ⟨8, [], Nat.le_refl _, rfl, hown0, by rw [Nat.min_eq_right h8]; rfl, (Below.refl _ _).grown hgrow0 (Nat.le_refl _) (fun k h => by cases h)⟩
  case round =>
    obtain ⟨k, l, hk, rfl, hown, hl, hb⟩ := hrel
    have hlen : l.length ≤ 8 := by
      have := congrArg List.length hl
      simp only [List.length_append, fixL_length] at this
      omega
    match k, hk, hl with
    | 0, hk, hl =>
      have hl' : l = fixL n s := by simpa [fixL] using hl
      have H := Lib.hid hl'
      clear hl hl'
      go_wp2
      rw [Exit.noGoto_ret]
      go_ret
      exact ⟨_, rfl, H.out ▸ hown, hb⟩
    | j + 1, hk, hl =>
      rw [show (((j + 1 : Nat) : Int) - 1) = (j : Int) from by omega]
      by_cases hj : s ≤ j
      · have hl' : l ++ fixL n (min j s) = fixL n s := by rw [← hl, Nat.min_eq_right hj, Nat.min_eq_right (by omega)]
        have H := Lib.hid hl'
        clear hl hl'
        go_wp2
        go_roundw
        case rel => exact ⟨j, l, by omega, rfl, hown, H.out, hb⟩
        case measure => simp [intOf]
      · have hl' : (l ++ [fixB n j]) ++ fixL n (min j s) = fixL n s := by
          rw [← hl, Nat.min_eq_left (show j ≤ s by omega), Nat.min_eq_left (show j + 1 ≤ s by omega)]
          simp [fixL]
        have H := Lib.hid hl'
        clear hl hl'
        go_wp2_with (at_builtin; refine wpList_append_byte rfl (.tmp 22) (.tmp 28) 22 rfl w.heap.size 5 Try.underlying22 info_u8 _ l (fixB n j) _ wr rfl rfl hown (fix_byte n j) hb.size ?_ ?_)
        · omega
        · intro v' w' hown' hb'
          go_wp2
          go_roundw
          case rel => exact ⟨j, l ++ [fixB n j], by omega, rfl, hown', H.out, hb' _ _ (Nat.le_refl _) hb⟩
          case measure => simp [intOf]

end Go.Proofs.Ytmlijnekidihbaa

/-
  Bits of numbers of 32 and 64 bits, as the walk spells them: plain facts.
-/
namespace Go.Proofs.Ytmlijnekidihbaa

theorem xor_u32 (a b : Nat) (ha : a < 2 ^ 32) (hb : b < 2 ^ 32) : bits .xor .u32 (a : Int) (b : Int) = ((a ^^^ b : Nat) : Int) := by
  have hx : a ^^^ b < 2 ^ 32 := Nat.xor_lt_two_pow ha hb
  show IntKind.u32.wrap ((BitVec.ofInt 32 (a : Int) ^^^ BitVec.ofInt 32 (b : Int)).toNat : Int) = _
  rw [BitVec.toNat_xor, ofInt_u32 a ha, ofInt_u32 b hb, IntKind.wrap_u32']
  omega

theorem and_one_u32 (a : Nat) (ha : a < 2 ^ 32) : bits .and .u32 (a : Int) 1 = ((a % 2 : Nat) : Int) := by
  have h1 : (BitVec.ofInt 32 1).toNat = 1 := by decide
  show IntKind.u32.wrap ((BitVec.ofInt 32 (a : Int) &&& BitVec.ofInt 32 1).toNat : Int) = _
  rw [BitVec.toNat_and, ofInt_u32 a ha, h1, Nat.and_one_is_mod, IntKind.wrap_u32']
  omega

theorem xor_i64 (a b : Nat) (ha : a < 2 ^ 63) (hb : b < 2 ^ 63) : bits .xor .i64 (a : Int) (b : Int) = ((a ^^^ b : Nat) : Int) := by
  have hx : a ^^^ b < 2 ^ 63 := Nat.xor_lt_two_pow ha hb
  have o : ∀ c : Nat, c < 2 ^ 63 → (BitVec.ofInt 64 (c : Int)).toNat = c := by
    intro c hc
    rw [BitVec.ofInt_natCast, BitVec.toNat_ofNat]
    exact Nat.mod_eq_of_lt (by omega)
  show IntKind.i64.wrap ((BitVec.ofInt 64 (a : Int) ^^^ BitVec.ofInt 64 (b : Int)).toNat : Int) = _
  rw [BitVec.toNat_xor, o a ha, o b hb]
  exact IntWalk.i64_in _ (by omega)

/-- All bits turned round. -/
theorem not_u32 (a : Nat) (ha : a < 2 ^ 32) : a ^^^ 4294967295 = 4294967295 - a := by
  have h : a ^^^ 4294967295 < 2 ^ 32 := Nat.xor_lt_two_pow ha (by decide)
  have e : (BitVec.ofNat 32 a ^^^ BitVec.allOnes 32) = ~~~ BitVec.ofNat 32 a := BitVec.xor_allOnes
  have e2 := congrArg BitVec.toNat e
  rw [BitVec.toNat_xor, BitVec.toNat_not, BitVec.toNat_ofNat, Nat.mod_eq_of_lt ha, BitVec.toNat_allOnes] at e2
  exact e2

/-- One bit, as programs make it: shifted, then the polynomial put over it where the bit that fell out was set. -/
theorem st1_even (c : Nat) (h : c % 2 = 0) : st1 c = c / 2 := by unfold st1; rw [if_neg (by omega), Nat.xor_zero]
theorem st1_odd (c : Nat) (h : c % 2 = 1) : st1 c = c / 2 ^^^ poly := by unfold st1; rw [if_pos h]
end Go.Proofs.Ytmlijnekidihbaa

/-
  Four bytes side by side that are turned by a number of 32 bits: what the statement SumTurned asks of lists of bytes.
-/
namespace Go.Proofs.Ytmlijnekidihbaa

/-- Behind 'i' rounds: the bytes from 'k' on are turned by the bytes of 'x', the lowest one first. -/
def turnL (l : List UInt8) (k x : Nat) : Nat → List UInt8
  | 0 => l
  | i + 1 => (turnL l k x i).set (k + i) ((turnL l k x i).getD (k + i) 0 ^^^ UInt8.ofNat (x / 256 ^ i % 256))

theorem turnL_length (l : List UInt8) (k x i : Nat) : (turnL l k x i).length = l.length := by
  induction i with
  | zero => rfl
  | succ i ih => rw [turnL, List.length_set, ih]

theorem four_of {l : List UInt8} {k : Nat} (h : k + 4 ≤ l.length) : ∃ (p r : List UInt8) (a b c d : UInt8), l = p ++ [a, b, c, d] ++ r ∧ p.length = k := by
  refine ⟨l.take k, l.drop (k + 4), l[k]'(by omega), l[k + 1]'(by omega), l[k + 2]'(by omega), l[k + 3]'(by omega), ?_, by rw [List.length_take]; omega⟩
  have e : l.drop k = l[k]'(by omega) :: l[k + 1]'(by omega) :: l[k + 2]'(by omega) :: l[k + 3]'(by omega) :: l.drop (k + 4) := by
    rw [List.drop_eq_getElem_cons (by omega), List.drop_eq_getElem_cons (by omega), List.drop_eq_getElem_cons (by omega), List.drop_eq_getElem_cons (by omega)]
  conv => lhs; rw [← List.take_append_drop k l, e]
  simp

theorem set_mid (p q : List UInt8) (a : UInt8) (k : Nat) (x : UInt8) (h : p.length = k) : (p ++ a :: q).set k x = p ++ x :: q := by
  subst h
  rw [List.set_append_right _ _ (Nat.le_refl _), Nat.sub_self]
  rfl
theorem get_mid (p q : List UInt8) (a : UInt8) (k : Nat) (h : p.length = k) : (p ++ a :: q).getD k 0 = a := by
  subst h
  simp [List.getD]

theorem turnL_four (p r : List UInt8) (a b c d : UInt8) (x : Nat) :
    turnL (p ++ [a, b, c, d] ++ r) p.length x 4 = p ++ [a ^^^ UInt8.ofNat (x % 256), b ^^^ UInt8.ofNat (x / 256 % 256), c ^^^ UInt8.ofNat (x / 65536 % 256), d ^^^ UInt8.ofNat (x / 16777216 % 256)] ++ r := by
  have e0 : p ++ [a, b, c, d] ++ r = p ++ a :: (b :: c :: d :: r) := by simp
  rw [e0]
  have t1 : turnL (p ++ a :: (b :: c :: d :: r)) p.length x 1 = (p ++ [a ^^^ UInt8.ofNat (x % 256)]) ++ b :: (c :: d :: r) := by
    rw [turnL, turnL, Nat.add_zero, get_mid _ _ _ _ rfl, set_mid _ _ _ _ _ rfl]
    simp
  have t2 : turnL (p ++ a :: (b :: c :: d :: r)) p.length x 2 = (p ++ [a ^^^ UInt8.ofNat (x % 256), b ^^^ UInt8.ofNat (x / 256 % 256)]) ++ c :: (d :: r) := by
    rw [turnL, t1, get_mid _ _ _ _ (by simp), set_mid _ _ _ _ _ (by simp)]
    simp
  have t3 : turnL (p ++ a :: (b :: c :: d :: r)) p.length x 3 = (p ++ [a ^^^ UInt8.ofNat (x % 256), b ^^^ UInt8.ofNat (x / 256 % 256), c ^^^ UInt8.ofNat (x / 65536 % 256)]) ++ d :: r := by
    rw [turnL, t2, get_mid _ _ _ _ (by simp), set_mid _ _ _ _ _ (by simp)]
    simp
  rw [turnL, t3, get_mid _ _ _ _ (by simp), set_mid _ _ _ _ _ (by simp)]
  simp

theorem xor_same {a x : UInt8} (h : a ^^^ x = a) : x.toNat = 0 := by
  have h1 := congrArg UInt8.toNat h
  rw [UInt8.toNat_xor] at h1
  have h2 : a.toNat ^^^ (a.toNat ^^^ x.toNat) = a.toNat ^^^ a.toNat := by rw [h1]
  rw [← Nat.xor_assoc, Nat.xor_self, Nat.zero_xor] at h2
  exact h2

/-- Turned by what is not nought they have another sum. -/
theorem sumL_turnL (l : List UInt8) (k x : Nat) (h : k + 4 ≤ l.length) (hx : x < 2 ^ 32) (h0 : x ≠ 0) : sumL (turnL l k x 4) ≠ sumL l := by
  obtain ⟨p, r, a, b, c, d, rfl, rfl⟩ := four_of h
  rw [turnL_four]
  refine sumL_turned p _ _ r rfl (by simp) ?_
  intro e
  simp only [List.cons.injEq, and_true] at e
  obtain ⟨e1, e2, e3, e4⟩ := e
  have f : ∀ n : Nat, (UInt8.ofNat (n % 256)).toNat = n % 256 := by
    intro n
    rw [UInt8.toNat_ofNat']
    exact Nat.mod_eq_of_lt (by omega)
  have q1 := xor_same e1
  have q2 := xor_same e2
  have q3 := xor_same e3
  have q4 := xor_same e4
  rw [f] at q1 q2 q3 q4
  omega
end Go.Proofs.Ytmlijnekidihbaa

/-
  What sum.Sum and sum.Hash do, for all that they are given.
-/
namespace Go.Proofs.Ytmlijnekidihbaa
open Go.RowKit

theorem crcL_take (c : Nat) (l : List UInt8) (k : Nat) (h : k < l.length) : crcL c (l.take (k + 1)) = crcB (crcL c (l.take k)) (l.getD k 0) := by
  rw [take_snoc' l k h, crcL_append]
  rfl

/-- One bit, the polynomial under a mask of the bit that falls out. -/
theorem step_mask (y : Nat) (hy : y < 2 ^ 32) : bits .xor .u32 ((y : Int) / 2) (bits .and .u32 2197175160 (-bits .and .u32 (y : Int) 1 % 4294967296)) = ((st1 y : Nat) : Int) := by
  rw [and_one_u32 y hy]
  have h2 : (y : Int) / 2 = ((y / 2 : Nat) : Int) := by omega
  have hp : st1 y < 2 ^ 32 := st1_lt y hy
  rcases Nat.mod_two_eq_zero_or_one y with h | h
  · rw [h, st1_even y h]
    have e : bits .and .u32 2197175160 (-((0 : Nat) : Int) % 4294967296) = ((0 : Nat) : Int) := by decide
    rw [e, h2, xor_u32 _ _ (by omega) (by decide), Nat.xor_zero]
  · rw [h, st1_odd y h]
    have e : bits .and .u32 2197175160 (-((1 : Nat) : Int) % 4294967296) = ((poly : Nat) : Int) := by decide
    rw [e, h2, xor_u32 _ _ (by omega) (by decide)]

/-- All bits turned round, as programs spell it. -/
theorem flip_u32 (x : Nat) (hx : x < 2 ^ 32) : wrap64 (bits .xor .u32 IntKind.u32.max (x : Int)) = ((x ^^^ 4294967295 : Nat) : Int) := by
  have h : x ^^^ 4294967295 < 2 ^ 32 := Nat.xor_lt_two_pow hx (by decide)
  have e : IntKind.u32.max = ((4294967295 : Nat) : Int) := by decide
  rw [e, xor_u32 _ _ (by decide) hx, Nat.xor_comm]
  exact IntWalk.wrap64_in _ (by omega)

set_option maxRecDepth 100000 in
set_option maxHeartbeats 1000000 in
theorem sum_any (v : Value) (l : List UInt8) (w : World) (hv : RdB w v l) :
    Calls Try.prog 56 #[v] w fun e w' => e = .returned (.int .i64 (sumL l : Nat)) ∧ w = w' := by
  obtain ⟨a, cap, rfl, hc1, hc2⟩ := hv.form
  unfold maxLen at hc2
  go_enter Try.func56, Try.ntmps56
  go_wp2
  go_loop [3, 8] (fun x i => ∃ k : Nat, k ≤ l.length ∧ i = .int .i64 k ∧ x = .int .u32 (crcL 4294967295 (l.take k) : Nat)) (fun _ i => l.length - (intOf i).toNat)
  case atStart => exact ⟨0, Nat.zero_le _, rfl, rfl⟩
  case round =>
    obtain ⟨k, hk, rfl, rfl⟩ := hrel
    have hlt := crcL_lt (l.take k) 4294967295 (by decide)
    by_cases hkl : k < l.length
    · obtain ⟨b, off, cap', hv', _, _, hbw, hcell⟩ := hv.cells (by intro h; subst h; simp at hkl)
      cases hv'
      have hcell' := hcell k hkl
      have hst := crcL_take 4294967295 l k hkl
      clear hcell
      generalize l.getD k 0 = c at hst hcell'
      generalize crcL 4294967295 (l.take k) = x at *
      have hcb := byte_le c
      have H := Lib.hid hst
      clear hst
      have hxc : x ^^^ c.toNat < 2 ^ 32 := Nat.xor_lt_two_pow hlt (by omega)
      have hX := xor_u32 x c.toNat hlt (by omega)
      unfold crcB at H
      generalize hz : x ^^^ c.toNat = z at *
      have HX := Lib.hid hX
      clear hX hz
      go_wp2
      go_loop [3, 16] (fun y i => ∃ m : Nat, m ≤ 8 ∧ i = .int .i64 m ∧ y = .int .u32 (stN m z : Nat)) (fun _ i => 8 - (intOf i).toNat)
      case atStart => exact ⟨0, Nat.zero_le _, rfl, congrArg (Value.int .u32) HX.out⟩
      case round =>
        obtain ⟨m, hm, rfl, rfl⟩ := hrel
        have hylt := stN_lt m z hxc
        by_cases hm8 : m < 8
        · have hnx : stN (m + 1) z = st1 (stN m z) := stN_add m 1 z
          generalize stN m z = y at *
          have HN := Lib.hid hnx
          clear hnx
          go_wp2
          go_round
          case rel => exact ⟨m + 1, by omega, by go_num, congrArg (Value.int .u32) ((step_mask y hylt).trans (congrArg (fun n : Nat => (n : Int)) HN.out.symm))⟩
          case measure => simp [intOf]; omega
        · obtain rfl : m = 8 := by omega
          generalize stN 8 z = y at *
          go_wp2
          go_round
          case rel => exact ⟨k + 1, by omega, by go_num, congrArg (fun n : Nat => Value.int .u32 (n : Int)) H.out.symm⟩
          case measure => simp [intOf]; omega
    · obtain rfl : k = l.length := by omega
      rw [List.take_length] at *
      have hs : sumL l = crcL 4294967295 l ^^^ 4294967295 := rfl
      have hf := flip_u32 _ hlt
      have hr := hf.trans (congrArg (fun n : Nat => (n : Int)) hs.symm)
      clear hf hs
      generalize crcL 4294967295 l = x at *
      have H := Lib.hid hr
      clear hr
      go_wp2
      go_ret
      exact ⟨congrArg (fun n : Int => Ending.returned (.int .i64 n)) H.out, rfl⟩

/-- .. of the document. -/
theorem xor_poly (y : Nat) (hy : y < 2 ^ 32) : bits .xor .u32 ((y : Int) / 2) 2197175160 = ((y / 2 ^^^ poly : Nat) : Int) := by
  have h2 : (y : Int) / 2 = ((y / 2 : Nat) : Int) := by omega
  rw [h2]
  exact xor_u32 _ poly (by omega) (by decide)

end Go.Proofs.Ytmlijnekidihbaa

/-
  What package cache needs of the language and the library: bytes of noughts behind bytes, bytes.Equal, an array in a struct.
-/
namespace Go.Proofs.Ytmlijnekidihbaa
open Go.RowKit

theorem zeros_cells (m : Nat) : Builtin.zeroCells #[Value.int .u8 0] m = (Lib.strCells (strB (List.replicate m 0))).toArray := by
  apply Array.ext'
  have h1 : Lib.strCells (strB (List.replicate m 0)) = (List.replicate m (0 : UInt8)).map bv := rfl
  rw [h1, List.map_replicate]
  refine List.ext_getElem? fun i => ?_
  simp only [Builtin.zeroCells, Array.toList_map, List.getElem?_map, List.getElem?_replicate]
  by_cases h : i < m
  · simp [h, Nat.mod_one]
  · simp [h]

set_option linter.unusedSimpArgs false in
/-- 'append(s, make([]byte, m)...)' is as an append of so many noughts. -/
theorem run_append_noughts {P : Program} (w : World) (t tn ts ty e : TypeId) (i : TypeInfo) (kq kn : IntKind) (ht : P.underlying t = some (.slice e)) (htn : P.underlying tn = some (.int kn)) (hts : P.underlying ts = some .string) (hi : P.info? e = some i) (hz : i.zero = some (.int .u8 0)) (hs : i.size = 1) (hb : i.bytes = 1)
    (base : Option Addr) (n c m : Nat) (hm : m ≤ 1000000) (hn : n ≤ 1000000) :
    (Builtin.append_ #[t, tn] ty #[.slice base n c, .int kq (m : Int)]).run P w = (Builtin.append_ #[t, ts] ty #[.slice base n c, .string (strB (List.replicate m 0))]).run P w := by
  have hw : IntKind.i64.wrap (m : Int) = m := by rw [IntKind.wrap_i64]; omega
  have hneg : ¬ ((m : Int) < 0) := by omega
  have hmm : ¬ (281474976710656 < (m : Int)) := by omega
  have hsz : (strB (List.replicate m 0)).size = m := by rw [strB_size]; simp
  have hf : ∀ w, (Builtin.firstCells 1 m (.string (strB (List.replicate m 0)))).run P w = .ok (Builtin.zeroCells #[Value.int .u8 0] m) w := by
    intro w
    have := Lib.run_firstCells_string (P := P) w 1 (strB (List.replicate m 0))
    rw [hsz] at this
    rw [this, zeros_cells]
  have hz0 : m = 0 → Builtin.zeroCells #[Value.int .u8 0] m = #[] := by rintro rfl; simp [Builtin.zeroCells]
  have hw0 : IntKind.i64.wrap 0 = 0 := by decide
  have hc : (Value.int IntKind.u8 0).cells = #[Value.int .u8 0] := rfl
  by_cases hroom : n + m ≤ c
  · by_cases h0 : m = 0
    · subst h0
      have hf0 := hf
      simp only [hz0 rfl, List.replicate_zero] at hf0 hsz
      have hr0 : n ≤ c := by omega
      simp [Builtin.append_, run_underlying ht, run_underlying htn, run_underlying hts, sizeOf, typeInfo, zeroValue, hi, hz, hs, hb, asInt, asIntOf, hw0, Builtin.lenOf, hsz, hf0, hr0]
    · simp [Builtin.append_, run_underlying ht, run_underlying htn, run_underlying hts, sizeOf, typeInfo, zeroValue, hi, hz, hs, hb, asInt, asIntOf, hw, hneg, hmm, Builtin.lenOf, hsz, hf, hroom, h0, hc]
  · have h63 : ¬ (9223372036854775807 < ((n : Int) + (m : Int))) := by omega
    have h48 : ¬ (281474976710656 < Builtin.nextslicecap (n + m) c) := by
      have := nextslicecap_le (need := n + m) (old := c) (by omega)
      omega
    by_cases h0 : m = 0
    · subst h0
      have hf0 := hf
      simp only [hz0 rfl, List.replicate_zero] at hf0 hsz
      have hr0 : ¬ n ≤ c := by omega
      have h63' : ¬ (9223372036854775807 < (n : Int)) := by omega
      have h48' : ¬ (281474976710656 < Builtin.nextslicecap n c) := by simpa using h48
      simp [Builtin.append_, run_underlying ht, run_underlying htn, run_underlying hts, sizeOf, typeInfo, zeroValue, hi, hz, hs, hb, asInt, asIntOf, hw0, Builtin.lenOf, hsz, hf0, hr0, h63', h48']
    · simp [Builtin.append_, run_underlying ht, run_underlying htn, run_underlying hts, sizeOf, typeInfo, zeroValue, hi, hz, hs, hb, asInt, asIntOf, hw, hneg, hmm, Builtin.lenOf, hsz, hf, hroom, h63, h48, h0, hc]

/-- At the operation: onto a slice of the call's own. -/
theorem wpList_append_noughts {P : Program} {w : World} {ops : Array Oper} {rest : List Oper} {o : Oper} {a : Act} {Q : Exit → Act → World → Prop}
    (hg : o.guard = none) (s x : Operand) (t tn ts : TypeId) (hop : o.op = Op.call { callee := Callee.builtin Builtin.append, args := #[s, x], argTypes := #[t, tn] })
    (B e : Nat) (kn : IntKind) (h1 : P.underlying t = some (.slice e)) (htn : P.underlying tn = some (.int kn)) (hts : P.underlying ts = some .string) (h2 : (P.info? e).map (fun i => (i.zero, i.size, i.bytes)) = some (some (.int .u8 0), 1, 1))
    (v : Value) (l : List UInt8) (kq : IntKind) (m : Nat) (hs : a.eval s = v) (hx : a.eval x = .int kq (m : Int)) (hown : OwnB w B e v l)
    (hB : B ≤ w.heap.size) (hl : l.length ≤ 1000000) (hm : m ≤ 1000000)
    (hK : ∀ v' w', OwnB w' B e v' (l ++ List.replicate m 0) → (∀ B' u, B' ≤ B → Below B' u w → Below B' u w') → wpList P ops Q rest (a.put o.dst v') w') :
    wpList P ops Q (o :: rest) a w := by
  obtain ⟨i0, hi, hz0, hz1, hz2⟩ := info_parts h2
  obtain ⟨va, vc, hv, _, _⟩ := hown.read.form
  subst hv
  have hsz : (strB (List.replicate m 0)).size = m := by rw [strB_size]; simp
  obtain ⟨v', w', hr, ho, hgr, _⟩ := Lib.run_append_own_string (P := P) w B t ts o.type e i0 h1 hts hi hz0 hz1 hz2 _ l.length (l.map bv) hown (strB (List.replicate m 0)) (by unfold maxLen; omega) (by omega) hB
  rw [← run_append_noughts w t tn ts o.type e i0 kq kn h1 htn hts hi hz0 hz1 hz2 va l.length vc m hm hl] at hr
  refine Lib.wpList_append_run w hg s x t tn hop _ _ hs hx v' w' hr (hK v' w' ?_ ?_)
  · have e2 : Lib.strCells (strB (List.replicate m 0)) = (List.replicate m (0 : UInt8)).map bv := rfl
    unfold OwnB
    rw [List.length_append, List.length_replicate, List.map_append, ← e2]
    rw [hsz] at ho
    exact ho
  · intro B' u hB' hb
    refine hb.grown hgr (by omega) ?_
    intro k hk
    have := (World.ownsRow.lt hown k hk).1
    omega

set_option maxRecDepth 100000 in
theorem cequal_any (w : World) (va vb : Option Addr) (n m ca cb : Nat) (l b : List UInt8) (hl : RdB w (.slice va n ca) l) (hb : RdB w (.slice vb m cb) b) :
    Calls Try.prog 40 #[.slice va n ca, .slice vb m cb] w fun e w' => e = .returned (.bool (decide (l = b))) ∧ Below w.heap.size w w' := by
  have c1 := rdB_convert (P := Try.prog) hl 22 5 9 Try.underlying22 Try.underlying5 Try.underlying9
  have c2 := rdB_convert (P := Try.prog) hb 22 5 9 Try.underlying22 Try.underlying5 Try.underlying9
  clear hl hb
  go_enter Try.func40, Try.ntmps40
  go_wp2
  go_ret
  refine ⟨?_, Below.refl _ _⟩
  by_cases hlb : l = b <;> simp [hlb]
end Go.Proofs.Ytmlijnekidihbaa
