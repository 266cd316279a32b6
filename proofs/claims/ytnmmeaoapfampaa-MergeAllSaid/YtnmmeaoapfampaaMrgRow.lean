/-
  Rows of entries: parts of a slice that is read; a row made; a row cloned.
-/
import Derived.Test.YtnmmeaoapfampaaEntLL
import Derived.Test.YtnmmeaoapfampaaAppKeep
namespace Go.Proofs.Ytnmmeaoapfampaa
open Go.RowKit

theorem entFlat_drop : ∀ (l : List Ent) (m : Nat), (l.drop m).flatMap Ent.cells = (l.flatMap Ent.cells).drop (m * 4)
  | l, 0 => by simp
  | [], m + 1 => by simp
  | o :: r, m + 1 => by
    rw [List.drop_succ_cons, entFlat_drop r m, List.flatMap_cons, show (m + 1) * 4 = o.cells.length + m * 4 from by simp [Ent.cells]; omega, ← List.drop_drop, List.drop_left' rfl]
theorem entFlat_take (l : List Ent) (m : Nat) : (l.take m).flatMap Ent.cells = (l.flatMap Ent.cells).take (m * 4) := by
  rcases Nat.le_total m l.length with h | h
  · have h1 : l.flatMap Ent.cells = (l.take m).flatMap Ent.cells ++ (l.drop m).flatMap Ent.cells := by rw [← List.flatMap_append, List.take_append_drop]
    rw [h1, List.take_left' (by rw [flat_length, List.length_take, Nat.min_eq_left h])]
  · rw [List.take_of_length_le h, List.take_of_length_le (by rw [flat_length]; omega)]
/-- A part of what is read: from 'm' on; the first 'n'. Where a part begins of which nothing is left makes no odds. -/
theorem RdE.from_ {w : World} {b off o' cap c' n' : Nat} {xs : List Ent} (h : RdE w (.slice (some ⟨b, off, none⟩) xs.length cap) xs) (m : Nat) (hm : m ≤ xs.length) (ho : m < xs.length → o' = off + m * 4) (hc : c' = cap - m) (hn : n' = xs.length - m) :
    RdE w (.slice (some ⟨b, o', none⟩) n' c') (xs.drop m) := by
  obtain ⟨⟨a', cap', hv, h1, h2, h0, h3⟩, h6⟩ := h
  cases hv
  refine ⟨⟨_, _, by rw [List.length_drop, hn], by rw [List.length_drop]; omega, by omega, flat_length _, ?_⟩, fun x hx => h6 x (List.mem_of_mem_drop hx)⟩
  by_cases h0' : xs.length - m = 0
  · exact .inl ⟨by rw [List.length_drop]; exact h0', fun e => by cases e⟩
  · rcases h3 with ⟨h3, _⟩ | ⟨b', off', hb, h4, h5⟩
    · omega
    · cases hb
      refine .inr ⟨b, off + m * 4, by rw [ho (by omega)], h4, fun j u hj => ?_⟩
      rw [entFlat_drop, List.getElem?_drop] at hj
      rw [Nat.add_assoc]
      exact h5 _ u hj
theorem RdE.front {w : World} {a : Option Addr} {cap : Nat} {xs : List Ent} (h : RdE w (.slice a xs.length cap) xs) (n : Nat) (hn : n ≤ xs.length) : RdE w (.slice a n cap) (xs.take n) := by
  obtain ⟨⟨a', cap', hv, h1, h2, h0, h3⟩, h6⟩ := h
  cases hv
  have hlen : (xs.take n).length = n := by rw [List.length_take]; omega
  refine ⟨⟨_, _, by rw [hlen], by rw [hlen]; omega, by omega, flat_length _, ?_⟩, fun x hx => h6 x (List.mem_of_mem_take hx)⟩
  rcases h3 with ⟨h3, h4⟩ | ⟨b, off, hb, h4, h5⟩
  · exact .inl ⟨by rw [hlen]; omega, h4⟩
  · refine .inr ⟨b, off, hb, h4, fun j u hj => ?_⟩
    rw [entFlat_take, List.getElem?_take] at hj
    split at hj
    · exact h5 _ u hj
    · cases hj
theorem RdLE.front {w : World} {a : Option Addr} {cap : Nat} {xs : List (List Ent)} (h : RdLE w (.slice a xs.length cap) xs) (n : Nat) (hn : n ≤ xs.length) : RdLE w (.slice a n cap) (xs.take n) := by
  obtain ⟨cs, ⟨a', cap', hv, h1, h2, h0, h3⟩, h6⟩ := h
  cases hv
  have hlen : (xs.take n).length = n := by rw [List.length_take]; omega
  refine ⟨cs.take n, ⟨_, _, by rw [hlen], by rw [hlen]; omega, by omega, by rw [hlen, List.length_take]; omega, ?_⟩, fun i c l hc hl => ?_⟩
  · rcases h3 with ⟨h3, h4⟩ | ⟨b, off, hb, h4, h5⟩
    · exact .inl ⟨by rw [hlen]; omega, h4⟩
    · refine .inr ⟨b, off, hb, h4, fun j u hj => ?_⟩
      rw [List.getElem?_take] at hj
      split at hj
      · exact h5 _ u hj
      · cases hj
  · rw [List.getElem?_take] at hc hl
    split at hc
    · rename_i hi
      rw [if_pos hi] at hl
      exact h6 i c l hc hl
    · cases hc
theorem RdLE.from_ {w : World} {b off o' cap c' n' : Nat} {xs : List (List Ent)} (h : RdLE w (.slice (some ⟨b, off, none⟩) xs.length cap) xs) (m : Nat) (hm : m ≤ xs.length) (ho : m < xs.length → o' = off + m) (hc : c' = cap - m) (hn : n' = xs.length - m) :
    RdLE w (.slice (some ⟨b, o', none⟩) n' c') (xs.drop m) := by
  obtain ⟨cs, ⟨a', cap', hv, h1, h2, h0, h3⟩, h6⟩ := h
  cases hv
  refine ⟨cs.drop m, ⟨_, _, by rw [List.length_drop, hn], by rw [List.length_drop]; omega, by omega, by rw [List.length_drop, List.length_drop, h0, Nat.mul_one, Nat.mul_one], ?_⟩, fun i c l hc hl => ?_⟩
  · by_cases h0' : xs.length - m = 0
    · exact .inl ⟨by rw [List.length_drop]; exact h0', fun e => by cases e⟩
    · rcases h3 with ⟨h3, _⟩ | ⟨b', off', hb, h4, h5⟩
      · omega
      · cases hb
        refine .inr ⟨b, off + m, by rw [ho (by omega)], h4, fun j u hj => ?_⟩
        rw [List.getElem?_drop] at hj
        rw [Nat.add_assoc]
        exact h5 _ u hj
  · rw [List.getElem?_drop] at hc hl
    exact h6 _ c l hc hl

theorem run_make_entries (n : Nat) (hn : n < 1000000) (w : World) : (Instr.makeSlice 25 (.int .i64 0) (.int .i64 (n : Int))).run Try.prog w = .ok (.slice (some ⟨w.heap.size, 0, none⟩) 0 n) (w.alloc (.cells (madeCells #[.string ⟨#[]⟩, .int .i64 0, .int .i64 0, .string ⟨#[]⟩] (n * 4)) 38)) := by
  obtain ⟨i0, hi, hz0, hz1, hz2⟩ := info_parts info_ent
  have h := run_make (P := Try.prog) w 25 38 i0 _ Try.underlying25 hi hz0 .i64 .i64 0 (n : Int) (by omega) (by omega) (by rw [hz2]; omega) (by omega)
  rw [hz1, Int.toNat_natCast] at h
  exact h
theorem eqn_entries (w : World) : (binOp .eql 25 (.slice none 0 0) (.slice none 0 0)).run Try.prog w = .ok (.bool true) w := by kernel_rfl
theorem eqs_entries (ad : Addr) (n cap : Nat) (w : World) : (binOp .eql 25 (.slice (some ad) n cap) (.slice none 0 0)).run Try.prog w = .ok (.bool false) w := by kernel_rfl
set_option maxRecDepth 100000 in
set_option maxHeartbeats 1000000 in
theorem clone_entries (w : World) (v : Value) (es : List Ent) (h : RdE w v es) (hn : es.length ≤ 1000) :
    Calls Try.prog 30 #[v] w fun e w' => ∃ v', e = .returned v' ∧ OwnE w' w.heap.size v' es ∧ Below w.heap.size w w' := by
  have hfit := h.2
  obtain ⟨a, cap, rfl, h1, h2, h3, h4⟩ := h.1
  by_cases hnil : a = none
  · subst hnil
    rcases h4 with ⟨hn0, hc⟩ | ⟨b, off, hb, _⟩
    · obtain rfl := hc rfl
      obtain rfl : es = [] := List.eq_nil_of_length_eq_zero hn0
      have hq := eqn_entries
      go_enter Try.func30, Try.ntmps30
      go_wp2
      go_ret
      exact ⟨_, rfl, World.ownsRow_nil _ _ _ _, Below.refl _ _⟩
    · cases hb
  · obtain ⟨ad, rfl⟩ := Option.ne_none_iff_exists'.1 hnil
    have HRD := Lib.hid (Rd.below h.1 ((Below.refl _ w).alloc (Nat.le_refl _) (.cells #[] 38)) (Nat.le_refl _))
    have HROW : Hid ((w.alloc (.cells #[] 38)).ownsRow w.heap.size 38 4 (.slice (some ⟨w.heap.size, 0, none⟩) 0 0) 0 []) := Lib.hid (World.ownsRow_made w #[] 0 (Nat.le_refl _) (Nat.zero_le _) rfl)
    have hq := eqs_entries ad es.length cap
    clear h h3 h4 hfit
    go_enter Try.func30, Try.ntmps30
    go_wp2_with (at_builtin; refine wpList_append_rd rfl (.tmp 5) (.tmp 6) 25 rfl w.heap.size 38 4 48 (.agg #[.string ⟨#[]⟩, .int .i64 0, .int .i64 0, .string ⟨#[]⟩]) Try.underlying25 info_ent rfl (by decide) (.slice (some ⟨w.heap.size, 0, none⟩) 0 0) _ 0 es.length [] (es.flatMap Ent.cells) rfl rfl HROW.out ?rdA (entFlat_one _) ?bbA ?l1A ?l2A ?kkA)
    case rdA => exact HRD.out
    case bbA => simp
    case l1A => omega
    case l2A => (unfold maxLen; omega)
    case kkA =>
      intro v1 w1 hown hBk
      have HB := Lib.hid (hBk w.heap.size w (Nat.le_refl _) ((Below.refl _ _).alloc (Nat.le_refl _) _))
      have HO := Lib.hid (show OwnE w1 w.heap.size v1 es by simpa [OwnE] using hown)
      clear hown hBk
      go_wp2
      go_ret
      exact ⟨v1, rfl, HO.out, HB.out⟩
end Go.Proofs.Ytnmmeaoapfampaa
