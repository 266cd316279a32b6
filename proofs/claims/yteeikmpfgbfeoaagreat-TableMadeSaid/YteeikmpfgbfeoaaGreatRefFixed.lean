/-
  What the document's answer for layer 1 does: numbers of so many bytes.
-/
import Derived.Test.YteeikmpfgbfeoaaGreatWords
import Derived.Test.YteeikmpfgbfeoaaGreatFixed
namespace Go.Proofs.YteeikmpfgbfeoaaGreat
open Go.RowKit

theorem fix_byte_u (n : Int) (j : Nat) (hj : j ≤ 7) : n % 18446744073709551616 / 256 ^ j % 256 = ((fixB n j).toNat : Int) := by
  rw [fixB, byte_of]
  have : j = 0 ∨ j = 1 ∨ j = 2 ∨ j = 3 ∨ j = 4 ∨ j = 5 ∨ j = 6 ∨ j = 7 := by omega
  rcases this with rfl | rfl | rfl | rfl | rfl | rfl | rfl | rfl <;> omega

theorem set_drop (l : List UInt8) (k : Nat) (c : UInt8) (h : k < l.length) : (l.set k c).drop k = c :: l.drop (k + 1) := by
  rw [List.drop_eq_getElem_cons (by rw [List.length_set]; exact h), List.getElem_set_self, List.drop_set_of_lt (by omega)]

set_option maxRecDepth 100000 in
theorem rfixed_yes (n : Int) (s : Nat) (hs : 1 ≤ s ∧ s ≤ 8) (w : World) :
    Calls Tryz.prog 60 #[.int .i64 n, .int .i64 s] w (RetB w.heap.size w (fixL n s)) := by
  obtain ⟨h1, h8⟩ := hs
  have g1 : ¬ (s : Int) < 1 := by omega
  have g2 : ¬ (8 : Int) < (s : Int) := by omega
  go_enter Tryz.func60, Tryz.ntmps60
  go_wp2_with (at_make; refine wpList_make_bytes rfl _ _ 24 rfl 5 Tryz.underlying24 info_u8 _ _ s rfl rfl ?hn ?_)
  case hn => omega
  intro w0 hown0 hb0
  have HO := Lib.hid hown0
  clear hown0
  go_wp2
  go_loopw [6, 7] (fun u i wr => ∃ (k : Nat) (l : List UInt8), k ≤ s ∧ i = .int .i64 ((k : Int) - 1) ∧ u = .int .u64 (n % 18446744073709551616 / 256 ^ (s - k)) ∧
      Hid (OwnB wr w.heap.size 5 (.slice (some ⟨w.heap.size, 0, none⟩) s s) l ∧ l.length = s ∧ l.drop k = fixL n (s - k)) ∧ Below w.heap.size w wr)
    (fun _ i _ => ((intOf i) + 1).toNat)
  case atStart =>
    exact ⟨s, _, Nat.le_refl _, rfl, by rw [Nat.sub_self]; simp [IntKind.wrap_u64], Lib.hid ⟨HO.out, by simp, by rw [Nat.sub_self, List.drop_eq_nil_of_le (by simp)]; rfl⟩, hb0⟩
  case round =>
    obtain ⟨k, l, hk, rfl, rfl, hl, hb⟩ := hrel
    match k, hk, hl with
    | 0, hk, hl =>
      go_wp2
      go_ret
      obtain ⟨o1, o2, o3⟩ := hl.out
      rw [List.drop_zero, Nat.sub_zero] at o3
      exact ⟨_, rfl, o3 ▸ o1, hb⟩
    | j + 1, hk, hl =>
      rw [show (((j + 1 : Nat) : Int) - 1) = (j : Int) from by omega]
      obtain ⟨o1, o2, o3⟩ := hl.out
      have hc := o1.cellAt j (by omega)
      have hf := o1.frozenAt j
      have hx := fix_byte_u n (s - (j + 1)) (by omega)
      have o4 := o1.stored j (fixB n (s - (j + 1)))
      have o5 : (l.set j (fixB n (s - (j + 1)))).length = s := by rw [List.length_set, o2]
      have o6 : (l.set j (fixB n (s - (j + 1)))).drop j = fixL n (s - j) := by
        rw [set_drop l j _ (by omega), o3, show s - j = s - (j + 1) + 1 from by omega, fixL]
      generalize l.getD j 0 = c at hc
      have HX := Lib.hid hx
      have HN := Lib.hid (And.intro o4 (And.intro o5 o6))
      clear o1 o2 o3 o4 o5 o6 hx hl
      have hu : n % 18446744073709551616 / 256 ^ (s - (j + 1)) / 256 = n % 18446744073709551616 / 256 ^ (s - j) := by
        rw [show s - j = s - (j + 1) + 1 from by omega, Int.pow_succ, Int.ediv_ediv_of_nonneg (Int.pow_nonneg (by omega))]
      have HU := Lib.hid hu
      clear hu
      go_wp2
      rw [HX.out]
      go_roundw
      case rel => exact ⟨j, _, by omega, rfl, congrArg (Value.int .u64) HU.out, HN, hb.setCell (Nat.le_refl _) _⟩
      case measure => simp [intOf]
end Go.Proofs.YteeikmpfgbfeoaaGreat
