/-
  The document's Texts and SameFiles, of two lists that are one.
-/
import Derived.Test.YtljjgpjaleekdaaGreatDoorRefFar7
import Derived.Deep.QuietTactic
import Derived.BigQuiet
namespace Go.Proofs.YtljjgpjaleekdaaGreatDoor
open Go.RowKit

set_option maxRecDepth 100000 in
set_option maxHeartbeats 4000000 in
set_option linter.unusedSimpArgs false in
/-- Texts of one list, told twice. -/
theorem texts_any (w : World) (va vb : Value) (l : List (List UInt8)) (hl : l.length < 1000000) (ha : Rd w 1 va l.length (l.map fun n => .string (strB n))) (hb : Rd w 1 vb l.length (l.map fun n => .string (strB n))) :
    Calls Tryz.prog 25 #[va, vb] w fun e w' => e = .returned (.bool true) ∧ Below w.heap.size w w' := by
  have HA0 := Lib.hid ha
  have HB0 := Lib.hid hb
  obtain ⟨aa, ca, rfl, a1, a2, _, a4⟩ := ha
  obtain ⟨ab, cb, rfl, b1, b2, _, b4⟩ := hb
  have HA := Lib.hid a4
  have HB := Lib.hid b4
  have hne : ∀ (w : World) (t : ByteArray), (binOp .neq 9 (.string t) (.string t)).run Tryz.prog w = .ok (.bool false) w := fun w t => by simp [binOp, Op.stringOp]; try rfl
  clear a4 b4
  go_enter Tryz.func25, Tryz.ntmps25
  go_wp2
  go_loopw [5] (fun i wr => ∃ k : Nat, k ≤ l.length ∧ i = .int .i64 k ∧ Below w.heap.size w wr) (fun i _ => l.length - (intOf i).toNat)
  case atStart => exact ⟨0, Nat.zero_le _, rfl, Below.refl _ _⟩
  case round =>
    obtain ⟨k, hk, rfl, hbl⟩ := hrel
    have HBL := Lib.hid hbl
    clear hbl
    by_cases hlt : k < l.length
    · obtain ⟨x, hx⟩ : ∃ x, l[k]? = some x := ⟨_, List.getElem?_eq_getElem hlt⟩
      rcases HA.out with ⟨h0, _⟩ | ⟨ba, oa, rfl, hba, hca⟩
      · omega
      · rcases HB.out with ⟨h0, _⟩ | ⟨bb, ob, rfl, hbb, hcb⟩
        · omega
        · have e1 := (HBL.out.cell (p := ⟨ba, oa + k, none⟩) hba).trans (hca k (.string (strB x)) (by simp [hx]))
          have e2 := (HBL.out.cell (p := ⟨bb, ob + k, none⟩) hbb).trans (hcb k (.string (strB x)) (by simp [hx]))
          clear hca hcb hx
          go_wp2
          go_quiet (fail)
          go_wp2
          go_roundw
          case rel => exact ⟨k + 1, by omega, by go_num, below_drewN HBL.out _⟩
          case measure => simp [intOf]; omega
    · go_wp2
      go_ret
      exact ⟨rfl, HBL.out⟩

set_option maxRecDepth 100000 in
set_option maxHeartbeats 4000000 in
set_option linter.unusedSimpArgs false in
/-- SameFiles of one list, told twice. -/
theorem same_any (w : World) (va vb : Value) (l : List (List UInt8 × List UInt8)) (hl : l.length < 1000000) (ha : Rd w 3 va l.length (fileCells l)) (hb : Rd w 3 vb l.length (fileCells l)) :
    Calls Tryz.prog 7 #[va, vb] w fun e w' => e = .returned (.bool true) ∧ Below w.heap.size w w' := by
  have HA0 := Lib.hid ha
  have HB0 := Lib.hid hb
  obtain ⟨aa, ca, rfl, a1, a2, _, a4⟩ := ha
  obtain ⟨ab, cb, rfl, b1, b2, _, b4⟩ := hb
  have HA := Lib.hid a4
  have HB := Lib.hid b4
  clear a4 b4
  go_enter Tryz.func7, Tryz.ntmps7
  go_wp2
  go_loopw [5] (fun i wr => ∃ k : Nat, k ≤ l.length ∧ i = .int .i64 k ∧ Below w.heap.size w wr) (fun i _ => l.length - (intOf i).toNat)
  case atStart => exact ⟨0, Nat.zero_le _, rfl, Below.refl _ _⟩
  case round =>
    obtain ⟨k, hk, rfl, hbl⟩ := hrel
    have HBL := Lib.hid hbl
    clear hbl
    by_cases hlt : k < l.length
    · obtain ⟨x, hx⟩ : ∃ x, l[k]? = some x := ⟨_, List.getElem?_eq_getElem hlt⟩
      rcases HA.out with ⟨h0, _⟩ | ⟨ba, oa, rfl, hba, hca⟩
      · omega
      · rcases HB.out with ⟨h0, _⟩ | ⟨bb, ob, rfl, hbb, hcb⟩
        · omega
        · obtain ⟨_, _, hqa, da0, da1, da2, _⟩ := rd_file HA0.out hx; cases hqa
          have ea0 := (HBL.out.cell (p := ⟨ba, oa + k * 3, none⟩) hba).trans da0
          have ea1 := (HBL.out.cell (p := ⟨ba, oa + k * 3 + 1, none⟩) hba).trans da1
          have ea2 := (HBL.out.cell (p := ⟨ba, oa + k * 3 + 2, none⟩) hba).trans da2
          clear da0 da1 da2
          obtain ⟨_, _, hqb, db0, db1, db2, _⟩ := rd_file HB0.out hx; cases hqb
          have eb0 := (HBL.out.cell (p := ⟨bb, ob + k * 3, none⟩) hbb).trans db0
          have eb1 := (HBL.out.cell (p := ⟨bb, ob + k * 3 + 1, none⟩) hbb).trans db1
          have eb2 := (HBL.out.cell (p := ⟨bb, ob + k * 3 + 2, none⟩) hbb).trans db2
          clear db0 db1 db2
          clear hca hcb hx
          go_wp2
          go_quiet (fail)
          go_wp2
          go_roundw
          case rel => exact ⟨k + 1, by omega, by go_num, below_drewN HBL.out _⟩
          case measure => simp [intOf]; omega
    · go_wp2
      go_ret
      exact ⟨rfl, HBL.out⟩
end Go.Proofs.YtljjgpjaleekdaaGreatDoor
