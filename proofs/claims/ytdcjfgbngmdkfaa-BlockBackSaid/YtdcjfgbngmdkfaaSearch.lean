/-
  sort.Search: of any question that a closure answers.
-/
import Derived.Test.YtdcjfgbngmdkfaaRegion
import Derived.Test.YtdcjfgbngmdkfaaKept
import Derived.Test.YtdcjfgbngmdkfaaCells
import Derived.Test.YtdcjfgbngmdkfaaOwnEnt
import Derived.Shelf.Abstract
namespace Go.Proofs.Ytdcjfgbngmdkfaa
open Go.RowKit

set_option maxRecDepth 100000 in
set_option maxHeartbeats 400000 in
theorem search_any (n : Nat) (hn : n ≤ 1000000000) (p : Nat → Bool) (k : Nat) (caps : Array Value) (hen : Enters Try.prog k) (w : World)
    (hf : ∀ (i : Nat) wz, i < n → Below w.heap.size w wz → Calls Try.prog k (#[.int .i64 (i : Int)] ++ caps) wz fun e w' => e = .returned (.bool (p i)) ∧ Below wz.heap.size wz w') :
    Calls Try.prog 47 #[.int .i64 (n : Int), .func (.func k) #[] caps] w fun e w' => ∃ m : Nat, m ≤ n ∧ e = .returned (.int .i64 (m : Int)) ∧ (0 < m → p (m - 1) = false) ∧ (m < n → p m = true) ∧ Below w.heap.size w w' := by
  have HF := Lib.hid hf
  unfold Enters at hen
  clear hf
  go_enter Try.func47, Try.ntmps47
  go_wp2
  go_loopw [5, 6] (fun x y wr => ∃ i j : Nat, i ≤ j ∧ j ≤ n ∧ x = .int .i64 (i : Int) ∧ y = .int .i64 (j : Int) ∧ Hid (0 < i → p (i - 1) = false) ∧ Hid (j < n → p j = true) ∧ Hid (Below w.heap.size w wr)) (fun x y _ => (intOf y).toNat - (intOf x).toNat)
  case atStart => exact ⟨0, n, Nat.zero_le _, Nat.le_refl _, rfl, rfl, Lib.hid (fun h => by omega), Lib.hid (fun h => by omega), Lib.hid (Below.refl _ _)⟩
  case round =>
    obtain ⟨i, j, hij, hjn, rfl, rfl, HI, HJ, HB⟩ := hrel
    by_cases hlt : i < j
    · obtain ⟨h, hh⟩ : ∃ h : Nat, h = (i + j) / 2 := ⟨_, rfl⟩
      have h1 : i ≤ h := by omega
      have h2 : h < j := by omega
      have hin : h < n := by omega
      have HFH := HF.out h wr hin HB.out
      rw [show (h : Int) = ((i : Int) + (j : Int)) / 2 by omega] at HFH
      replace HFH := Lib.hid HFH
      cases hp : p h with
      | false =>
        rw [hp] at HFH
        have HP := Lib.hid hp
        clear hp
        go_wp2_with (go_at_fn k; (refine HFH.out.mono ?_); rintro e w' ⟨rfl, hb⟩; have HBN := Lib.hid hb; clear hb)
        refine ⟨⟨h + 1, j, h2, hjn, by go_num, rfl, Lib.hid (fun _ => HP.out), HJ, Lib.hid (HB.out.trans (HBN.out.mono HB.out.size))⟩, by simp [intOf]; omega⟩
      | true =>
        rw [hp] at HFH
        have HP := Lib.hid hp
        clear hp
        go_wp2_with (go_at_fn k; (refine HFH.out.mono ?_); rintro e w' ⟨rfl, hb⟩; have HBN := Lib.hid hb; clear hb)
        refine ⟨⟨i, h, h1, by omega, rfl, congrArg (Value.int .i64) (by omega), HI, Lib.hid (fun _ => HP.out), Lib.hid (HB.out.trans (HBN.out.mono HB.out.size))⟩, by simp [intOf]; omega⟩
    · have : i = j := by omega
      subst this
      go_wp2
      go_ret
      exact ⟨i, hjn, rfl, HI.out, HJ.out, HB.out⟩
end Go.Proofs.Ytdcjfgbngmdkfaa
