/-
  Chapter 12, the statements' example.
-/
import Derived.Test.YtdcjfgbngmdkfaaBlkC
import Derived.Test.YtdcjfgbngmdkfaaBlkMake
namespace Go.Proofs.Ytdcjfgbngmdkfaa
open Go.RowKit

/-- A row of bytes that was just laid. -/
theorem rdB_row (w : World) (l : List UInt8) (hl : l.length ≤ 1000) : RdB (w.alloc (.cells (l.map bv).toArray 5)) (.slice (some ⟨w.heap.size, 0, none⟩) l.length l.length) l := by
  refine ⟨_, l.length, rfl, Nat.le_refl _, by unfold maxLen; omega, by simp, .inr ⟨w.heap.size, 0, rfl, by simp, fun j u hj => ?_⟩⟩
  rw [Nat.zero_add, cell_of_row _ w.heap.size j _ 5 (0, 0) (heap_alloc_new w _)]
  simpa using hj

theorem may_small {es : List Ent} (h : ∀ e ∈ es, e.may = true) (hl : es.length ≤ 1000) : SmallE es :=
  ⟨hl, fun e he => by have := may_kind (h e he); omega⟩
theorem putErr_mk {ns : List UInt8} (sp : Nat) (h : ns ≠ []) (hl : ns.length ≤ 64) : putErr (mkB ns sp) = 0 := by
  have h1 := rising_up (mkB_up ns sp) (mkB_may ns sp)
  have h2 := mkB_ne sp h (by omega)
  have h3 := mkB_len ns sp
  unfold putErr
  rw [if_neg (by rw [h1]; simpa using h2), if_neg (by omega)]
theorem blockL_pos (es : List Ent) : 2 ≤ (blockL es).length := by rw [blockL_len]; omega

theorem blockL_small {es : List Ent} (h : putErr es = 0) : (blockL es).length ≤ 1000000 := by
  obtain ⟨h1, _, h3⟩ := putErr_ok h
  have := bodyN_len (fun k hk => rising_may h1 hk) es.length (Nat.le_refl _)
  rw [blockL_len]
  omega

theorem mk_fits (ns : List UInt8) (sp : Nat) : ∀ e ∈ mkB ns sp, e.fits := fun e he => Ent.may_fits (mkB_may ns sp e he)

set_option maxRecDepth 100000 in
set_option maxHeartbeats 1000000 in
theorem awake12_any (HP : PutC) (w : World) : Calls Try.prog 8 #[] w fun e w' => e = .returned (.bool true) ∧ Below w.heap.size w w' := by
  have HP1 : Hid (∀ w, Calls Try.prog 9 #[.slice none 0 0] w fun e w' => ∃ x, e = .returned (.tuple #[x, .int .i64 1]) ∧ Below w.heap.size w w') := Lib.hid fun w => by
    refine (HP (.slice none 0 0) [] w (⟨rd_of_own (World.ownsRow_nil w 0 36 4), fun e h => by cases h⟩) ⟨by simp, fun e h => by cases h⟩).mono ?_
    rintro e w' ⟨x, rfl, _, h⟩
    exact ⟨x, rfl, h⟩
  have HE0 := Lib.hid (putErr_mk (ns := [1, 2, 3]) 0 (by simp) (by simp))
  have HMK := Lib.hid (fun v w hv => make12_any v [1, 2, 3] 0 (by omega) w hv (by simp))
  have HSM := Lib.hid (may_small (mkB_may [1, 2, 3] 0) (by have := mkB_len [1, 2, 3] 0; simp at this; omega))
  have HFT := Lib.hid (mk_fits [1, 2, 3] 0)
  generalize mkB [1, 2, 3] 0 = L at *
  have HP2 : Hid (∀ v w, OwnE w 0 v L → Calls Try.prog 9 #[v] w fun e w' => ∃ a c, e = .returned (.tuple #[.slice a (blockL L).length c, .int .i64 0]) ∧ Below w.heap.size w w') := Lib.hid fun v w ho => by
    refine (HP v L w (ho.read HFT.out) HSM.out).mono ?_
    rintro e w' ⟨x, rfl, ho, h⟩
    rw [HE0.out, if_pos rfl] at ho
    obtain ⟨a, c, rfl, _, _⟩ := ho.read.form
    exact ⟨a, c, by rw [HE0.out], h⟩
  have hbl := blockL_pos L
  obtain ⟨bl, hbe⟩ : ∃ bl, (blockL L).length = bl := ⟨_, rfl⟩
  rw [hbe] at HP2 hbl
  have hgt : decide (0 < bl) = true := by simp; omega
  clear hbe hbl
  go_enter Try.func8, Try.ntmps8
  go_wp2_with (first | (go_at_call 9; first | ((with_reducible refine (HP1.out _).mono ?_); rintro e w1 ⟨x1, rfl, hb1⟩) | ((refine (HP2.out _ _ HO3.out).mono ?_); rintro e w4 ⟨a4, c4, rfl, hb4⟩)) | (go_at_call 17; (refine (HMK.out _ _ (rdB_row w1 [1, 2, 3] (by simp))).mono ?_); rintro e w3 ⟨x3, rfl, ho3, hb3⟩; have HO3 := Lib.hid (own_base (B' := 0) ho3 fun _ _ => Nat.zero_le _)) | (go_at_call 15; (refine (num12_any _ _).mono ?_); rintro e w5 ⟨rfl, rfl⟩))
  go_ret
  exact ⟨rfl, belowT (belowT (belowT hb1 ((Below.refl _ _).alloc (Nat.le_refl _) _)) hb3) hb4⟩
end Go.Proofs.Ytdcjfgbngmdkfaa
