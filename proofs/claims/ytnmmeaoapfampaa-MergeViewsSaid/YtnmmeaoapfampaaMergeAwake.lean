/-
  What the statements of chapter 15 ask besides: the document's example.
-/
import Derived.Test.YtnmmeaoapfampaaMergeC
namespace Go.Proofs.Ytnmmeaoapfampaa
open Go.RowKit

/-- A slice of one slice that was just laid. -/
theorem one_le {w : World} {v : Value} {es : List Ent} (h : RdE w v es) : RdLE (w.alloc (.cells #[v] 25)) (.slice (some ⟨w.heap.size, 0, none⟩) 1 1) [es] := by
  refine ⟨[v], ⟨_, 1, rfl, Nat.le_refl _, by unfold maxLen; simp, rfl, .inr ⟨w.heap.size, 0, rfl, by simp, fun j u hj => ?_⟩⟩, fun i c l hc hl => ?_⟩
  · rw [Nat.zero_add, cell_of_row _ w.heap.size j _ 25 (0, 0) (heap_alloc_new w _)]
    simpa using hj
  · match i with
    | 0 =>
      simp at hc hl
      subst hc hl
      exact h.below ((Below.refl _ _).alloc (Nat.le_refl _) _) (Nat.le_refl _)
    | i + 1 => simp at hc
def goneE : Ent := ⟨⟨#[97]⟩, 1, 2, ⟨#[]⟩⟩
theorem gone_view : viewV [goneE] 5 ⟨#[]⟩ ⟨#[]⟩ false 9 = [] := by decide
theorem gone_merge : mergeE [[goneE]] = [goneE] := rfl

set_option maxRecDepth 100000 in
set_option maxHeartbeats 600000 in
theorem awake15_any (hm : MergeC) (hv : ViewC) (w : World) : Calls Try.prog 10 #[] w fun e w' => e = .returned (.bool true) ∧ Below w.heap.size w w' := by
  have HM := Lib.hid hm
  have HV := Lib.hid hv
  have HE : Hid (RdE (w.alloc (.cells #[.string ⟨#[97]⟩, .int .i64 1, .int .i64 2, .string ⟨#[]⟩] 38)) (.slice (some ⟨w.heap.size, 0, none⟩) 1 1) [goneE]) := Lib.hid ⟨one_entry w goneE, fun e he => by
    obtain rfl := List.mem_singleton.1 he
    exact ⟨by decide, by decide, by decide, by decide⟩⟩
  have HS : Hid (SmallE [goneE]) := Lib.hid ⟨by simp, fun e he => by
    obtain rfl := List.mem_singleton.1 he
    exact ⟨by decide, by decide⟩⟩
  have HU : Hid (Up [goneE]) := Lib.hid (List.pairwise_singleton _ _)
  have HGV := Lib.hid gone_view
  have HGM := Lib.hid gone_merge
  have HW1 := Lib.hid (show Below w.heap.size w (w.alloc (.cells #[.string ⟨#[97]⟩, .int .i64 1, .int .i64 2, .string ⟨#[]⟩] 38)) from (Below.refl _ _).alloc (Nat.le_refl _) _)
  clear hm hv
  go_enter Try.func10, Try.ntmps10
  go_wp2_with (first | (go_at_call 17; (refine (HV.out _ [goneE] 5 ⟨#[]⟩ ⟨#[]⟩ false 9 _ HE.out HS.out HU.out (by decide) (by decide) (by decide) (by decide)).mono ?_); rintro e w2 ⟨x, rfl, ho, hb⟩; rw [HGV.out] at ho; obtain ⟨a2, c2, rfl, _, _⟩ := ho.form; have HE2 := Lib.hid (HE.out.below hb (Nat.le_refl _)); have HB2 := Lib.hid (belowT HW1.out hb); clear ho hb) | (go_at_call 13; (refine (HM.out _ [[goneE]] _ (one_le HE2.out) (by simp) HS.out).mono ?_); rintro e w3 ⟨x, rfl, ho, hb⟩; rw [HGM.out] at ho; obtain ⟨a3, c3, rfl, _, _⟩ := ho.form; have HB3 := Lib.hid (belowT (HB2.out.alloc HB2.out.size (.cells #[.slice (some ⟨w.heap.size, 0, none⟩) 1 1] 25)) hb); clear ho hb))
  go_ret
  exact ⟨rfl, HB3.out⟩
end Go.Proofs.Ytnmmeaoapfampaa
