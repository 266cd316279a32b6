/-
  What the document's SameBatch does, for every two batches.
-/
import Derived.Test.YtmcdkdoickbnlaaBatchGet
namespace Go.Proofs.Ytmcdkdoickbnlaa
open Go.RowKit

set_option maxRecDepth 100000 in
set_option maxHeartbeats 1000000 in
theorem rsameB_any (s1 s2 : Int) (v1 v2 : Value) (l1 l2 : List Ope) (w : World) (h1 : RdO w v1 l1) (h2 : RdO w v2 l2) :
    Calls Try.prog 19 #[batV s1 v1, batV s2 v2] w fun e w' => e = .returned (.bool (s1 == s2 && sameL l1 l2)) ∧ Below w.heap.size w w' := by
  obtain ⟨a1, c1, rfl, _, _⟩ := h1.form
  obtain ⟨a2, c2, rfl, _, _⟩ := h2.form
  have hb : Below w.heap.size w ((w.alloc (.cells #[.int .i64 s1, .slice a1 l1.length c1] 24)).alloc (.cells #[.int .i64 s2, .slice a2 l2.length c2] 24)) := ((Below.refl _ _).alloc (Nat.le_refl _) _).alloc (by simp) _
  have hs := rsame_any _ _ l1 l2 _ (h1.below hb (Nat.le_refl _)) (h2.below hb (Nat.le_refl _))
  have HS := Lib.hid hs
  have HB := Lib.hid hb
  clear hs hb h1 h2
  by_cases he : s1 = s2
  · subst he
    have h3 : (s1 == s1) = true := by simp
    rw [h3]
    clear h3
    go_enter Try.func19, Try.ntmps19
    go_wp2_with (go_at_call 15; refine HS.out.mono ?_; rintro e w3 ⟨rfl, hb3⟩; have HB3 := Lib.hid (HB.out.trans (hb3.mono (by simp; omega))); clear hb3)
    go_ret
    exact ⟨by simp, HB3.out⟩
  · have h3 : (s1 == s2) = false := by simpa using he
    rw [h3]
    clear he
    go_enter Try.func19, Try.ntmps19
    go_wp2
    go_ret
    exact ⟨by simp, HB.out⟩
end Go.Proofs.Ytmcdkdoickbnlaa
