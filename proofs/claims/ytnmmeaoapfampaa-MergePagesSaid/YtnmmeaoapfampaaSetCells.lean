/-
  Many stores side by side into one row of memory.
-/
import Derived.Test.YtnmmeaoapfampaaKept
import Derived.Test.YtnmmeaoapfampaaCells
namespace Go.Proofs.Ytnmmeaoapfampaa
open Go.RowKit

/-- Many stores side by side into one row. -/
theorem setCells_row {g : Nat} {e : TypeId} : ∀ (vs : List Value) (o : Nat) (w : World) (cur : Array Value), w.heap[g]? = some (.cells cur e (0, 0)) →
    ∃ cur', (w.setCells g o vs).heap[g]? = some (.cells cur' e (0, 0)) ∧ cur'.size = cur.size ∧ ∀ j, j < cur.size → cur'[j]? = if o ≤ j ∧ j < o + vs.length then vs[j - o]? else cur[j]?
  | [], o, w, cur, h => ⟨cur, h, rfl, fun j _ => by rw [if_neg (by simp)]⟩
  | v :: r, o, w, cur, h => by
    obtain ⟨cur', h1, h2, h3⟩ := setCells_row r (o + 1) (w.setCell ⟨g, o, none⟩ v) _ (blk_set h v)
    refine ⟨cur', h1, by rw [h2]; simp, fun j hj => ?_⟩
    rw [h3 j (by simpa using hj)]
    by_cases hjo : j = o
    · subst hjo
      rw [if_neg (by omega), if_pos (by simp)]
      simp [hj]
    · by_cases hr : o + 1 ≤ j ∧ j < o + 1 + r.length
      · rw [if_pos hr, if_pos (by simp only [List.length_cons]; omega)]
        obtain ⟨d, hd⟩ : ∃ d, j - o = d + 1 := ⟨j - o - 1, by omega⟩
        rw [hd, List.getElem?_cons_succ, show j - (o + 1) = d by omega]
      · rw [if_neg hr, if_neg (by simp only [List.length_cons]; omega)]
        rw [Array.getElem?_setIfInBounds_ne (by omega)]
theorem kept_setCells {R : Nat → Prop} {a : World} {g : Nat} (hg : ¬ R g) : ∀ (vs : List Value) (o : Nat) (w : World), Kept R a w → Kept R a (w.setCells g o vs)
  | [], _, _, h => h
  | v :: r, o, _, h => kept_setCells hg r (o + 1) _ (h.setCell (p := ⟨g, o, none⟩) hg v)
end Go.Proofs.Ytnmmeaoapfampaa
