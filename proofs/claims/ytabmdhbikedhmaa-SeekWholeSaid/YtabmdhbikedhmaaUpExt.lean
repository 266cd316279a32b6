/-
  Plain: two lists in order that have the same entries are one.
-/
import Derived.Test.YtabmdhbikedhmaaMemMath
namespace Go.Proofs.Ytabmdhbikedhmaa
open Go.RowKit

theorem up_ext : ∀ {L M : List Ent}, Up L → Up M → (∀ x, x ∈ L ↔ x ∈ M) → L = M
  | [], [], _, _, _ => rfl
  | [], b :: t, _, _, h => by have := (h b).2 (by simp); simp at this
  | a :: r, [], _, _, h => by have := (h a).1 (by simp); simp at this
  | a :: r, b :: t, h1, h2, h => by
    have h1' := List.pairwise_cons.1 h1
    have h2' := List.pairwise_cons.1 h2
    have hab : a = b := by
      refine Classical.byContradiction fun hne => ?_
      have ha : a ∈ t := by
        rcases List.mem_cons.1 ((h a).1 (by simp)) with e | e
        · exact absurd e hne
        · exact e
      have hb : b ∈ r := by
        rcases List.mem_cons.1 ((h b).2 (by simp)) with e | e
        · exact absurd e.symm hne
        · exact e
      have c1 := h1'.1 b hb
      have c2 := h2'.1 a ha
      rw [cmp_back a b] at c2
      omega
    subst hab
    congr 1
    refine up_ext h1'.2 h2'.2 fun x => ?_
    constructor
    · intro hx
      rcases List.mem_cons.1 ((h x).1 (by simp [hx])) with e | e
      · have := h1'.1 x hx
        rw [e, cmp_self] at this; omega
      · exact e
    · intro hx
      rcases List.mem_cons.1 ((h x).2 (by simp [hx])) with e | e
      · have := h2'.1 x hx
        rw [e, cmp_self] at this; omega
      · exact e
end Go.Proofs.Ytabmdhbikedhmaa
