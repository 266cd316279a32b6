/-
  How far a list of entries rises: plain facts.
-/
import Derived.Test.YtnmmeaoapfampaaEnt
namespace Go.Proofs.Ytnmmeaoapfampaa

theorem goodAt_no {es : List Ent} {j : Nat} {e : Ent} (he : es.getD j Ent.none_ = e) (h : e.may = false) : goodAt es j = false := by unfold goodAt; rw [he, h]; rfl
theorem goodAt_zero {es : List Ent} {e : Ent} (he : es.getD 0 Ent.none_ = e) (h : e.may = true) : goodAt es 0 = true := by unfold goodAt; rw [he, h]; rfl
theorem goodAt_next {es : List Ent} {m : Nat} {e d : Ent} (he : es.getD (m + 1) Ent.none_ = e) (hd : es.getD m Ent.none_ = d) (h : e.may = true) : goodAt es (m + 1) = decide (d.cmp e < 0) := by
  unfold goodAt; rw [he, h, Nat.add_sub_cancel, hd]; simp
theorem good_more {es : List Ent} {k : Nat} (h : ∀ j, j < k → goodAt es j = true) (h' : goodAt es k = true) : ∀ j, j < k + 1 → goodAt es j = true := by
  intro j hj
  rcases Nat.lt_or_ge j k with h1 | h1
  · exact h j h1
  · have : j = k := by omega
    subst this
    exact h'

end Go.Proofs.Ytnmmeaoapfampaa
