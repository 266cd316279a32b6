/-
  Entries that are taken up one after another: plain facts.
-/
import Derived.Test.YtnmmeaoapfampaaMemMath
import Derived.Test.YtnmmeaoapfampaaKeyGood
namespace Go.Proofs.Ytnmmeaoapfampaa
open Go.RowKit

/-- The entries that are taken up, one after another. -/
def build (xs : List Ent) : List Ent := xs.foldl (fun acc e => addL e acc) []
theorem build_snoc (xs : List Ent) (e : Ent) : build (xs ++ [e]) = addL e (build xs) := by unfold build; rw [List.foldl_append]; rfl
theorem build_take {xs : List Ent} {k : Nat} (hk : k < xs.length) : build (xs.take (k + 1)) = addL (xs.getD k Ent.none_) (build (xs.take k)) := by
  rw [List.take_succ_eq_append_getElem hk, build_snoc]
  simp [List.getD, hk]
theorem build_len (xs : List Ent) : (build xs).length ≤ xs.length := by
  have key : ∀ (ys acc : List Ent), (ys.foldl (fun acc e => addL e acc) acc).length ≤ acc.length + ys.length := by
    intro ys
    induction ys with
    | nil => intro acc; simp
    | cons y r ih =>
      intro acc
      have h1 := ih (addL y acc)
      have h2 := addL_len y acc
      rw [List.foldl_cons, List.length_cons]
      omega
  have := key xs []
  unfold build
  simpa using this

theorem build_up (xs : List Ent) : Up (build xs) := by
  have key : ∀ (ys acc : List Ent), Up acc → Up (ys.foldl (fun acc e => addL e acc) acc) := by
    intro ys
    induction ys with
    | nil => intro acc h; exact h
    | cons y r ih => intro acc h; exact ih _ (addL_up h)
  exact key xs [] List.Pairwise.nil

theorem rising_up {L : List Ent} (hu : Up L) (hm : ∀ x ∈ L, x.may = true) : risingB L = true := by
  refine (rising_yes fun j hj => ?_).symm
  have e1 : L.getD j Ent.none_ = L[j] := by simp [List.getD, hj]
  cases j with
  | zero => exact goodAt_zero e1 (hm _ (List.getElem_mem _))
  | succ j =>
    have e2 : L.getD j Ent.none_ = L[j] := by simp [List.getD, Nat.lt_of_succ_lt hj]
    rw [goodAt_next e1 e2 (hm _ (List.getElem_mem _)), decide_eq_true_eq]
    exact (List.pairwise_iff_getElem.1 hu) j (j + 1) (by omega) hj (by omega)
end Go.Proofs.Ytnmmeaoapfampaa
