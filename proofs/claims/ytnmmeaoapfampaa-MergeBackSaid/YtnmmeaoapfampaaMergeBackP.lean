/-
  The walk of MergeBack.
-/
import Derived.Test.YtnmmeaoapfampaaMergeAwake
import Derived.Test.YtnmmeaoapfampaaMergeRView
import Derived.Test.YtnmmeaoapfampaaMergeRMerge
import Derived.Test.YtnmmeaoapfampaaShift
import Derived.Deep.Cut
namespace Go.Proofs.Ytnmmeaoapfampaa
open Go.RowKit

theorem own_pair' {w : World} {B n : Nat} {va : Option Addr} {vc k : Nat} {l : List (ByteArray × ByteArray)} (h : OwnP w B (.slice va n vc) l) (hn : l.length = n) (hk : k < n) : ∃ g, va = some ⟨g, 0, none⟩ ∧ g < w.heap.size ∧
    w.cell? ⟨g, k * 2, none⟩ = some (.string (l.getD k noneP).1) ∧ w.cell? ⟨g, k * 2 + 1, none⟩ = some (.string (l.getD k noneP).2) := by
  subst hn
  exact own_pair h hk
theorem wpQuiet_skip {P : Program} {ops : Array Oper} {C : World → Prop} {Q : Act → Prop} {a : Act} {o : Oper} {rest : List Oper} (hw : Region.wanted o (yielded ops a.tmps) = false) (h : wpQuiet P ops C Q rest (a.put o.dst undef)) : wpQuiet P ops C Q (o :: rest) a := by
  unfold wpQuiet
  rw [if_neg (by rw [hw]; decide)]
  exact h
/-- The first ones. -/
theorem ownP_front {w : World} {B n t : Nat} {va : Option Addr} {vc : Nat} {l : List (ByteArray × ByteArray)} (h : OwnP w B (.slice va n vc) l) (hn : l.length = n) (ht : t ≤ n) : OwnP w B (.slice va t vc) (l.take t) := by
  subst hn
  have hl : (l.take t).length = t := by rw [List.length_take]; omega
  refine ⟨by rw [pflat_length, hl], ?_⟩
  rcases h.2 with ⟨h1, h2⟩ | ⟨g, cap, cur, hv, hb, hg, hnc, hm, hs, hk⟩
  · injection h1 with e1 e2 e3
    subst e1
    subst e3
    left
    have ht0 : t = 0 := by omega
    subst ht0
    exact ⟨rfl, hl⟩
  · cases hv
    refine .inr ⟨g, vc, cur, by rw [hl], hb, hg, by omega, hm, hs, ?_⟩
    rw [hl]
    have e : l.flatMap cellsP = (l.take t).flatMap cellsP ++ (l.drop t).flatMap cellsP := by rw [← List.flatMap_append, List.take_append_drop]
    have h9 := congrArg (List.take (t * 2)) hk
    rw [List.take_take, Nat.min_eq_left (by omega), e, List.take_append_of_le_length (by rw [pflat_length, hl]; exact Nat.le_refl _), List.take_of_length_le (l := (l.take t).flatMap cellsP) (by rw [pflat_length, hl]; exact Nat.le_refl _)] at h9
    exact h9
end Go.Proofs.Ytnmmeaoapfampaa
