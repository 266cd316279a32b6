/-
  Slices of slices of entries: what reads as a list of lists.
-/
import Derived.Test.YtnmmeaoapfampaaEnt
import Derived.Test.YtnmmeaoapfampaaOwnEnt
namespace Go.Proofs.Ytnmmeaoapfampaa
open Go.RowKit

/-- The slice 'v' of slices reads as the lists of entries 'ls'. -/
def RdLE (w : World) (v : Value) (ls : List (List Ent)) : Prop := ∃ cs : List Value, Rd w 1 v ls.length cs ∧ ∀ (i : Nat) (c : Value) (l : List Ent), cs[i]? = some c → ls[i]? = some l → RdE w c l

theorem RdLE.below {w w' : World} {v : Value} {ls : List (List Ent)} (h : RdLE w v ls) {B : Nat} (hb : Below B w w') (hB : w.heap.size ≤ B) : RdLE w' v ls := by
  obtain ⟨cs, h1, h2⟩ := h
  exact ⟨cs, h1.below hb hB, fun i c l hc hl => (h2 i c l hc hl).below hb hB⟩

theorem RdLE.form {w : World} {v : Value} {ls : List (List Ent)} (h : RdLE w v ls) : ∃ a cap, v = .slice a ls.length cap ∧ ls.length ≤ cap ∧ cap ≤ maxLen := by
  obtain ⟨cs, ⟨a, cap, rfl, h1, h2, _⟩, _⟩ := h
  exact ⟨a, cap, rfl, h1, h2⟩

/-- One of them. -/
theorem RdLE.at_ {w : World} {la : Option Addr} {lc : Nat} {ls : List (List Ent)} (h : RdLE w (.slice la ls.length lc) ls) {i : Nat} {l : List Ent} (hl : ls[i]? = some l) :
    ∃ b o a cap, la = some ⟨b, o, none⟩ ∧ w.cell? ⟨b, o + i, none⟩ = some (.slice a l.length cap) ∧ RdE w (.slice a l.length cap) l ∧ b < w.heap.size := by
  obtain ⟨cs, ⟨a, cap, hv, h1, h2, h3, h4⟩, h5⟩ := h
  cases hv
  have hi : i < ls.length := (List.getElem?_eq_some_iff.1 hl).1
  obtain ⟨c, hc⟩ : ∃ c, cs[i]? = some c := ⟨_, List.getElem?_eq_getElem (by omega)⟩
  have hr := h5 i c l hc hl
  obtain ⟨a', cap', hcv, _, _⟩ := hr.form
  rcases h4 with ⟨h4, _⟩ | ⟨b, o, rfl, hb, hcell⟩
  · omega
  · exact ⟨b, o, a', cap', rfl, by rw [hcell i c hc, hcv], hcv ▸ hr, hb⟩
end Go.Proofs.Ytnmmeaoapfampaa
