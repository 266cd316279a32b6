/-
  Chapter 15: four rows of entries, dealt out one by one.
-/
import Derived.Test.YtnmmeaoapfampaaMergeAwake
import Derived.Test.YtnmmeaoapfampaaMoves
import Derived.Test.YtnmmeaoapfampaaMergeRView
namespace Go.Proofs.Ytnmmeaoapfampaa
open Go.RowKit

def nilV : Value := .slice none 0 0
/-- At 'gp' lie four slices 'vs', which read as 'ps', each in memory of its own. -/
structure Deal (B gp : Nat) (vs : List Value) (ps : List (List Ent)) (w : World) : Prop where
  lv : vs.length = 4
  lp : ps.length = 4
  le : B ≤ gp
  row : w.heap[gp]? = some (.cells vs.toArray 25 (0, 0))
  own : ∀ i, i < 4 → OwnE w 0 (vs.getD i nilV) (ps.getD i [])
  far : ∀ i, i < 4 → ∀ b, (vs.getD i nilV).ownBlock = some b → B ≤ b ∧ b ≠ gp
  apart : ∀ i j b, i < 4 → j < 4 → i ≠ j → (vs.getD i nilV).ownBlock = some b → (vs.getD j nilV).ownBlock ≠ some b
section
variable {B gp : Nat} {vs : List Value} {ps : List (List Ent)} {w w' wB : World}
theorem Deal.below (h : Deal B gp vs ps w) (hb : Below w.heap.size w w') : Deal B gp vs ps w' :=
  ⟨h.lv, h.lp, h.le, (hb.block gp (blk_lt h.row)).trans h.row, fun i hi => (h.own i hi).below hb, h.far, h.apart⟩
theorem getD_set_same {α : Type} {l : List α} {k : Nat} (hk : k < l.length) (x d : α) : (l.set k x).getD k d = x := by simp [List.getD, hk]
theorem getD_set_other {α : Type} (l : List α) {k i : Nat} (h : i ≠ k) (x d : α) : (l.set k x).getD i d = l.getD i d := by simp [List.getD, List.getElem?_set_ne (Ne.symm h)]
theorem Deal.push (h : Deal B gp vs ps w) {k : Nat} (hk : k < 4) (hb : Below w.heap.size w wB) (hB : B ≤ w.heap.size) {v' : Value} {e : Ent} (ho : OwnE w' 0 v' (ps.getD k [] ++ [e])) (hm : Moves wB w' (vs.getD k nilV) v') :
    Deal B gp (vs.set k v') (ps.set k (ps.getD k [] ++ [e])) (w'.setCell ⟨gp, k, none⟩ v') ∧ Below B w (w'.setCell ⟨gp, k, none⟩ v') := by
  have h0 := h.below hb
  have hgp := blk_lt h0.row
  have hrow : w'.heap[gp]? = some (.cells vs.toArray 25 (0, 0)) := (hm.grown.block gp hgp fun e => (h.far k hk gp e.symm).2 rfl).trans h0.row
  have hfar : ∀ b, v'.ownBlock = some b → B ≤ b ∧ b ≠ gp := fun b e => by
    rcases hm.at_ b e with h1 | h1
    · exact h.far k hk b h1
    · exact ⟨Nat.le_trans (Nat.le_trans hB hb.size) h1.1, by omega⟩
  have hv : ∀ i, i < 4 → (vs.set k v').getD i nilV = if i = k then v' else vs.getD i nilV := fun i hi => by
    by_cases e : i = k
    · subst e; rw [if_pos rfl, getD_set_same (by rw [h.lv]; exact hi)]
    · rw [if_neg e, getD_set_other _ e]
  have hp : ∀ i, i < 4 → (ps.set k (ps.getD k [] ++ [e])).getD i [] = if i = k then ps.getD k [] ++ [e] else ps.getD i [] := fun i hi => by
    by_cases e : i = k
    · subst e; rw [if_pos rfl, getD_set_same (by rw [h.lp]; exact hi)]
    · rw [if_neg e, getD_set_other _ e]
  have hlt : ∀ i, i < 4 → ∀ b, (vs.getD i nilV).ownBlock = some b → b < wB.heap.size := fun i hi b e => (World.ownsRow.lt (h0.own i hi) b e).2
  refine ⟨⟨by rw [List.length_set]; exact h.lv, by rw [List.length_set]; exact h.lp, h.le, ?_, fun i hi => ?_, fun i hi b e => ?_, fun i j b hi hj hij e => ?_⟩, ?_⟩
  · rw [blk_set hrow]
    simp
  · rw [hv i hi, hp i hi]
    by_cases e : i = k
    · rw [if_pos e, if_pos e]
      exact own_kept ho (R := fun b => b ≠ gp) ((Kept.refl _ _).setCell (fun h => h rfl) _) fun b e => (hfar b e).2
    · rw [if_neg e, if_neg e]
      have h1 : OwnE w' 0 (vs.getD i nilV) (ps.getD i []) := own_kept (h0.own i hi) (hm.kept (R := fun b => b < wB.heap.size ∧ (vs.getD k nilV).ownBlock ≠ some b) fun b hb => hb) fun b eb => ⟨hlt i hi b eb, h.apart i k b hi hk e eb⟩
      exact own_kept h1 (R := fun b => b ≠ gp) ((Kept.refl _ _).setCell (fun h => h rfl) _) fun b e => (h.far i hi b e).2
  · rw [hv i hi] at e
    by_cases hik : i = k
    · rw [if_pos hik] at e; exact hfar b e
    · rw [if_neg hik] at e; exact h.far i hi b e
  · rw [hv i hi] at e
    rw [hv j hj]
    by_cases hik : i = k
    · rw [if_pos hik] at e
      rw [if_neg (by omega)]
      intro e2
      rcases hm.at_ b e with h1 | h1
      · exact h.apart k j b hk hj (by omega) h1 e2
      · have := hlt j hj b e2; omega
    · rw [if_neg hik] at e
      by_cases hjk : j = k
      · rw [if_pos hjk]
        intro e2
        rcases hm.at_ b e2 with h1 | h1
        · exact h.apart k i b hk hi (by omega) h1 e
        · have := hlt i hi b e; omega
      · rw [if_neg hjk]; exact h.apart i j b hi hj hij e
  · have k1 : Kept (fun b => b < B) wB w' := hm.kept fun b hb2 => ⟨Nat.lt_of_lt_of_le hb2 (Nat.le_trans hB hb.size), fun e => by have := (h.far k hk b e).1; omega⟩
    exact Kept.below ((Kept.trans (Kept.of (hb.mono hB) fun b h => h) k1).setCell (p := ⟨gp, k, none⟩) (by show ¬ gp < B; have := h.le; omega) _) fun b h => h
/-- All of them, as a slice of slices. -/
theorem Deal.read (h : Deal B gp vs ps w) (hf : ∀ l ∈ ps, ∀ e ∈ l, e.fits) : RdLE w (.slice (some ⟨gp, 0, none⟩) 4 4) ps := by
  refine ⟨vs, ⟨_, 4, by rw [h.lp], by rw [h.lp]; exact Nat.le_refl _, by unfold maxLen; omega, by rw [h.lv, h.lp], .inr ⟨gp, 0, rfl, blk_lt h.row, fun j u hj => ?_⟩⟩, fun i c l hc hl => ?_⟩
  · rw [Nat.zero_add, blk_cell h.row]
    simpa using hj
  · have hi := (List.getElem?_eq_some_iff.1 hc).1
    rw [h.lv] at hi
    have e1 : vs.getD i nilV = c := by simp [List.getD, hc]
    have e2 : ps.getD i [] = l := by simp [List.getD, hl]
    have := h.own i hi
    rw [e1, e2] at this
    exact this.read fun e he => hf l (List.mem_of_getElem? hl) e he
theorem Deal.form (h : Deal B gp vs ps w) {k : Nat} (hk : k < 4) : ∃ a c, vs.getD k nilV = .slice a (ps.getD k []).length c ∧ w.cell? ⟨gp, k, none⟩ = some (.slice a (ps.getD k []).length c) ∧ w.frozen? ⟨gp, k, none⟩ = false := by
  obtain ⟨a, c, e, _, _⟩ := (h.own k hk).form
  refine ⟨a, c, e, ?_, blk_free h.row⟩
  rw [blk_cell h.row, ← e]
  have : k < vs.length := by rw [h.lv]; exact hk
  simp [List.getD, this]
theorem Deal.start {w' : World} {g : Nat} (hg : w'.heap[g]? = some (.cells #[nilV, nilV, nilV, nilV] 25 (0, 0))) : Deal g g [nilV, nilV, nilV, nilV] [[], [], [], []] w' := by
  have hv : ∀ i, i < 4 → [nilV, nilV, nilV, nilV].getD i nilV = nilV := fun i hi => by
    obtain rfl | rfl | rfl | rfl : i = 0 ∨ i = 1 ∨ i = 2 ∨ i = 3 := by omega
    all_goals rfl
  have hp : ∀ i, i < 4 → ([[], [], [], []] : List (List Ent)).getD i [] = [] := fun i hi => by
    obtain rfl | rfl | rfl | rfl : i = 0 ∨ i = 1 ∨ i = 2 ∨ i = 3 := by omega
    all_goals rfl
  exact ⟨rfl, rfl, Nat.le_refl _, hg, fun i hi => by rw [hv i hi, hp i hi]; exact World.ownsRow_nil _ _ _ _, fun i hi b e => (by rw [hv i hi] at e; cases e), fun i j b hi _ _ e => (by rw [hv i hi] at e; cases e)⟩
theorem info_ents : (Try.prog.info? 25).map (fun i => (i.zero, i.size, i.bytes)) = some (some (.slice none 0 0), 1, 24) := by kernel_rfl
theorem row_of_made {w : World} {g e n B : Nat} {cs : List Value} (h : w.ownsRow B e 1 (.slice (some ⟨g, 0, none⟩) n n) n cs) : w.heap[g]? = some (.cells cs.toArray e (0, 0)) := by
  rcases h.2 with ⟨h1, _⟩ | ⟨g', cap, cur, hv, _, hg, hn, _, hs, ht⟩
  · cases h1
  · cases hv
    have : cur.toList = cs := by
      rw [← ht, List.take_of_length_le]
      rw [Array.length_toList, hs]
      exact Nat.le_refl _
    rw [hg, ← this]
/-- 'make([][]api.Entry, 4)'. -/
theorem wpList_make_deal {ops : Array Oper} {rest : List Oper} {o : Oper} {a : Act} {Q : Exit → Act → World → Prop} {w : World}
    (hg : o.guard = none) (x y : Operand) (hop : o.op = Op.makeSlice 22 x y) (kl kc : IntKind) (hl : a.eval x = .int kl ((4 : Nat) : Int)) (hc : a.eval y = .int kc ((4 : Nat) : Int))
    (hK : ∀ w', Deal w.heap.size w.heap.size [nilV, nilV, nilV, nilV] [[], [], [], []] w' → Below w.heap.size w w' → wpList Try.prog ops Q rest (a.put o.dst (.slice (some ⟨w.heap.size, 0, none⟩) 4 4)) w') :
    wpList Try.prog ops Q (o :: rest) a w := by
  obtain ⟨i0, hi, hz0, hz1, hz2⟩ := info_parts info_ents
  refine wpList_make_full _ hg x y 22 hop w.heap.size 25 i0 (.slice none 0 0) 1 Try.underlying22 hi hz0 hz1 kl kc 4 4 4 hl hc rfl rfl (by rw [hz2]; omega) (by unfold maxLen; omega) (Nat.le_refl _) ?_
  intro w' hown hgrow
  refine hK w' (Deal.start ?_) ((Below.refl _ _).grown hgrow (Nat.le_refl _) (fun k h => by cases h))
  have e : (madeCells (Value.slice none 0 0).cells (4 * 1)).toList = [nilV, nilV, nilV, nilV] := by
    show (madeCells #[Value.slice none 0 0] (4 * 1)).toList = _
    rw [toList_madeCells_one]
    rfl
  rw [e] at hown
  exact row_of_made (g := w.heap.size) (n := 4) hown
end
/-- One more was dealt. -/
theorem dealt {ps : List (List Ent)} {k : Nat} (hk : k < ps.length) (e : Ent) : (∀ x, x ∈ (ps.set k (ps.getD k [] ++ [e])).flatten ↔ x = e ∨ x ∈ ps.flatten) ∧ (ps.set k (ps.getD k [] ++ [e])).flatten.length = ps.flatten.length + 1 := by
  have e0 : ps = ps.take k ++ ps.getD k [] :: ps.drop (k + 1) := by
    conv => lhs; rw [← List.take_append_drop k ps, List.drop_eq_getElem_cons hk]
    simp [List.getD, hk]
  have e1 : ps.set k (ps.getD k [] ++ [e]) = ps.take k ++ (ps.getD k [] ++ [e]) :: ps.drop (k + 1) := by
    rw [List.set_eq_take_append_cons_drop, if_pos hk]
  generalize ps.getD k [] = p at *
  rw [e1]
  refine ⟨fun x => ?_, ?_⟩
  · conv => rhs; rw [e0]
    simp only [List.flatten_append, List.flatten_cons, List.mem_append, List.mem_singleton]
    constructor
    · rintro (h | (h | h) | h)
      · exact .inr (.inl h)
      · exact .inr (.inr (.inl h))
      · exact .inl h
      · exact .inr (.inr (.inr h))
    · rintro (h | h | h | h)
      · exact .inr (.inl (.inr h))
      · exact .inl h
      · exact .inr (.inl (.inl h))
      · exact .inr (.inr h)
  · conv => rhs; rw [e0]
    simp only [List.flatten_append, List.flatten_cons, List.length_append, List.length_singleton]
    omega
theorem part_le {ps : List (List Ent)} {k : Nat} (hk : k < ps.length) : (ps.getD k []).length ≤ ps.flatten.length := by
  have e0 : ps = ps.take k ++ ps.getD k [] :: ps.drop (k + 1) := by
    conv => lhs; rw [← List.take_append_drop k ps, List.drop_eq_getElem_cons hk]
    simp [List.getD, hk]
  conv => rhs; rw [e0]
  rw [List.flatten_append, List.flatten_cons, List.length_append, List.length_append]
  omega
/-- One slice, laid by itself. -/
theorem one_slice (w : World) (v : Value) : Rd (w.alloc (.cells #[v] 25)) 1 (.slice (some ⟨w.heap.size, 0, none⟩) 1 1) 1 [v] := by
  refine ⟨_, 1, rfl, Nat.le_refl _, by unfold maxLen; omega, rfl, .inr ⟨w.heap.size, 0, rfl, by simp, fun j u hj => ?_⟩⟩
  rw [Nat.zero_add, cell_of_row _ w.heap.size j _ 25 (0, 0) (heap_alloc_new w _)]
  simpa using hj
/-- The slices the other way round. -/
theorem Deal.back {B gp : Nat} {vs : List Value} {ps : List (List Ent)} {w : World} (h : Deal B gp vs ps w) (hf : ∀ l ∈ ps, ∀ e ∈ l, e.fits) {B' e : Nat} {v : Value} (ho : w.ownsRow B' e 1 v 4 vs.reverse) : RdLE w v ps.reverse := by
  refine ⟨vs.reverse, by rw [List.length_reverse, h.lp]; exact rd_of_own ho, fun i c l hc hl => ?_⟩
  have hi := (List.getElem?_eq_some_iff.1 hc).1
  rw [List.length_reverse, h.lv] at hi
  have e1 : vs.getD (3 - i) nilV = c := by
    rw [List.getElem?_reverse (by rw [h.lv]; exact hi), h.lv] at hc
    simp [List.getD, show 3 - i = 4 - 1 - i by omega, hc]
  have e2 : ps.getD (3 - i) [] = l := by
    rw [List.getElem?_reverse (by rw [h.lp]; exact hi), h.lp] at hl
    simp [List.getD, show 3 - i = 4 - 1 - i by omega, hl]
  have := h.own (3 - i) (by omega)
  rw [e1, e2] at this
  refine this.read fun e he => hf l ?_ e he
  exact List.mem_reverse.1 (List.mem_of_getElem? hl)
end Go.Proofs.Ytnmmeaoapfampaa
