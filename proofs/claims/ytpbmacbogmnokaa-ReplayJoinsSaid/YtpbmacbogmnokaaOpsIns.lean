/-
  An operation put in: where it comes to lie; rows of operations of the call's own that are written into. Plain facts.
-/
import Derived.Test.YtpbmacbogmnokaaOps
import Derived.Laws.OwnMore
import Derived.Lib.SmallJoins
namespace Go.Proofs.Ytpbmacbogmnokaa
open Go.RowKit

theorem oless_cmp : ∀ a b : List UInt8, Op.bytesLess a b = (cmpL a b == -1)
  | [], [] => rfl
  | [], _ :: _ => rfl
  | _ :: _, [] => rfl
  | a :: r, b :: t => by
    have ih := oless_cmp r t
    rw [Op.bytesLess, cmpL, ih]
    rcases Nat.lt_trichotomy a.toNat b.toNat with h | h | h
    · have e : a < b := UInt8.lt_iff_toNat_lt.2 h
      rw [if_pos h]
      simp [e]
    · have e : a = b := UInt8.toNat_inj.1 h
      subst e
      rw [if_neg (by omega), if_neg (by omega)]
      have : ¬ a < a := fun h => by have := UInt8.lt_iff_toNat_lt.1 h; omega
      simp [this]
    · have e : ¬ a < b := fun h' => by have := UInt8.lt_iff_toNat_lt.1 h'; omega
      have e' : (a == b) = false := by
        have : a ≠ b := fun h' => by subst h'; omega
        simpa using this
      rw [if_neg (by omega), if_pos h, e']
      simp [e]

theorem less_yes {a b : ByteArray} (h : cmpL a.data.toList b.data.toList = -1) : Op.bytesLess a.toList b.toList = true := by
  rw [otoList_data, otoList_data, oless_cmp, h]; rfl
theorem less_no {a b : ByteArray} (h : cmpL a.data.toList b.data.toList ≠ -1) : Op.bytesLess a.toList b.toList = false := by
  rw [otoList_data, otoList_data, oless_cmp]; simpa using h
theorem same_yes {a b : ByteArray} (h : a.data.toList = b.data.toList) : (a.toList == b.toList) = true := by
  rw [otoList_data, otoList_data, h]; simp
theorem same_no {a b : ByteArray} (h : a.data.toList ≠ b.data.toList) : (a.toList == b.toList) = false := by
  rw [otoList_data, otoList_data]; simpa using h

theorem drop_op {l : List Ope} {k : Nat} (hk : k < l.length) : l.drop k = l.getD k Ope.none_ :: l.drop (k + 1) := by
  rw [List.drop_eq_getElem_cons hk]
  simp [List.getD, hk]

theorem insO_cut (o : Ope) : ∀ (l : List Ope) (k : Nat), k ≤ l.length → (∀ j, j < k → cmpL (l.getD j Ope.none_).key o.key = -1) → insO o l = l.take k ++ insO o (l.drop k)
  | l, 0, _, _ => by simp
  | [], k + 1, h, _ => by simp at h
  | x :: r, k + 1, h, hc => by
    have h0 := hc 0 (by omega)
    have h0' : cmpL x.key o.key = -1 := h0
    rw [insO, if_pos h0', List.take_succ_cons, List.drop_succ_cons, List.cons_append]
    congr 1
    exact insO_cut o r k (by simpa using h) fun j hj => hc (j + 1) (by omega)

theorem insO_same {l : List Ope} {o : Ope} {k : Nat} (hk : k < l.length) (hc : ∀ j, j < k → cmpL (l.getD j Ope.none_).key o.key = -1) (h : (l.getD k Ope.none_).key = o.key) : insO o l = l.set k o := by
  rw [insO_cut o l k (by omega) hc, drop_op hk, insO, if_neg (by rw [(cmpL_zero _ _).2 h]; decide), if_pos h, List.set_eq_take_append_cons_drop, if_pos hk]

theorem insO_more {l : List Ope} {o : Ope} {k : Nat} (hk : k < l.length) (hc : ∀ j, j < k → cmpL (l.getD j Ope.none_).key o.key = -1) (h1 : cmpL (l.getD k Ope.none_).key o.key ≠ -1) (h : (l.getD k Ope.none_).key ≠ o.key) :
    insO o l = l.take k ++ [o] ++ l.drop k := by
  rw [insO_cut o l k (by omega) hc, drop_op hk, insO, if_neg h1, if_neg h]
  simp

theorem insO_last {l : List Ope} {o : Ope} (hc : ∀ j, j < l.length → cmpL (l.getD j Ope.none_).key o.key = -1) : insO o l = l.take l.length ++ [o] ++ l.drop l.length := by
  rw [insO_cut o l l.length (Nat.le_refl _) hc]
  simp [insO]

theorem opFlat_set : ∀ (l : List Ope) (i : Nat) (o : Ope), i < l.length → (l.set i o).flatMap Ope.cells = (((l.flatMap Ope.cells).set (i * 3) (.int .i64 o.k)).set (i * 3 + 1) (.string o.u)).set (i * 3 + 2) (.string o.v)
  | [], i, o, h => by simp at h
  | x :: r, 0, o, _ => by
    simp only [List.set_cons_zero, List.flatMap_cons, Ope.cells, Nat.zero_mul, Nat.zero_add, List.cons_append, List.nil_append, List.set_cons_succ]
  | x :: r, i + 1, o, h => by
    have ih := opFlat_set r i o (by simpa using h)
    rw [List.set_cons_succ, List.flatMap_cons, ih, List.flatMap_cons]
    have e : (i + 1) * 3 = i * 3 + 1 + 1 + 1 := by omega
    rw [e]
    simp only [Ope.cells, List.cons_append, List.nil_append, List.set_cons_succ]

theorem OwnO.stored {w : World} {B e g cap : Nat} {l : List Ope} (h : OwnO w B e (.slice (some ⟨g, 0, none⟩) l.length cap) l) (i : Nat) (hi : i < l.length) (o : Ope) :
    OwnO (((w.setCell ⟨g, i * 3, none⟩ (.int .i64 o.k)).setCell ⟨g, i * 3 + 1, none⟩ (.string o.u)).setCell ⟨g, i * 3 + 2, none⟩ (.string o.v)) B e (.slice (some ⟨g, 0, none⟩) (l.set i o).length cap) (l.set i o) := by
  unfold OwnO
  rw [opFlat_set l i o hi, List.length_set]
  exact (((World.ownsRow.stored h (i * 3) _).1.stored (i * 3 + 1) _).1.stored (i * 3 + 2) _).1

theorem OwnO.where_ {w : World} {B e : Nat} {v : Value} {l : List Ope} (h : OwnO w B e v l) (hne : l ≠ []) : ∃ g cap, v = .slice (some ⟨g, 0, none⟩) l.length cap ∧ l.length ≤ cap ∧ cap ≤ maxLen ∧ B ≤ g ∧ g < w.heap.size ∧
    (∀ i, i < l.length → w.cell? ⟨g, i * 3, none⟩ = some (.int .i64 (l.getD i Ope.none_).k) ∧ w.cell? ⟨g, i * 3 + 1, none⟩ = some (.string (l.getD i Ope.none_).u) ∧ w.cell? ⟨g, i * 3 + 2, none⟩ = some (.string (l.getD i Ope.none_).v)) ∧ ∀ j, w.frozen? ⟨g, j, none⟩ = false := by
  have h0 := h
  obtain ⟨a, cap, rfl, h1, h2⟩ := h.form
  rcases h.2 with ⟨_, h3⟩ | ⟨g, cap', cur, hv, h3, hg, _⟩
  · exact absurd (List.eq_nil_of_length_eq_zero h3) hne
  · cases hv
    have hl := fun j => World.ownsRow.cellAt h0 j
    refine ⟨g, cap, rfl, h1, h2, h3, (Array.getElem?_eq_some_iff.1 hg).1, fun i hi => ⟨?_, ?_, ?_⟩, fun j => World.ownsRow.frozenAt h0 j⟩
    · rw [hl _ (by omega)]; exact opFlat_at l i 0 hi (by omega)
    · rw [hl _ (by omega)]; exact opFlat_at l i 1 hi (by omega)
    · rw [hl _ (by omega)]; exact opFlat_at l i 2 hi (by omega)

/-- One operation, laid by itself. -/
theorem one_op (w : World) (o : Ope) : Rd (w.alloc (.cells #[.int .i64 o.k, .string o.u, .string o.v] 43)) 3 (.slice (some ⟨w.heap.size, 0, none⟩) 1 1) 1 o.cells := by
  refine ⟨_, 1, rfl, Nat.le_refl _, by unfold maxLen; omega, rfl, .inr ⟨w.heap.size, 0, rfl, by simp, fun j u hj => ?_⟩⟩
  rw [Nat.zero_add, cell_of_row _ w.heap.size j _ 43 (0, 0) (heap_alloc_new w _)]
  simpa [Ope.cells] using hj

/-- The first ones. -/
theorem opFront {w : World} {a : Option Addr} {cap : Nat} {l : List Ope} (h : Rd w 3 (.slice a l.length cap) l.length (l.flatMap Ope.cells)) (q : Nat) (hq : q ≤ l.length) : Rd w 3 (.slice a q cap) q ((l.take q).flatMap Ope.cells) := by
  obtain ⟨a', cap', hv, h1, h2, h0, h3⟩ := h
  cases hv
  have hlen : (l.take q).length = q := by rw [List.length_take]; omega
  refine ⟨_, _, rfl, by omega, by omega, by rw [opFlat_length, hlen], ?_⟩
  rcases h3 with ⟨h3, h4⟩ | ⟨b, off, hb, h4, h5⟩
  · left; exact ⟨by omega, h4⟩
  · refine .inr ⟨b, off, hb, h4, fun j u hj => h5 j u ?_⟩
    have e : l.flatMap Ope.cells = (l.take q).flatMap Ope.cells ++ (l.drop q).flatMap Ope.cells := by rw [← List.flatMap_append, List.take_append_drop]
    rw [e, List.getElem?_append_left]
    · exact hj
    · exact (List.getElem?_eq_some_iff.1 hj).1

/-- The rest. -/
theorem opRest {w : World} {b off cap : Nat} {l : List Ope} (h : Rd w 3 (.slice (some ⟨b, off, none⟩) l.length cap) l.length (l.flatMap Ope.cells)) (q : Nat) (hq : q ≤ l.length) : Rd w 3 (.slice (some ⟨b, off + q * 3, none⟩) (l.length - q) (cap - q)) (l.length - q) ((l.drop q).flatMap Ope.cells) := by
  obtain ⟨a', cap', hv, h1, h2, h0, h3⟩ := h
  cases hv
  have hlen : (l.drop q).length = l.length - q := by rw [List.length_drop]
  refine ⟨_, _, rfl, by omega, by omega, by rw [opFlat_length, hlen], ?_⟩
  by_cases h0 : l.length - q = 0
  · left; exact ⟨h0, fun h => by cases h⟩
  · rcases h3 with ⟨h3, _⟩ | ⟨b', off', hb, h4, h5⟩
    · omega
    · cases hb
      refine .inr ⟨b, off + q * 3, rfl, h4, fun j u hj => ?_⟩
      rw [Nat.add_assoc]
      refine h5 (q * 3 + j) u ?_
      have e : l.flatMap Ope.cells = (l.take q).flatMap Ope.cells ++ (l.drop q).flatMap Ope.cells := by rw [← List.flatMap_append, List.take_append_drop]
      rw [e, List.getElem?_append_right (by rw [opFlat_length, List.length_take]; omega), opFlat_length, List.length_take]
      rw [← hj]
      congr 1
      omega

/-- '[]api.Op{}'. -/
theorem OwnO.made (w : World) (B : Nat) (hB : B ≤ w.heap.size) : OwnO (w.alloc (.cells #[] 43)) B 43 (.slice (some ⟨w.heap.size, 0, none⟩) 0 0) [] :=
  World.ownsRow_made w #[] 0 hB (Nat.zero_le _) rfl

/-- Nothing, read. -/
theorem rdNone (w : World) (a : Option Addr) (cap : Nat) (hc : cap ≤ maxLen) (ha : a = none → cap = 0) : Rd w 3 (.slice a 0 cap) 0 [] := ⟨a, cap, rfl, Nat.zero_le _, hc, rfl, .inl ⟨rfl, ha⟩⟩

theorem OwnO.kind {w : World} {B e : Nat} {v : Value} {l : List Ope} (h : OwnO w B e v l) : (v = .slice none 0 0 ∧ l = []) ∨ ∃ g cap, v = .slice (some ⟨g, 0, none⟩) l.length cap ∧ l.length ≤ cap ∧ cap ≤ maxLen ∧ B ≤ g ∧ g < w.heap.size := by
  rcases h.2 with ⟨h1, h2⟩ | ⟨g, cap, cur, rfl, h3, hg, h4, h5, _⟩
  · exact .inl ⟨h1, List.eq_nil_of_length_eq_zero h2⟩
  · exact .inr ⟨g, cap, rfl, h4, h5, h3, (Array.getElem?_eq_some_iff.1 hg).1⟩

theorem own_mono {w : World} {B B' e size n : Nat} {v : Value} {cs : List Value} (h : w.ownsRow B e size v n cs) (hB : B' ≤ B) : w.ownsRow B' e size v n cs := by
  refine ⟨h.1, ?_⟩
  rcases h.2 with h2 | ⟨g, cap, cur, rfl, h3, r⟩
  · exact .inl h2
  · exact .inr ⟨g, cap, cur, rfl, by omega, r⟩

theorem opFlat_app (l m : List Ope) : (l ++ m).flatMap Ope.cells = l.flatMap Ope.cells ++ m.flatMap Ope.cells := List.flatMap_append
theorem opFlat_one_ (o : Ope) : [o].flatMap Ope.cells = o.cells := by simp
end Go.Proofs.Ytpbmacbogmnokaa
