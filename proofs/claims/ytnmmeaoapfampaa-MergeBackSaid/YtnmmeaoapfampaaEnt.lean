/-
  Entries in memory: a slice that reads as a list of entries.
-/
import Derived.Test.YtnmmeaoapfampaaKeyMayE
namespace Go.Proofs.Ytnmmeaoapfampaa
open Go.RowKit

/-- An entry: its User, its Seq, its Kind, its Val. -/
structure Ent where
  u : ByteArray
  s : Int
  k : Int
  v : ByteArray

def Ent.none_ : Ent := ⟨⟨#[]⟩, 0, 0, ⟨#[]⟩⟩

/-- Its cells. -/
def Ent.cells (e : Ent) : List Value := [.string e.u, .int .i64 e.s, .int .i64 e.k, .string e.v]

/-- It fits into a machine. -/
def Ent.fits (e : Ent) : Prop := e.u.size ≤ maxLen ∧ e.v.size ≤ maxLen ∧ (Lit.int .i64 e.s).wf = true ∧ (Lit.int .i64 e.k).wf = true

/-- The slice 'v' reads as the entries 'es' in world 'w'. -/
def RdE (w : World) (v : Value) (es : List Ent) : Prop := Rd w 4 v es.length (es.flatMap Ent.cells) ∧ ∀ e ∈ es, e.fits

theorem RdE.below {w w' : World} {v : Value} {es : List Ent} (h : RdE w v es) {B : Nat} (hb : Below B w w') (hB : w.heap.size ≤ B) : RdE w' v es := ⟨Rd.below h.1 hb hB, h.2⟩

theorem RdE.form {w : World} {v : Value} {es : List Ent} (h : RdE w v es) : ∃ a cap, v = .slice a es.length cap ∧ es.length ≤ cap ∧ cap ≤ maxLen := by
  obtain ⟨⟨a, cap, rfl, h1, h2, _⟩, _⟩ := h
  exact ⟨a, cap, rfl, h1, h2⟩

theorem flat_length : ∀ es : List Ent, (es.flatMap Ent.cells).length = es.length * 4
  | [] => rfl
  | e :: es => by
    rw [List.flatMap_cons, List.length_append, flat_length es, List.length_cons]
    simp only [Ent.cells, List.length_cons, List.length_nil]
    omega

theorem flat_at : ∀ (es : List Ent) (i t : Nat), i < es.length → t < 4 → (es.flatMap Ent.cells)[i * 4 + t]? = (es.getD i Ent.none_).cells[t]?
  | [], i, t, h, _ => by simp at h
  | e :: es, 0, t, _, ht => by
    rw [List.flatMap_cons, Nat.zero_mul, Nat.zero_add, List.getElem?_append_left (by simp [Ent.cells]; omega)]
    rfl
  | e :: es, i + 1, t, h, ht => by
    rw [List.flatMap_cons, List.getElem?_append_right (by simp [Ent.cells]; omega)]
    have : (i + 1) * 4 + t - e.cells.length = i * 4 + t := by simp [Ent.cells]; omega
    rw [this, flat_at es i t (by simpa using h) ht]
    simp [List.getD]

/-- Where the 'i'-th entry lies. -/
theorem RdE.at_ {w : World} {v : Value} {es : List Ent} (h : RdE w v es) (hne : es ≠ []) :
    ∃ b off cap, v = .slice (some ⟨b, off, none⟩) es.length cap ∧ es.length ≤ cap ∧ cap ≤ maxLen ∧ b < w.heap.size ∧
      ∀ i, i < es.length → w.cell? ⟨b, off + i * 4, none⟩ = some (.string (es.getD i Ent.none_).u) ∧ w.cell? ⟨b, off + i * 4 + 1, none⟩ = some (.int .i64 (es.getD i Ent.none_).s) ∧
        w.cell? ⟨b, off + i * 4 + 2, none⟩ = some (.int .i64 (es.getD i Ent.none_).k) ∧ w.cell? ⟨b, off + i * 4 + 3, none⟩ = some (.string (es.getD i Ent.none_).v) := by
  obtain ⟨⟨a, cap, rfl, h1, h2, h0, h3 | ⟨b, off, rfl, h4, h5⟩⟩, _⟩ := h
  · exact absurd (List.eq_nil_of_length_eq_zero h3.1) hne
  · refine ⟨b, off, cap, rfl, h1, h2, h4, fun i hi => ⟨?_, ?_, ?_, ?_⟩⟩
    · exact h5 (i * 4) _ (flat_at es i 0 hi (by omega))
    · rw [Nat.add_assoc]; exact h5 (i * 4 + 1) _ (flat_at es i 1 hi (by omega))
    · rw [Nat.add_assoc]; exact h5 (i * 4 + 2) _ (flat_at es i 2 hi (by omega))
    · rw [Nat.add_assoc]; exact h5 (i * 4 + 3) _ (flat_at es i 3 hi (by omega))

theorem fits_at {es : List Ent} (h : ∀ e ∈ es, e.fits) (i : Nat) (hi : i < es.length) : (es.getD i Ent.none_).fits := by
  refine h _ ?_
  simp only [List.getD, List.getElem?_eq_getElem hi, Option.getD_some]
  exact List.getElem_mem hi

/-- May it be an entry? -/
def Ent.may (e : Ent) : Bool := mayE e.u.data.toList e.s e.k e.v.data.toList

/-- Which key is ahead? -/
def Ent.cmp (a b : Ent) : Int := cmpK a.u.data.toList a.s a.k b.u.data.toList b.s b.k

/-- The 'j'-th entry may be, and is above the one ahead. -/
def goodAt (es : List Ent) (j : Nat) : Bool := (es.getD j Ent.none_).may && (j == 0 || decide ((es.getD (j - 1) Ent.none_).cmp (es.getD j Ent.none_) < 0))

/-- Does the list rise? -/
def risingB (es : List Ent) : Bool := (List.range es.length).all (goodAt es)

theorem rising_yes {es : List Ent} (h : ∀ j, j < es.length → goodAt es j = true) : true = risingB es := by
  unfold risingB
  rw [eq_comm, List.all_eq_true]
  intro j hj
  exact h j (List.mem_range.1 hj)

theorem rising_no {es : List Ent} {j : Nat} (hj : j < es.length) (h : goodAt es j = false) : false = risingB es := by
  unfold risingB
  rw [eq_comm, List.all_eq_false]
  exact ⟨j, List.mem_range.2 hj, by rw [h]; simp⟩
end Go.Proofs.Ytnmmeaoapfampaa
