/-
  Operations in memory: a slice that reads as a list of operations; one of the call's own.
-/
import Derived.Test.YtpbmacbogmnokaaWords
import Derived.Test.YtpbmacbogmnokaaOpMath
import Derived.Lib.Strings
namespace Go.Proofs.Ytpbmacbogmnokaa
open Go.RowKit

theorem oret_bool {a b : Bool} (h : a = b) : Ending.returned (.bool a) = .returned (.bool b) := by rw [h]
theorem oret_num {k : IntKind} {a b : Int} (h : a = b) : Ending.returned (.int k a) = .returned (.int k b) := by rw [h]
theorem ostr_len (u : ByteArray) : u.data.toList.length = u.size := by rw [Array.length_toList]; rfl
theorem otoList_data (u : ByteArray) : u.toList = u.data.toList := Lib.toList_data u

def Ope.none_ : Ope := default

/-- Its cells. -/
def Ope.cells (o : Ope) : List Value := [.int .i64 o.k, .string o.u, .string o.v]

/-- .. as one value. -/
abbrev Ope.val (o : Ope) : Value := .agg #[.int .i64 o.k, .string o.u, .string o.v]

/-- It fits into a machine. -/
def Ope.fits (o : Ope) : Prop := (Lit.int .i64 o.k).wf = true ∧ o.u.size ≤ maxLen ∧ o.v.size ≤ maxLen

/-- The slice 'v' reads as the operations 'l' in world 'w'. -/
def RdO (w : World) (v : Value) (l : List Ope) : Prop := Rd w 3 v l.length (l.flatMap Ope.cells) ∧ ∀ o ∈ l, o.fits

theorem RdO.below {w w' : World} {v : Value} {l : List Ope} (h : RdO w v l) {B : Nat} (hb : Below B w w') (hB : w.heap.size ≤ B) : RdO w' v l := ⟨Rd.below h.1 hb hB, h.2⟩

theorem RdO.form {w : World} {v : Value} {l : List Ope} (h : RdO w v l) : ∃ a cap, v = .slice a l.length cap ∧ l.length ≤ cap ∧ cap ≤ maxLen := by
  obtain ⟨⟨a, cap, rfl, h1, h2, _⟩, _⟩ := h
  exact ⟨a, cap, rfl, h1, h2⟩

theorem opFlat_length : ∀ l : List Ope, (l.flatMap Ope.cells).length = l.length * 3
  | [] => rfl
  | o :: r => by
    rw [List.flatMap_cons, List.length_append, opFlat_length r, List.length_cons]
    simp only [Ope.cells, List.length_cons, List.length_nil]
    omega

theorem opFlat_at : ∀ (l : List Ope) (i t : Nat), i < l.length → t < 3 → (l.flatMap Ope.cells)[i * 3 + t]? = (l.getD i Ope.none_).cells[t]?
  | [], i, t, h, _ => by simp at h
  | o :: r, 0, t, _, ht => by
    rw [List.flatMap_cons, Nat.zero_mul, Nat.zero_add, List.getElem?_append_left (by simp [Ope.cells]; omega)]
    rfl
  | o :: r, i + 1, t, h, ht => by
    rw [List.flatMap_cons, List.getElem?_append_right (by simp [Ope.cells]; omega)]
    have : (i + 1) * 3 + t - o.cells.length = i * 3 + t := by simp [Ope.cells]; omega
    rw [this, opFlat_at r i t (by simpa using h) ht]
    simp [List.getD]

theorem opCells_one (o : Ope) : ∀ u ∈ o.cells, u.oneCell' = true := by
  intro u hu
  simp only [Ope.cells, List.mem_cons, List.not_mem_nil, or_false] at hu
  rcases hu with rfl | rfl | rfl <;> rfl

theorem opFlat_one (l : List Ope) : ∀ u ∈ l.flatMap Ope.cells, u.oneCell' = true := by
  intro u hu
  obtain ⟨o, _, ho⟩ := List.mem_flatMap.1 hu
  exact opCells_one o u ho

/-- Where the 'i'-th operation lies. -/
theorem RdO.at_ {w : World} {a : Option Addr} {cap : Nat} {l : List Ope} (h : RdO w (.slice a l.length cap) l) (hne : l ≠ []) :
    ∃ b off, a = some ⟨b, off, none⟩ ∧ b < w.heap.size ∧
      ∀ i, i < l.length → w.cell? ⟨b, off + i * 3, none⟩ = some (.int .i64 (l.getD i Ope.none_).k) ∧ w.cell? ⟨b, off + i * 3 + 1, none⟩ = some (.string (l.getD i Ope.none_).u) ∧
        w.cell? ⟨b, off + i * 3 + 2, none⟩ = some (.string (l.getD i Ope.none_).v) := by
  obtain ⟨⟨a', cap', hv, h1, h2, h0, h3 | ⟨b, off, rfl, h4, h5⟩⟩, _⟩ := h
  · exact absurd (List.eq_nil_of_length_eq_zero h3.1) hne
  · cases hv
    refine ⟨b, off, rfl, h4, fun i hi => ⟨?_, ?_, ?_⟩⟩
    · exact h5 (i * 3) _ (opFlat_at l i 0 hi (by omega))
    · rw [Nat.add_assoc]; exact h5 (i * 3 + 1) _ (opFlat_at l i 1 hi (by omega))
    · rw [Nat.add_assoc]; exact h5 (i * 3 + 2) _ (opFlat_at l i 2 hi (by omega))

theorem opFits_at {l : List Ope} (h : ∀ o ∈ l, o.fits) (i : Nat) (hi : i < l.length) : (l.getD i Ope.none_).fits := by
  refine h _ ?_
  simp only [List.getD, List.getElem?_eq_getElem hi, Option.getD_some]
  exact List.getElem_mem hi

theorem opGet {l : List Ope} {i : Nat} (hi : i < l.length) : l[i]? = some (l.getD i Ope.none_) := by
  simp [List.getD, List.getElem?_eq_getElem hi]

/-- The slice 'v' of operations 'l' lies in memory of the call's own, from block 'B' on. -/
def OwnO (w : World) (B e : Nat) (v : Value) (l : List Ope) : Prop := w.ownsRow B e 3 v l.length (l.flatMap Ope.cells)

theorem OwnO.nil (w : World) (B e : Nat) : OwnO w B e (.slice none 0 0) [] := World.ownsRow_nil _ _ _ _

theorem OwnO.read {w : World} {B e : Nat} {v : Value} {l : List Ope} (h : OwnO w B e v l) (hf : ∀ o ∈ l, o.fits) : RdO w v l := ⟨rd_of_own h, hf⟩

theorem OwnO.below {w w' : World} {B e : Nat} {v : Value} {l : List Ope} (h : OwnO w B e v l) {B' : Nat} (hb : Below B' w w') (hB : w.heap.size ≤ B') : OwnO w' B e v l := by
  refine ⟨h.1, ?_⟩
  rcases h.2 with h2 | ⟨g, cap, cur, rfl, h3, hg, r⟩
  · exact .inl h2
  · have := (Array.getElem?_eq_some_iff.1 hg).1
    exact .inr ⟨g, cap, cur, rfl, h3, by rw [hb.block g (by omega)]; exact hg, r⟩

theorem OwnO.mono_B {w : World} {B B' e : Nat} {v : Value} {l : List Ope} (h : OwnO w B e v l) (hB : B' ≤ B) : OwnO w B' e v l := by
  refine ⟨h.1, ?_⟩
  rcases h.2 with h2 | ⟨g, cap, cur, rfl, h3, r⟩
  · exact .inl h2
  · exact .inr ⟨g, cap, cur, rfl, by omega, r⟩

theorem OwnO.form {w : World} {B e : Nat} {v : Value} {l : List Ope} (h : OwnO w B e v l) : ∃ a cap, v = .slice a l.length cap ∧ l.length ≤ cap ∧ cap ≤ maxLen := by
  obtain ⟨a, cap, rfl, h1, h2, _⟩ := rd_of_own h
  exact ⟨a, cap, rfl, h1, h2⟩

theorem info_op : (Try.prog.info? 43).map (fun i => (i.zero, i.size, i.bytes)) = some (some (.agg #[.int .i64 0, .string ⟨#[]⟩, .string ⟨#[]⟩]), 3, 40) := by kernel_rfl

/-- The call answers a slice of operations 'l' in memory of its own. -/
def RetO (B : Nat) (w : World) (l : List Ope) (e : Ending) (w' : World) : Prop := ∃ v, e = .returned v ∧ OwnO w' B 43 v l ∧ Below B w w'
end Go.Proofs.Ytpbmacbogmnokaa
