/-
  Chapter 14: plain facts: entries in order, each key once, the first of alike ones; places among them.
-/
import Derived.Test.YtnmmeaoapfampaaMemMath
import Derived.Test.YtnmmeaoapfampaaMemBuild
namespace Go.Proofs.Ytnmmeaoapfampaa
open Go.RowKit

/-- An entry taken up, unless its key is there. -/
def sIns (e : Ent) (l : List Ent) : List Ent := bif isIn e l then l else insE e l
def sortE (es : List Ent) : List Ent := es.foldl (fun a e => sIns e a) []
theorem sort_take {es : List Ent} {i : Nat} (h : i < es.length) : sortE (es.take (i + 1)) = sIns (es.getD i Ent.none_) (sortE (es.take i)) := by
  unfold sortE
  rw [List.take_succ_eq_append_getElem h, List.foldl_append]
  simp [List.getD, h]
theorem sIns_len (e : Ent) (l : List Ent) : (sIns e l).length ≤ l.length + 1 := by
  unfold sIns
  cases isIn e l with
  | true => simp
  | false => simp [ins_len]
theorem sIns_sub {e x : Ent} {l : List Ent} (h : x ∈ sIns e l) : x = e ∨ x ∈ l := by
  unfold sIns at h
  cases hi : isIn e l with
  | true => rw [hi] at h; exact .inr h
  | false => rw [hi] at h; exact ins_mem.1 h
theorem sIns_up {e : Ent} {l : List Ent} (h : Up l) : Up (sIns e l) := by
  unfold sIns
  cases hi : isIn e l with
  | true => exact h
  | false => exact ins_up h hi
theorem sort_key (es : List Ent) : ∀ acc, Up acc → Up (es.foldl (fun a e => sIns e a) acc) ∧ (es.foldl (fun a e => sIns e a) acc).length ≤ acc.length + es.length ∧ ∀ x ∈ es.foldl (fun a e => sIns e a) acc, x ∈ acc ∨ x ∈ es := by
  induction es with
  | nil => intro acc h; exact ⟨h, by simp, fun x hx => .inl hx⟩
  | cons e r ih =>
    intro acc h
    obtain ⟨h1, h2, h3⟩ := ih (sIns e acc) (sIns_up h)
    have hl := sIns_len e acc
    refine ⟨h1, by simp only [List.foldl_cons, List.length_cons]; omega, fun x hx => ?_⟩
    rcases h3 x hx with h4 | h4
    · rcases sIns_sub h4 with rfl | h4
      · exact .inr (by simp)
      · exact .inl h4
    · exact .inr (List.mem_cons_of_mem _ h4)
theorem sort_up (es : List Ent) : Up (sortE es) := (sort_key es [] List.Pairwise.nil).1
theorem sort_len (es : List Ent) : (sortE es).length ≤ es.length := by
  have h : (sortE es).length ≤ ([] : List Ent).length + es.length := (sort_key es [] List.Pairwise.nil).2.1
  simpa using h
theorem sort_sub {es : List Ent} {x : Ent} (h : x ∈ sortE es) : x ∈ es := by
  rcases (sort_key es [] List.Pairwise.nil).2.2 x h with h | h
  · cases h
  · exact h
theorem low_all {e : Ent} : ∀ {l : List Ent}, (∀ x ∈ l, x.cmp e < 0) → lowE e l = l ∧ highE e l = []
  | [], _ => ⟨rfl, rfl⟩
  | a :: r, h => by
    have h0 : a.cmp e < 0 := h a (by simp)
    obtain ⟨h1, h2⟩ := low_all (l := r) fun x hx => h x (List.mem_cons_of_mem _ hx)
    unfold lowE highE at *
    rw [List.takeWhile_cons, List.dropWhile_cons, if_pos (by simpa using h0), if_pos (by simpa using h0), h1, h2]
    exact ⟨rfl, rfl⟩
/-- What is in order stays. -/
theorem sort_self {es : List Ent} (h : Up es) : sortE es = es := by
  have key : ∀ n, n ≤ es.length → sortE (es.take n) = es.take n := by
    intro n
    induction n with
    | zero => intro _; rfl
    | succ n ih =>
      intro hn
      rw [sort_take (by omega), ih (by omega)]
      have hall : ∀ x ∈ es.take n, x.cmp (es.getD n Ent.none_) < 0 := by
        intro x hx
        obtain ⟨j, hj, rfl⟩ := List.mem_iff_getElem.1 hx
        rw [List.length_take] at hj
        have h2 := (List.pairwise_iff_getElem.1 h) j n (by omega) (by omega) (by omega)
        rw [List.getElem_take, show es.getD n Ent.none_ = es[n] by simp [List.getD, show n < es.length by omega]]
        exact h2
      obtain ⟨l1, l2⟩ := low_all hall
      unfold sIns isIn insE
      rw [l1, l2, List.take_succ_eq_append_getElem (by omega)]
      simp [List.getD, show n < es.length by omega]
  have := key es.length (Nat.le_refl _)
  rwa [List.take_length] at this

/-- Where the first one that is not below a key stands. -/
def seekN (L : List Ent) (u : ByteArray) (s k : Int) : Nat := (lowE ⟨u, s, k, ⟨#[]⟩⟩ L).length
/-- Does it stand at one? -/
def stands (L : List Ent) (a : Int) : Bool := decide (0 ≤ a) && decide (a < L.length)
/-- Where it stands behind a move. -/
def nextA (L : List Ent) (a : Int) : Int := min (a + 1) L.length
def prevA (a : Int) : Int := max (a - 1) (-1)
/-- The entry that it stands at. -/
def atA (L : List Ent) (a : Int) : Option Ent := if stands L a then some (L.getD a.toNat Ent.none_) else none
end Go.Proofs.Ytnmmeaoapfampaa
