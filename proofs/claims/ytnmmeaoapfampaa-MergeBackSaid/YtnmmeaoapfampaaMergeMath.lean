/-
  Chapter 15: plain facts: entries of many lists as one; what is seen of them.
-/
import Derived.Test.YtnmmeaoapfampaaSeekMath
import Derived.Test.YtnmmeaoapfampaaBlkMake
namespace Go.Proofs.Ytnmmeaoapfampaa
open Go.RowKit

theorem up_same : ∀ {L M : List Ent}, Up L → Up M → (∀ x, x ∈ L ↔ x ∈ M) → L = M
  | [], [], _, _, _ => rfl
  | [], b :: t, _, _, h => by have := (h b).2 (by simp); simp at this
  | a :: r, [], _, _, h => by have := (h a).1 (by simp); simp at this
  | a :: r, b :: t, h1, h2, h => by
    have h1' := List.pairwise_cons.1 h1
    have h2' := List.pairwise_cons.1 h2
    have hab : a = b := by
      refine Classical.byContradiction fun hne => ?_
      have ha : a ∈ t := by
        rcases List.mem_cons.1 ((h a).1 (by simp)) with e | e
        · exact absurd e hne
        · exact e
      have hb : b ∈ r := by
        rcases List.mem_cons.1 ((h b).2 (by simp)) with e | e
        · exact absurd e.symm hne
        · exact e
      have c1 := h1'.1 b hb
      have c2 := h2'.1 a ha
      rw [cmp_back a b] at c2
      omega
    subst hab
    congr 1
    refine up_same h1'.2 h2'.2 fun x => ?_
    constructor
    · intro hx
      rcases List.mem_cons.1 ((h x).1 (by simp [hx])) with e | e
      · have := h1'.1 x hx
        rw [e, cmp_self] at this; omega
      · exact e
    · intro hx
      rcases List.mem_cons.1 ((h x).2 (by simp [hx])) with e | e
      · have := h2'.1 x hx
        rw [e, cmp_self] at this; omega
      · exact e

theorem up_one {L : List Ent} (h : Up L) {x y : Ent} (hx : x ∈ L) (hy : y ∈ L) (hc : x.cmp y = 0) : x = y := by
  obtain ⟨i, hi, rfl⟩ := List.mem_iff_getElem.1 hx
  obtain ⟨j, hj, rfl⟩ := List.mem_iff_getElem.1 hy
  have h2 := List.pairwise_iff_getElem.1 h
  rcases Nat.lt_trichotomy i j with hij | rfl | hij
  · have := h2 i j hi hj hij; omega
  · rfl
  · have := h2 j i hj hi hij; have hb := cmp_back L[i] L[j]; omega
theorem sIns_old {e x : Ent} {l : List Ent} (h : x ∈ l) : x ∈ sIns e l := by
  unfold sIns
  cases isIn e l with
  | true => exact h
  | false => exact ins_mem.2 (.inr h)
theorem sIns_new (e : Ent) {l : List Ent} (hu : Up l) : ∃ y ∈ sIns e l, y.cmp e = 0 := by
  unfold sIns
  cases h : isIn e l with
  | true => exact (isIn_mem hu).1 h
  | false => exact ⟨e, ins_mem.2 (.inl rfl), cmp_self e⟩
theorem sort_in {es : List Ent} {x : Ent} (h : x ∈ es) : ∃ y ∈ sortE es, y.cmp x = 0 := by
  have key : ∀ (es acc : List Ent), Up acc → (∀ x ∈ acc, x ∈ es.foldl (fun a e => sIns e a) acc) ∧ ∀ x ∈ es, ∃ y ∈ es.foldl (fun a e => sIns e a) acc, y.cmp x = 0 := by
    intro es
    induction es with
    | nil => exact fun acc _ => ⟨fun x h => h, fun x h => by cases h⟩
    | cons e r ih =>
      intro acc hu
      obtain ⟨h1, h2⟩ := ih (sIns e acc) (sIns_up hu)
      refine ⟨fun x hx => h1 x (sIns_old hx), fun x hx => ?_⟩
      rcases List.mem_cons.1 hx with rfl | hx
      · obtain ⟨y, hy, hc⟩ := sIns_new x hu
        exact ⟨y, h1 y hy, hc⟩
      · exact h2 x hx
  exact (key es [] List.Pairwise.nil).2 x h
/-- Whatever the order in which they come, and however often. -/
theorem sort_all {es L : List Ent} (hL : Up L) (h : ∀ x, x ∈ es ↔ x ∈ L) : sortE es = L :=
  up_same (sort_up es) hL fun x => ⟨fun hx => (h x).1 (sort_sub hx), fun hx => by
    obtain ⟨y, hy, hc⟩ := sort_in ((h x).2 hx)
    rw [← up_one hL ((h y).1 (sort_sub hy)) hx hc]
    exact hy⟩
theorem sort_snoc (es : List Ent) (e : Ent) : sortE (es ++ [e]) = sIns e (sortE es) := by unfold sortE; rw [List.foldl_append]; rfl

/-- Entries of many lists as one. -/
def mergeE (l : List (List Ent)) : List Ent := sortE l.flatten
theorem merge_of {l : List (List Ent)} {L : List Ent} (hL : Up L) (h : ∀ x, x ∈ l.flatten ↔ x ∈ L) : mergeE l = L := sort_all hL h
/-- Of two lists with one key the first one's counts, and it comes last. -/
theorem merge_ends {L : List Ent} (hL : Up L) {a b : Ent} (ha : ∀ x ∈ L, x.cmp a < 0) (hab : a.cmp b = 0) : mergeE [[a], L, [b]] = L ++ [a] := by
  have hup : Up (L ++ [a]) := by
    unfold Up
    rw [List.pairwise_append]
    exact ⟨hL, List.pairwise_singleton _ _, fun x hx y hy => by rw [List.mem_singleton.1 hy]; exact ha x hx⟩
  have h1 : sortE (a :: L) = L ++ [a] := sort_all hup fun x => by simp [or_comm]
  unfold mergeE
  rw [show [[a], L, [b]].flatten = (a :: L) ++ [b] by simp, sort_snoc, h1]
  unfold sIns
  rw [(isIn_mem hup).2 ⟨a, by simp, hab⟩]
  rfl

/-! ### What is seen. -/

/-- Does an entry lie where one looks? -/
def inV (seq : Int) (lo hi : ByteArray) (e : Ent) : Bool := decide (e.s ≤ seq) && decide (0 ≤ cmpL e.u.data.toList lo.data.toList) && (decide (hi.size = 0) || decide (cmpL e.u.data.toList hi.data.toList < 0))
def seenV (p : Ent → Bool) (L : List Ent) (i : Nat) (u : ByteArray) : Bool := (L.take i).any fun x => decide (x.u = u) && p x
def tookV (p : Ent → Bool) (L : List Ent) (i : Nat) : Bool := p (L.getD i Ent.none_) && !seenV p L i (L.getD i Ent.none_).u
def rowsV (p : Ent → Bool) (L : List Ent) (n : Nat) : List Ent := ((List.range n).filter (tookV p L)).map fun i => L.getD i Ent.none_
def pairsV (l : List Ent) : List (ByteArray × ByteArray) := (l.filter fun e => decide (e.k = 1)).map fun e => (e.u, e.v)
def someV {α : Type} (l : List α) (back : Bool) (most : Int) : List α := (if back then l.reverse else l).take most.toNat
def allV (L : List Ent) (seq : Int) (lo hi : ByteArray) : List (ByteArray × ByteArray) := pairsV (rowsV (inV seq lo hi) L L.length)
def viewV (L : List Ent) (seq : Int) (lo hi : ByteArray) (back : Bool) (most : Int) : List (ByteArray × ByteArray) := someV (allV L seq lo hi) back most

theorem rows_succ (p : Ent → Bool) (L : List Ent) (n : Nat) : rowsV p L (n + 1) = rowsV p L n ++ if tookV p L n then [L.getD n Ent.none_] else [] := by
  unfold rowsV
  rw [List.range_succ, List.filter_append, List.map_append]
  congr 1
  cases h : tookV p L n <;> simp [h]
theorem pairs_append (a b : List Ent) : pairsV (a ++ b) = pairsV a ++ pairsV b := by unfold pairsV; rw [List.filter_append, List.map_append]
theorem seen_succ (p : Ent → Bool) {L : List Ent} {i : Nat} (h : i < L.length) (u : ByteArray) : seenV p L (i + 1) u = (seenV p L i u || (decide ((L.getD i Ent.none_).u = u) && p (L.getD i Ent.none_))) := by
  unfold seenV
  rw [List.take_succ_eq_append_getElem h, List.any_append]
  simp [List.getD, h]
theorem rows_sub {p : Ent → Bool} {L : List Ent} {n : Nat} (hn : n ≤ L.length) {e : Ent} (h : e ∈ rowsV p L n) : e ∈ L ∧ p e = true := by
  unfold rowsV at h
  obtain ⟨i, hi, rfl⟩ := List.mem_map.1 h
  obtain ⟨h1, h2⟩ := List.mem_filter.1 hi
  rw [List.mem_range] at h1
  unfold tookV at h2
  rw [Bool.and_eq_true] at h2
  exact ⟨by simp [List.getD, show i < L.length by omega], h2.1⟩
theorem rows_len (p : Ent → Bool) (L : List Ent) (n : Nat) : (rowsV p L n).length ≤ n := by
  unfold rowsV
  rw [List.length_map]
  exact Nat.le_trans (List.length_filter_le _ _) (by simp)
theorem all_len (L : List Ent) (seq : Int) (lo hi : ByteArray) : (allV L seq lo hi).length ≤ L.length := by
  unfold allV pairsV
  rw [List.length_map]
  exact Nat.le_trans (List.length_filter_le _ _) (rows_len _ _ _)
theorem some_back {α : Type} (l : List α) (most : Int) : someV l true most = someV l.reverse false most := rfl
theorem some_all {α : Type} (l : List α) {most : Int} (h : (l.length : Int) ≤ most) (back : Bool) : someV l back most = if back then l.reverse else l := by
  unfold someV
  cases back
  · exact List.take_of_length_le (show l.length ≤ most.toNat by omega)
  · exact List.take_of_length_le (show l.reverse.length ≤ most.toNat by rw [List.length_reverse]; omega)
end Go.Proofs.Ytnmmeaoapfampaa
