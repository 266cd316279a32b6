/-
  Chapter 14: plain facts on putting entries in order so that of alike keys the one that came first stays ahead.
-/
import Derived.Test.YtnmmeaoapfampaaSeekMath
namespace Go.Proofs.Ytnmmeaoapfampaa
open Go.RowKit

theorem cmp_le_trans {a b c : Ent} (h1 : a.cmp b ≤ 0) (h2 : b.cmp c ≤ 0) : a.cmp c ≤ 0 := by
  have h := cmpK_three a.u.data.toList a.s a.k b.u.data.toList b.s b.k c.u.data.toList c.s c.k
  have s1 := cmpK_sgn a.u.data.toList a.s a.k b.u.data.toList b.s b.k
  have s2 := cmpK_sgn b.u.data.toList b.s b.k c.u.data.toList c.s c.k
  unfold Ent.cmp at *
  unfold Three Sgn at *
  omega
theorem cmp_lt_le {a b c : Ent} (h1 : a.cmp b < 0) (h2 : b.cmp c ≤ 0) : a.cmp c < 0 := by
  have h := cmpK_three a.u.data.toList a.s a.k b.u.data.toList b.s b.k c.u.data.toList c.s c.k
  have s1 := cmpK_sgn a.u.data.toList a.s a.k b.u.data.toList b.s b.k
  have s2 := cmpK_sgn b.u.data.toList b.s b.k c.u.data.toList c.s c.k
  unfold Ent.cmp at *
  unfold Three Sgn at *
  omega
theorem cmp_le_lt {a b c : Ent} (h1 : a.cmp b ≤ 0) (h2 : b.cmp c < 0) : a.cmp c < 0 := by
  have h := cmpK_three a.u.data.toList a.s a.k b.u.data.toList b.s b.k c.u.data.toList c.s c.k
  have s1 := cmpK_sgn a.u.data.toList a.s a.k b.u.data.toList b.s b.k
  have s2 := cmpK_sgn b.u.data.toList b.s b.k c.u.data.toList c.s c.k
  unfold Ent.cmp at *
  unfold Three Sgn at *
  omega
theorem cmp_ge {a b : Ent} (h : ¬ a.cmp b < 0) : b.cmp a ≤ 0 := by
  have := cmp_back a b
  omega
theorem cmp_eq_trans {a b c : Ent} (h1 : a.cmp b = 0) (h2 : a.cmp c = 0) : b.cmp c = 0 := by
  have h3 := cmp_back a b
  have h4 := cmp_back a c
  have h5 := cmp_le_trans (a := b) (b := a) (c := c) (by omega) (by omega)
  have h6 := cmp_le_trans (a := c) (b := a) (c := b) (by omega) (by omega)
  have h7 := cmp_back b c
  omega

/-- Of one key? -/
def same (x y : Ent) : Bool := decide (x.cmp y = 0)
/-- The same entries, those of one key in the same order. -/
def Stab (a b : List Ent) : Prop := a.Perm b ∧ ∀ x, a.filter (same x) = b.filter (same x)
/-- In order. -/
def Le (l : List Ent) : Prop := l.Pairwise fun a b => a.cmp b ≤ 0

theorem Stab.refl (a : List Ent) : Stab a a := ⟨List.Perm.refl _, fun _ => rfl⟩
theorem Stab.symm {a b : List Ent} (h : Stab a b) : Stab b a := ⟨h.1.symm, fun x => (h.2 x).symm⟩
theorem Stab.trans {a b c : List Ent} (h : Stab a b) (k : Stab b c) : Stab a c := ⟨h.1.trans k.1, fun x => (h.2 x).trans (k.2 x)⟩
theorem Stab.app {a b c d : List Ent} (h : Stab a b) (k : Stab c d) : Stab (a ++ c) (b ++ d) := ⟨h.1.append k.1, fun x => by rw [List.filter_append, List.filter_append, h.2 x, k.2 x]⟩
theorem Stab.len {a b : List Ent} (h : Stab a b) : a.length = b.length := h.1.length_eq
theorem Stab.mem {a b : List Ent} (h : Stab a b) {x : Ent} : x ∈ a ↔ x ∈ b := h.1.mem_iff
/-- Two parts of which no key is in both change places. -/
theorem Stab.swap {a b : List Ent} (h : ∀ x ∈ a, ∀ y ∈ b, x.cmp y ≠ 0) : Stab (a ++ b) (b ++ a) := by
  refine ⟨List.perm_append_comm, fun z => ?_⟩
  rw [List.filter_append, List.filter_append]
  by_cases ha : a.filter (same z) = []
  · rw [ha, List.nil_append, List.append_nil]
  · by_cases hb : b.filter (same z) = []
    · rw [hb, List.nil_append, List.append_nil]
    · exfalso
      obtain ⟨x, hx⟩ := List.exists_mem_of_ne_nil _ ha
      obtain ⟨y, hy⟩ := List.exists_mem_of_ne_nil _ hb
      rw [List.mem_filter] at hx hy
      exact h x hx.1 y hy.1 (cmp_eq_trans (of_decide_eq_true hx.2) (of_decide_eq_true hy.2))

theorem Le.nil : Le [] := List.Pairwise.nil
theorem Le.one (x : Ent) : Le [x] := List.pairwise_singleton _ _
theorem Le.app {a b : List Ent} (ha : Le a) (hb : Le b) (h : ∀ x ∈ a, ∀ y ∈ b, x.cmp y ≤ 0) : Le (a ++ b) := List.pairwise_append.2 ⟨ha, hb, h⟩
theorem Le.left {a b : List Ent} (h : Le (a ++ b)) : Le a := (List.pairwise_append.1 h).1
theorem Le.right {a b : List Ent} (h : Le (a ++ b)) : Le b := (List.pairwise_append.1 h).2.1
theorem Le.mid {a b : List Ent} (h : Le (a ++ b)) : ∀ x ∈ a, ∀ y ∈ b, x.cmp y ≤ 0 := (List.pairwise_append.1 h).2.2
theorem Le.le_last {a : List Ent} {y : Ent} (h : Le (a ++ [y])) : ∀ x ∈ a ++ [y], x.cmp y ≤ 0 := by
  intro x hx
  rcases List.mem_append.1 hx with h1 | h1
  · exact h.mid x h1 y (by simp)
  · rw [List.mem_singleton.1 h1, cmp_self]; omega
theorem Le.first_le {b : List Ent} {y : Ent} (h : Le (y :: b)) : ∀ x ∈ y :: b, y.cmp x ≤ 0 := by
  intro x hx
  rcases List.mem_cons.1 hx with rfl | h1
  · rw [cmp_self]; omega
  · exact (List.pairwise_cons.1 h).1 x h1

/-- An entry laid into what is in order, behind those not above it and ahead of those above it. -/
theorem ins_le {A B : List Ent} {x : Ent} (h : Le (A ++ B)) (hA : ∀ y ∈ A, y.cmp x ≤ 0) (hB : ∀ y ∈ B, x.cmp y < 0) : Le (A ++ x :: B) := by
  refine Le.app h.left (List.pairwise_cons.2 ⟨fun y hy => Int.le_of_lt (hB y hy), h.right⟩) fun u hu v hv => ?_
  rcases List.mem_cons.1 hv with rfl | hv
  · exact hA u hu
  · exact h.mid u hu v hv
theorem ins_stab {X A B : List Ent} {x : Ent} (h : Stab X (A ++ B)) (hB : ∀ y ∈ B, x.cmp y < 0) : Stab (X ++ [x]) (A ++ x :: B) := by
  have h1 : Stab (X ++ [x]) (A ++ B ++ [x]) := h.app (Stab.refl _)
  have h2 : Stab (B ++ [x]) ([x] ++ B) := Stab.swap fun y hy z hz => by
    rw [List.mem_singleton.1 hz]
    have := hB y hy
    have := cmp_back x y
    omega
  refine h1.trans ?_
  rw [List.append_assoc]
  exact (Stab.refl A).app h2
/-- .. and ahead of those not below it. -/
theorem ins_le' {A B : List Ent} {x : Ent} (h : Le (A ++ B)) (hA : ∀ y ∈ A, y.cmp x < 0) (hB : ∀ y ∈ B, x.cmp y ≤ 0) : Le (A ++ x :: B) := by
  refine Le.app h.left (List.pairwise_cons.2 ⟨fun y hy => hB y hy, h.right⟩) fun u hu v hv => ?_
  rcases List.mem_cons.1 hv with rfl | hv
  · exact Int.le_of_lt (hA u hu)
  · exact h.mid u hu v hv
theorem ins_stab' {A B : List Ent} {x : Ent} (hA : ∀ y ∈ A, y.cmp x < 0) : Stab (x :: (A ++ B)) (A ++ x :: B) := by
  have h2 : Stab ([x] ++ A) (A ++ [x]) := Stab.swap fun z hz y hy => by
    rw [List.mem_singleton.1 hz]
    have := hA y hy
    have := cmp_back x y
    omega
  have := h2.app (Stab.refl B)
  simpa using this
/-- Two parts that are in order, cut and laid anew. -/
theorem halves {x1 x2 y1 y2 z1 z2 : List Ent} (hx : Le (x1 ++ x2)) (hy : Le (y1 ++ y2)) (h1 : ∀ u ∈ x1, ∀ v ∈ y2, u.cmp v ≤ 0) (h2 : ∀ u ∈ y1, ∀ v ∈ x2, u.cmp v < 0)
    (hz1 : Le z1) (hz2 : Le z2) (hs1 : Stab (x1 ++ y1) z1) (hs2 : Stab (x2 ++ y2) z2) : Le (z1 ++ z2) ∧ Stab ((x1 ++ x2) ++ (y1 ++ y2)) (z1 ++ z2) := by
  constructor
  · refine Le.app hz1 hz2 fun u hu v hv => ?_
    rcases List.mem_append.1 (hs1.mem.2 hu) with a | a <;> rcases List.mem_append.1 (hs2.mem.2 hv) with b | b
    · exact hx.mid u a v b
    · exact h1 u a v b
    · exact Int.le_of_lt (h2 u a v b)
    · exact hy.mid u a v b
  · have h3 : Stab (x2 ++ y1) (y1 ++ x2) := Stab.swap fun v hv u hu => by
      have := h2 u hu v hv
      have := cmp_back u v
      omega
    have h4 := ((Stab.refl x1).app h3).app (Stab.refl y2)
    have h5 := hs1.app hs2
    simp only [List.append_assoc] at h4 h5 ⊢
    exact h4.trans h5
theorem le_at {l : List Ent} (h : Le l) {i j : Nat} (hij : i < j) (hj : j < l.length) : (l.getD i Ent.none_).cmp (l.getD j Ent.none_) ≤ 0 := by
  have := (List.pairwise_iff_getElem.1 h) i j (by omega) hj hij
  simpa [List.getD, hj, show i < l.length by omega] using this

/-- In order in each part of so many. -/
def Blocks (s : Nat) (l : List Ent) : Prop := ∀ i j, i < j → j < l.length → i / s = j / s → (l.getD i Ent.none_).cmp (l.getD j Ent.none_) ≤ 0
theorem Blocks.nil (s : Nat) : Blocks s [] := fun i j _ h => by simp at h
theorem Blocks.all {s : Nat} {l : List Ent} (h : Blocks s l) (hs : l.length ≤ s) : Le l := by
  refine List.pairwise_iff_getElem.2 fun i j hi hj hij => ?_
  have := h i j hij hj (by rw [Nat.div_eq_of_lt (by omega), Nat.div_eq_of_lt (by omega)])
  simpa [List.getD, hi, hj] using this
theorem getD_left {a b : List Ent} {i : Nat} (h : i < a.length) : (a ++ b).getD i Ent.none_ = a.getD i Ent.none_ := by
  simp [List.getD, List.getElem?_append_left h]
theorem getD_right {a b : List Ent} {i : Nat} (h : a.length ≤ i) : (a ++ b).getD i Ent.none_ = b.getD (i - a.length) Ent.none_ := by
  simp [List.getD, List.getElem?_append_right h]
theorem getD_at {a b : List Ent} {x : Ent} {i : Nat} (h : i = a.length) : (a ++ x :: b).getD i Ent.none_ = x := by
  rw [getD_right (by omega), h, Nat.sub_self]; rfl
theorem Blocks.snoc {s t : Nat} {D S : List Ent} (h : Blocks s D) (hs : Le S) (hd : D.length = s * t) (hl : S.length ≤ s) (hs0 : 0 < s) : Blocks s (D ++ S) := by
  intro i j hij hj he
  rw [List.length_append] at hj
  by_cases h1 : j < D.length
  · rw [getD_left (by omega), getD_left h1]
    exact h i j hij h1 he
  · have hjt : j / s = t := by
      refine Nat.div_eq_of_lt_le ?_ ?_
      · rw [Nat.mul_comm]; omega
      · rw [Nat.mul_comm, Nat.mul_add]; omega
    have hit : ¬ i < D.length := by
      intro h2
      have : i / s < t := (Nat.div_lt_iff_lt_mul hs0).2 (by rw [Nat.mul_comm]; omega)
      omega
    rw [getD_right (by omega), getD_right (by omega)]
    exact le_at hs (by omega) (by omega)
/-- One part of it. -/
theorem Blocks.part {s t : Nat} {D S R : List Ent} (h : Blocks s (D ++ (S ++ R))) (hd : D.length = s * t) (hl : S.length ≤ s) : Le S := by
  refine List.pairwise_iff_getElem.2 fun i j hi hj hij => ?_
  have hd2 : ∀ k, k < S.length → (D.length + k) / s = t := fun k hk => by
    refine Nat.div_eq_of_lt_le ?_ ?_
    · rw [Nat.mul_comm]; omega
    · rw [Nat.mul_comm, Nat.mul_add]; omega
  have := h (D.length + i) (D.length + j) (by omega) (by simp; omega) (by rw [hd2 i hi, hd2 j hj])
  have hat : ∀ k, k < S.length → (D ++ (S ++ R)).getD (D.length + k) Ent.none_ = S.getD k Ent.none_ := fun k hk => by
    rw [getD_right (a := D) (by omega), Nat.add_sub_cancel_left, getD_left hk]
  rw [hat i hi, hat j hj] at this
  simpa [List.getD, hi, hj] using this
end Go.Proofs.Ytnmmeaoapfampaa
