/-
  Chapter 14: plain facts: the first entry of each key, told in two ways.
-/
import Derived.Test.YtabmdhbikedhmaaSeekCpt
import Derived.Test.YtabmdhbikedhmaaUpExt
namespace Go.Proofs.Ytabmdhbikedhmaa
open Go.RowKit

theorem same_iff {x y : Ent} : same x y = true ↔ x.cmp y = 0 := by unfold same; simp
theorem same_turn {x y : Ent} (h : x.cmp y = 0) : y.cmp x = 0 := by have := cmp_back x y; omega
theorem filter_same {x y : Ent} (h : x.cmp y = 0) (l : List Ent) : l.filter (same x) = l.filter (same y) := by
  refine List.filter_congr fun z _ => ?_
  rw [Bool.eq_iff_iff, same_iff, same_iff]
  exact ⟨fun h1 => cmp_eq_trans h h1, fun h1 => cmp_eq_trans (same_turn h) h1⟩
/-- 'A' has the first entry of each key. -/
def FirstOf (base A : List Ent) : Prop := ∀ x, x ∈ A ↔ (base.filter (same x)).head? = some x
theorem FirstOf.nil : FirstOf [] [] := fun x => by simp
theorem FirstOf.sub {base A : List Ent} (h : FirstOf base A) {x : Ent} (hx : x ∈ A) : x ∈ base := by
  have h1 := List.mem_of_head? ((h x).1 hx)
  exact (List.mem_filter.1 h1).1
theorem FirstOf.has {base A : List Ent} (h : FirstOf base A) {y : Ent} (hy : y ∈ base) : ∃ z ∈ A, z.cmp y = 0 := by
  have h1 : y ∈ base.filter (same y) := List.mem_filter.2 ⟨hy, same_iff.2 (cmp_self y)⟩
  cases hf : base.filter (same y) with
  | nil => rw [hf] at h1; cases h1
  | cons z r =>
    have h2 : z ∈ base.filter (same y) := by rw [hf]; simp
    have h3 := same_iff.1 (List.mem_filter.1 h2).2
    refine ⟨z, (h z).2 ?_, same_turn h3⟩
    rw [filter_same (same_turn h3), hf]
    rfl
theorem FirstOf.old {base A : List Ent} {e : Ent} (h : FirstOf base A) (he : ∃ y ∈ base, y.cmp e = 0) : FirstOf (base ++ [e]) A := by
  intro x
  rw [h x, List.filter_append]
  cases hf : base.filter (same x) with
  | cons z r => rfl
  | nil =>
    constructor
    · intro h1; cases h1
    · intro h1
      exfalso
      rw [List.nil_append, List.filter_cons, List.filter_nil] at h1
      by_cases hs : same x e = true
      · rw [if_pos hs] at h1
        obtain ⟨y, hy, hc⟩ := he
        have : y ∈ base.filter (same x) := List.mem_filter.2 ⟨hy, same_iff.2 (cmp_eq_trans (same_turn (same_iff.1 hs)) (same_turn hc))⟩
        rw [hf] at this
        cases this
      · rw [if_neg hs] at h1
        cases h1
theorem FirstOf.new {base A A' : List Ent} {e : Ent} (h : FirstOf base A) (he : ∀ y ∈ base, y.cmp e ≠ 0) (hA : ∀ x, x ∈ A' ↔ x = e ∨ x ∈ A) : FirstOf (base ++ [e]) A' := by
  intro x
  rw [hA, h x, List.filter_append]
  cases hf : base.filter (same x) with
  | cons z r =>
    constructor
    · rintro (rfl | h1)
      · exfalso
        have h2 : z ∈ base.filter (same x) := by rw [hf]; simp
        exact he z (List.mem_filter.1 h2).1 (same_turn (same_iff.1 (List.mem_filter.1 h2).2))
      · exact h1
    · intro h1
      exact .inr h1
  | nil =>
    rw [List.nil_append, List.filter_cons, List.filter_nil]
    constructor
    · rintro (rfl | h1)
      · rw [if_pos (same_iff.2 (cmp_self x))]; rfl
      · cases h1
    · intro h1
      by_cases hs : same x e = true
      · rw [if_pos hs] at h1
        left
        cases h1
        rfl
      · rw [if_neg hs] at h1
        cases h1
theorem firstOf_sort : ∀ (n : Nat) (es : List Ent), es.length = n → FirstOf es (sortE es)
  | 0, es, h => by
    obtain rfl := List.eq_nil_of_length_eq_zero h
    exact FirstOf.nil
  | n + 1, es, h => by
    have hi : n < es.length := by omega
    have e1 : es = es.take n ++ [es.getD n Ent.none_] := by
      conv => lhs; rw [← List.take_length (l := es), h, List.take_succ_eq_append_getElem hi]
      simp [List.getD, hi]
    have e2 : sortE es = sIns (es.getD n Ent.none_) (sortE (es.take n)) := by
      conv => lhs; rw [← List.take_length (l := es), h, sort_take hi]
    have ih := firstOf_sort n (es.take n) (by rw [List.length_take]; omega)
    obtain ⟨T, hT⟩ : ∃ T, T = es.take n := ⟨_, rfl⟩
    obtain ⟨e, he⟩ : ∃ e, e = es.getD n Ent.none_ := ⟨_, rfl⟩
    rw [← hT] at e1 e2 ih
    rw [← he] at e1 e2
    rw [e2, e1]
    have hu := sort_up T
    unfold sIns
    cases hc : isIn e (sortE T) with
    | true =>
      obtain ⟨y, hy, hyc⟩ := (isIn_mem hu).1 hc
      have := ih.old (e := e) ⟨y, ih.sub hy, hyc⟩
      simpa using this
    | false =>
      have := ih.new (e := e) (A' := insE e (sortE T)) (fun y hy hyc => by
        obtain ⟨z, hz, hzc⟩ := ih.has hy
        have : isIn e (sortE T) = true := (isIn_mem hu).2 ⟨z, hz, cmp_eq_trans (same_turn hzc) hyc⟩
        rw [hc] at this
        cases this) (fun x => ins_mem)
      simpa using this
theorem cpN_sub {l : List Ent} : ∀ {j : Nat}, j ≤ l.length → ∀ x ∈ cpN l j, ∃ i, i < j ∧ l.getD i Ent.none_ = x
  | 0, _, x, hx => by cases hx
  | j + 1, hj, x, hx => by
    unfold cpN at hx
    rcases List.mem_append.1 hx with h1 | h1
    · obtain ⟨i, hi, he⟩ := cpN_sub (by omega) x h1
      exact ⟨i, by omega, he⟩
    · split at h1
      · exact ⟨j, by omega, (List.mem_singleton.1 h1).symm⟩
      · cases h1
theorem keep_all {l : List Ent} (hl : Le l) {j : Nat} (hj : j < l.length) : keepAt l j = true ↔ ∀ i, i < j → (l.getD i Ent.none_).cmp (l.getD j Ent.none_) < 0 := by
  cases j with
  | zero => simp [keepAt]
  | succ j =>
    have h1 := le_at hl (i := j) (j := j + 1) (by omega) hj
    have hk : keepAt l (j + 1) = true ↔ (l.getD (j + 1) Ent.none_).cmp (l.getD j Ent.none_) ≠ 0 := by
      unfold keepAt same
      simp
    rw [hk]
    have h2 := cmp_back (l.getD j Ent.none_) (l.getD (j + 1) Ent.none_)
    constructor
    · intro h i hi
      have h3 : (l.getD j Ent.none_).cmp (l.getD (j + 1) Ent.none_) < 0 := by omega
      exact cmp_le_lt (le_at' hl (i := i) (j := j) (by omega) (by omega)) h3
    · intro h
      have := h j (by omega)
      omega
theorem firstOf_cpN {l : List Ent} (hl : Le l) : ∀ j, j ≤ l.length → FirstOf (l.take j) (cpN l j) ∧ Up (cpN l j)
  | 0, _ => ⟨by rw [List.take_zero]; exact FirstOf.nil, List.Pairwise.nil⟩
  | j + 1, hj => by
    obtain ⟨h1, h2⟩ := firstOf_cpN hl j (by omega)
    have e1 : l.take (j + 1) = l.take j ++ [l.getD j Ent.none_] := by
      rw [List.take_succ_eq_append_getElem (by omega)]
      simp [List.getD, show j < l.length by omega]
    rw [e1]
    cases hk : keepAt l j with
    | true =>
      rw [cpN_yes hk]
      have hlt := (keep_all hl (by omega)).1 hk
      refine ⟨h1.new (fun y hy => ?_) (fun x => by simp [or_comm]), ?_⟩
      · obtain ⟨i, hi, rfl⟩ := List.mem_iff_getElem.1 hy
        rw [List.length_take] at hi
        have := hlt i (by omega)
        rw [List.getElem_take]
        have e3 : l.getD i Ent.none_ = l[i] := by simp [List.getD, show i < l.length by omega]
        rw [e3] at this
        omega
      · refine List.pairwise_append.2 ⟨h2, List.pairwise_singleton _ _, fun x hx y hy => ?_⟩
        obtain ⟨i, hi, rfl⟩ := cpN_sub (by omega) x hx
        rw [List.mem_singleton.1 hy]
        exact hlt i hi
    | false =>
      rw [cpN_no hk]
      refine ⟨h1.old ?_, h2⟩
      cases j with
      | zero => simp [keepAt] at hk
      | succ j =>
        refine ⟨l.getD j Ent.none_, ?_, ?_⟩
        · have hjl : j < l.length := by omega
          have hm : j < (l.take (j + 1)).length := by rw [List.length_take]; omega
          have := List.getElem_mem hm
          rw [List.getElem_take] at this
          simpa [List.getD, hjl] using this
        · unfold keepAt same at hk
          simp at hk
          exact same_turn hk
/-- Put in order, of each key the first alone. -/
theorem cpN_sort {es l : List Ent} (hs : Stab es l) (hl : Le l) : cpN l l.length = sortE es := by
  obtain ⟨h1, h2⟩ := firstOf_cpN hl l.length (Nat.le_refl _)
  rw [List.take_length] at h1
  refine up_ext h2 (sort_up es) fun x => ?_
  rw [h1 x, firstOf_sort _ es rfl x, hs.2 x]
end Go.Proofs.Ytabmdhbikedhmaa
