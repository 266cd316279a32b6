/-
  Chapter 15: plain facts: what is seen of entries in order: users rise; between any keys it is cut out of the whole.
-/
import Derived.Test.YtnmmeaoapfampaaMergeMath
namespace Go.Proofs.Ytnmmeaoapfampaa
open Go.RowKit

theorem up_le {L : List Ent} (h : Up L) {i j : Nat} (hij : i ≤ j) (hj : j < L.length) : cmpL (L.getD i Ent.none_).u.data.toList (L.getD j Ent.none_).u.data.toList ≤ 0 := by
  rcases Nat.lt_or_ge i j with h1 | h1
  · have h2 := (List.pairwise_iff_getElem.1 h) i j (by omega) hj h1
    rw [show L[i]'(by omega) = L.getD i Ent.none_ by simp [List.getD, show i < L.length by omega], show L[j] = L.getD j Ent.none_ by simp [List.getD, hj]] at h2
    have h3 : lex (cmpL (L.getD i Ent.none_).u.data.toList (L.getD j Ent.none_).u.data.toList) _ < 0 := h2
    have hs := cmpL_sgn (L.getD i Ent.none_).u.data.toList (L.getD j Ent.none_).u.data.toList
    unfold lex at h3
    unfold Sgn at hs
    split at h3 <;> omega
  · obtain rfl : i = j := by omega
    rw [(cmpL_zero _ _).2 rfl]
    exact Int.le_refl _
theorem usr_eq {a b : ByteArray} : cmpL a.data.toList b.data.toList = 0 ↔ a = b := by
  rw [cmpL_zero]
  exact ⟨fun h => ByteArray.ext (Array.toList_inj.1 h), fun h => by rw [h]⟩
theorem usr_lt {a b : ByteArray} (h : cmpL a.data.toList b.data.toList ≤ 0) (hn : a ≠ b) : cmpL a.data.toList b.data.toList = -1 := by
  have hs := cmpL_sgn a.data.toList b.data.toList
  unfold Sgn at hs
  rcases hs with h1 | h1 | h1
  · exact h1
  · exact absurd (usr_eq.1 h1) hn
  · omega
/-- Where a user begins, nothing of it has been seen. -/
theorem seen_new {L : List Ent} (h : Up L) (p : Ent → Bool) {i : Nat} (hi : i + 1 < L.length) (hn : (L.getD i Ent.none_).u ≠ (L.getD (i + 1) Ent.none_).u) : seenV p L (i + 1) (L.getD (i + 1) Ent.none_).u = false := by
  unfold seenV
  rw [List.any_eq_false]
  intro x hx hd
  rw [Bool.and_eq_true, decide_eq_true_eq] at hd
  obtain ⟨j, hj, rfl⟩ := List.mem_iff_getElem.1 hx
  rw [List.length_take] at hj
  rw [List.getElem_take, show L[j]'(by omega) = L.getD j Ent.none_ by simp [List.getD, show j < L.length by omega]] at hd
  have h1 := up_le h (i := j) (j := i) (by omega) (by omega)
  rw [hd.1] at h1
  have h2 := usr_lt (up_le h (i := i) (j := i + 1) (by omega) hi) hn
  have h3 := cmpL_turn (L.getD i Ent.none_).u.data.toList (L.getD (i + 1) Ent.none_).u.data.toList
  omega
theorem row_at {p : Ent → Bool} {L : List Ent} {n : Nat} {e : Ent} (h : e ∈ rowsV p L n) : ∃ i, i < n ∧ e = L.getD i Ent.none_ ∧ tookV p L i = true := by
  unfold rowsV at h
  obtain ⟨i, hi, rfl⟩ := List.mem_map.1 h
  obtain ⟨h1, h2⟩ := List.mem_filter.1 hi
  exact ⟨i, by simpa using h1, rfl, h2⟩
theorem rows_in {p : Ent → Bool} {L : List Ent} {n i : Nat} (hi : i < n) (h : tookV p L i = true) : L.getD i Ent.none_ ∈ rowsV p L n := by
  unfold rowsV
  exact List.mem_map.2 ⟨i, List.mem_filter.2 ⟨by simpa using hi, h⟩, rfl⟩
theorem rows_rise {L : List Ent} (h : Up L) (p : Ent → Bool) : ∀ n, n ≤ L.length → (rowsV p L n).Pairwise fun a b => cmpL a.u.data.toList b.u.data.toList = -1
  | 0, _ => List.Pairwise.nil
  | n + 1, hn => by
    rw [rows_succ, List.pairwise_append]
    refine ⟨rows_rise h p n (by omega), ?_, ?_⟩
    · split
      · exact List.pairwise_singleton _ _
      · exact List.Pairwise.nil
    · intro a ha b hb
      split at hb
      · rename_i ht
        rw [List.mem_singleton.1 hb]
        obtain ⟨i, hi, rfl, hti⟩ := row_at ha
        refine usr_lt (up_le h (by omega) (by omega)) fun e => ?_
        unfold tookV at ht hti
        rw [Bool.and_eq_true] at ht hti
        have hs : seenV p L n (L.getD n Ent.none_).u = true := by
          unfold seenV
          rw [List.any_eq_true]
          refine ⟨L.getD i Ent.none_, ?_, by rw [e, hti.1]; simp⟩
          rw [List.mem_iff_getElem]
          exact ⟨i, by rw [List.length_take]; omega, by rw [List.getElem_take]; simp [List.getD, show i < L.length by omega]⟩
        rw [hs] at ht
        simp at ht
      · cases hb
theorem all_rise {L : List Ent} (h : Up L) (seq : Int) (lo hi : ByteArray) : (allV L seq lo hi).Pairwise fun a b => cmpL a.1.data.toList b.1.data.toList = -1 := by
  unfold allV pairsV
  rw [List.pairwise_map]
  exact (rows_rise h _ _ (Nat.le_refl _)).filter _

/-- Does a user lie between two keys? -/
def inK (lo hi u : ByteArray) : Bool := decide (0 ≤ cmpL u.data.toList lo.data.toList) && (decide (hi.size = 0) || decide (cmpL u.data.toList hi.data.toList < 0))
def inS (seq : Int) (e : Ent) : Bool := decide (e.s ≤ seq)
theorem inV_eq (seq : Int) (lo hi : ByteArray) (e : Ent) : inV seq lo hi e = (inS seq e && inK lo hi e.u) := by unfold inV inK inS; rw [Bool.and_assoc]
theorem seen_cut (seq : Int) (lo hi : ByteArray) (L : List Ent) (i : Nat) (u : ByteArray) : seenV (inV seq lo hi) L i u = (seenV (inS seq) L i u && inK lo hi u) := by
  unfold seenV
  rw [Bool.eq_iff_iff, Bool.and_eq_true, List.any_eq_true, List.any_eq_true]
  constructor
  · rintro ⟨x, hx, h⟩
    rw [inV_eq, Bool.and_eq_true, Bool.and_eq_true, decide_eq_true_eq] at h
    exact ⟨⟨x, hx, by rw [Bool.and_eq_true, decide_eq_true_eq]; exact ⟨h.1, h.2.1⟩⟩, by rw [← h.1]; exact h.2.2⟩
  · rintro ⟨⟨x, hx, h⟩, hk⟩
    rw [Bool.and_eq_true, decide_eq_true_eq] at h
    exact ⟨x, hx, by rw [inV_eq, Bool.and_eq_true, Bool.and_eq_true, decide_eq_true_eq]; exact ⟨h.1, h.2, by rw [h.1]; exact hk⟩⟩
theorem took_cut (seq : Int) (lo hi : ByteArray) (L : List Ent) (i : Nat) : tookV (inV seq lo hi) L i = (tookV (inS seq) L i && inK lo hi (L.getD i Ent.none_).u) := by
  unfold tookV
  rw [seen_cut, inV_eq]
  cases inS seq (L.getD i Ent.none_) <;> cases inK lo hi (L.getD i Ent.none_).u <;> simp
/-- The whole, of which each view is cut out. -/
def wholeV (L : List Ent) (seq : Int) : List (ByteArray × ByteArray) := pairsV (rowsV (inS seq) L L.length)
theorem all_cut (L : List Ent) (seq : Int) (lo hi : ByteArray) : allV L seq lo hi = (wholeV L seq).filter fun x => inK lo hi x.1 := by
  unfold allV wholeV pairsV rowsV
  simp only [List.filter_map, List.filter_filter, List.map_map]
  refine congrArg _ (List.filter_congr fun i _ => ?_)
  simp only [Function.comp_apply]
  rw [took_cut]
  cases tookV (inS seq) L i <;> cases inK lo hi (L.getD i Ent.none_).u <;> simp
end Go.Proofs.Ytnmmeaoapfampaa
