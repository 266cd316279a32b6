/-
  Chapter 12: long blocks: plain facts; an entry is stored in a row of the call's own.
-/
import Derived.Test.YtdcjfgbngmdkfaaBlkAwake
import Derived.Laws.OwnMore
namespace Go.Proofs.Ytdcjfgbngmdkfaa
open Go.RowKit

def longN (i : Nat) : Ent := ⟨⟨#[117]⟩, 200 - (i : Int), 1, ⟨#[]⟩⟩
def longE (k : Nat) : List Ent := (List.range k).map longN
theorem longE_len (k : Nat) : (longE k).length = k := by unfold longE; simp
theorem longE_succ (k : Nat) : longE (k + 1) = longE k ++ [longN k] := by unfold longE; rw [List.range_succ, List.map_append]; rfl
theorem longE_at {k i : Nat} (h : i < k) : (longE k).getD i Ent.none_ = longN i := by
  unfold longE
  simp [List.getD, h]
theorem longN_may {i : Nat} (h : i ≤ 200) : (longN i).may = true := by
  unfold longN Ent.may mayE
  rw [mayB_mk (by show ([117] : List UInt8).length ≤ 64; decide) (by simp only; omega) (by simp only; omega) (.inl rfl)]
  rfl
theorem longN_cmp (i j : Nat) (h : i < j) : (longN i).cmp (longN j) = -1 := by
  unfold Ent.cmp longN cmpK
  simp only
  have h1 : cmpL [117] [117] = 0 := (cmpL_zero _ _).2 rfl
  show lex (cmpL [117] [117]) (lex (cmpZ (200 - (j : Int)) (200 - (i : Int))) (cmpZ 1 1)) = -1
  have h2 : cmpZ (200 - (j : Int)) (200 - (i : Int)) = -1 := by unfold cmpZ; rw [if_pos (by omega)]
  rw [h1, h2]
  rfl
theorem longE_may {k : Nat} (h : k ≤ 200) : ∀ e ∈ longE k, e.may = true := by
  intro e he
  unfold longE at he
  obtain ⟨i, hi, rfl⟩ := List.mem_map.1 he
  exact longN_may (by have := List.mem_range.1 hi; omega)
theorem longE_up (k : Nat) : Up (longE k) := by
  unfold Up
  rw [List.pairwise_iff_getElem]
  intro i j hi hj hij
  rw [longE_len] at hi hj
  have e1 : (longE k)[i]'(by rw [longE_len]; exact hi) = longN i := by simp [longE]
  have e2 : (longE k)[j]'(by rw [longE_len]; exact hj) = longN j := by simp [longE]
  rw [e1, e2, longN_cmp i j hij]
  omega
theorem longE_err {k : Nat} (h1 : 1 ≤ k) (h2 : k ≤ 200) : putErr (longE k) = if 64 < k then 4 else 0 := by
  have hr := rising_up (longE_up k) (longE_may h2)
  have hl := longE_len k
  unfold putErr
  rw [if_neg, hl]
  rw [hr]
  rintro (h | h)
  · cases h
  · rw [h] at hl; simp at hl; omega

/-- Two of them changed about. -/
def swapE (L : List Ent) (i : Nat) : List Ent := (L.set i (L.getD (i + 1) Ent.none_)).set (i + 1) (L.getD i Ent.none_)
theorem swapE_len (L : List Ent) (i : Nat) : (swapE L i).length = L.length := by unfold swapE; simp
theorem swapE_err {k i : Nat} (h : i + 1 < k) : putErr (swapE (longE k) i) = 1 := by
  have hl := longE_len k
  have hs := swapE_len (longE k) i
  have h1 : (swapE (longE k) i).getD (i + 1) Ent.none_ = longN i := by
    unfold swapE
    rw [longE_at (by omega : i < k)]
    simp [List.getD, hl, h]
  have h0 : (swapE (longE k) i).getD i Ent.none_ = longN (i + 1) := by
    unfold swapE
    rw [longE_at h]
    have hi : i < (longE k).length := by omega
    simp only [List.getD, List.getElem?_set]
    rw [if_neg (by omega)]
    simp [hi]
  have hno : goodAt (swapE (longE k) i) (i + 1) = false := by
    unfold goodAt
    rw [Nat.add_sub_cancel, h0, h1, cmp_back, longN_cmp i (i + 1) (by omega)]
    simp
  have : risingB (swapE (longE k) i) = false := (rising_no (by rw [hs, hl]; exact h) hno).symm
  unfold putErr
  rw [if_pos (.inl this)]
theorem swapE_sub {L : List Ent} {i : Nat} (h : i + 1 < L.length) : ∀ e ∈ swapE L i, e ∈ L := by
  intro e he
  unfold swapE at he
  have e1 : L.getD (i + 1) Ent.none_ = L[i + 1] := by simp [List.getD, h]
  have e2 : L.getD i Ent.none_ = L[i]'(by omega) := by simp [List.getD, show i < L.length by omega]
  rcases List.mem_or_eq_of_mem_set he with he | he
  · rcases List.mem_or_eq_of_mem_set he with he | he
    · exact he
    · rw [he, e1]; exact List.getElem_mem h
  · rw [he, e2]; exact List.getElem_mem _

/-- One of a row's entries is set. -/
theorem flat_set : ∀ (L : List Ent) (i : Nat) (X : Ent), i < L.length → ((((L.flatMap Ent.cells).set (i * 4) (.string X.u)).set (i * 4 + 1) (.int .i64 X.s)).set (i * 4 + 2) (.int .i64 X.k)).set (i * 4 + 3) (.string X.v) = (L.set i X).flatMap Ent.cells
  | [], _, _, h => by simp at h
  | a :: r, 0, X, _ => by simp [Ent.cells]
  | a :: r, i + 1, X, h => by
    have ih := flat_set r i X (by simpa using h)
    rw [List.set_cons_succ, List.flatMap_cons, List.flatMap_cons, ← ih]
    show ((((a.cells ++ r.flatMap Ent.cells).set ((i + 1) * 4) _).set ((i + 1) * 4 + 1) _).set ((i + 1) * 4 + 2) _).set ((i + 1) * 4 + 3) _ = _
    rw [show (i + 1) * 4 = i * 4 + 4 by omega, show i * 4 + 4 + 1 = i * 4 + 1 + 4 by omega, show i * 4 + 4 + 2 = i * 4 + 2 + 4 by omega, show i * 4 + 4 + 3 = i * 4 + 3 + 4 by omega]
    rfl
theorem own_set {w : World} {B g c : Nat} {L : List Ent} (h : OwnE w B (.slice (some ⟨g, 0, none⟩) L.length c) L) {i : Nat} (hi : i < L.length) (X : Ent) :
    OwnE ((((w.setCell ⟨g, i * 4, none⟩ (.string X.u)).setCell ⟨g, i * 4 + 1, none⟩ (.int .i64 X.s)).setCell ⟨g, i * 4 + 2, none⟩ (.int .i64 X.k)).setCell ⟨g, i * 4 + 3, none⟩ (.string X.v)) B (.slice (some ⟨g, 0, none⟩) L.length c) (L.set i X) := by
  unfold OwnE
  rw [List.length_set, ← flat_set L i X hi]
  exact (World.ownsRow.stored (World.ownsRow.stored (World.ownsRow.stored (World.ownsRow.stored h (i * 4) _).1 (i * 4 + 1) _).1 (i * 4 + 2) _).1 (i * 4 + 3) _).1
theorem below_set4 {W w : World} {B g : Nat} (h : Below B W w) (hg : B ≤ g) (a b c d : Nat) (p q r s : Value) : Below B W ((((w.setCell ⟨g, a, none⟩ p).setCell ⟨g, b, none⟩ q).setCell ⟨g, c, none⟩ r).setCell ⟨g, d, none⟩ s) :=
  (((h.setCell (p := ⟨g, a, none⟩) hg _).setCell (p := ⟨g, b, none⟩) hg _).setCell (p := ⟨g, c, none⟩) hg _).setCell (p := ⟨g, d, none⟩) hg _
end Go.Proofs.Ytdcjfgbngmdkfaa
