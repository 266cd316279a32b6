/-
  What was said of a key last: plain facts.
-/
import Derived.Test.YtjiefffmcohcbaaMemTwo
import Derived.Test.YtjiefffmcohcbaaRepDigits
namespace Go.Proofs.Ytjiefffmcohcbaa

theorem newest_is {u : ByteArray} {s : Int} {x : Ent} : ∀ {L : List Ent}, Up L → x ∈ L → x.u = u → x.s ≤ s → (∀ y ∈ L, y.u = u → y.s ≤ s → y.s ≤ x.s ∧ (y.s = x.s → y = x)) → newest L u s = some x
  | [], _, h, _, _, _ => by cases h
  | a :: r, hu, hx, h1, h2, h3 => by
    have hu' := List.pairwise_cons.1 hu
    unfold newest
    rw [List.find?_cons]
    by_cases ha : a.u = u ∧ a.s ≤ s
    · have hd : decide (a.u = u ∧ a.s ≤ s) = true := by rw [decide_eq_true_eq]; exact ha
      rw [hd]
      rcases List.mem_cons.1 hx with e | hx
      · rw [e]
      · have h4 := h3 a (by simp) ha.1 ha.2
        have h5 := hu'.1 x hx
        have h6 : x.s ≤ a.s := by
          unfold Ent.cmp cmpK at h5
          rw [ha.1, h1, (cmpL_zero _ _).2 rfl] at h5
          unfold lex cmpZ at h5
          simp only [if_true] at h5
          split at h5 <;> (try split at h5) <;> (try split at h5) <;> (try split at h5) <;> omega
        have h7 := h4.2 (by omega)
        rw [h7]
    · have hd : decide (a.u = u ∧ a.s ≤ s) = false := by rw [decide_eq_false_iff_not]; exact ha
      rw [hd]
      rcases List.mem_cons.1 hx with e | hx
      · exact absurd (e ▸ ⟨h1, h2⟩) ha
      · exact newest_is hu'.2 hx h1 h2 fun y hy => h3 y (by simp [hy])

/-- The entries of the statement: the i-th is of one of five users. -/
def seeE (nn : Nat → Nat) (i : Nat) : Ent := ⟨strB (117 :: digL (nn i % 5)), (i : Int), 1, strB (digL i)⟩
def seeL (nn : Nat → Nat) (i : Nat) : List Ent := (List.range i).map (seeE nn)
theorem seeL_succ (nn : Nat → Nat) (i : Nat) : seeL nn (i + 1) = seeL nn i ++ [seeE nn i] := by
  unfold seeL
  rw [List.range_succ, List.map_append]; rfl

theorem see_may (nn : Nat → Nat) {i : Nat} (hi : i < 100) : (seeE nn i).may = true := by
  have h1 := digL_low (show nn i % 5 < 10 by omega)
  have h2 := digL_len i
  unfold Ent.may mayE mayB seeE
  simp only
  rw [h1]
  have h3 : (digL i).length ≤ 512 := by omega
  simp [h3]
  omega

theorem see_mem (nn : Nat → Nat) {i : Nat} (hi : i ≤ 100) : Up (build (seeL nn i)) ∧ ∀ x, x ∈ build (seeL nn i) ↔ ∃ j, j < i ∧ x = seeE nn j := by
  refine ⟨build_up _, fun x => ?_⟩
  have hu : ∀ x ∈ seeL nn i, ∀ y ∈ seeL nn i, x.cmp y = 0 → x = y := by
    intro x hx y hy hc
    obtain ⟨a, _, rfl⟩ := List.mem_map.1 hx
    obtain ⟨b, _, rfl⟩ := List.mem_map.1 hy
    have h := ((cmp_zero _ _).1 hc).2.1
    have : (a : Int) = (b : Int) := h
    rw [show a = b by omega]
  rw [build_mem _ _ rfl hu]
  constructor
  · rintro ⟨h, _⟩
    obtain ⟨j, hj, rfl⟩ := List.mem_map.1 h
    exact ⟨j, by simpa using hj, rfl⟩
  · rintro ⟨j, hj, rfl⟩
    exact ⟨List.mem_map.2 ⟨j, by simpa using hj, rfl⟩, see_may nn (by omega)⟩

theorem see_add (nn : Nat → Nat) {i : Nat} (hi : i < 100) : addB (seeE nn i) (build (seeL nn i)) = true ∧ addL (seeE nn i) (build (seeL nn i)) = build (seeL nn (i + 1)) := by
  obtain ⟨hu, hm⟩ := see_mem nn (i := i) (by omega)
  refine ⟨?_, by rw [seeL_succ, build_snoc]⟩
  unfold addB
  rw [see_may nn hi]
  have : isIn (seeE nn i) (build (seeL nn i)) = false := by
    rw [Bool.eq_false_iff]
    intro h
    obtain ⟨x, hx, hc⟩ := (isIn_mem hu).1 h
    obtain ⟨j, hj, rfl⟩ := (hm x).1 hx
    have h2 := ((cmp_zero _ _).1 hc).2.1
    have : (j : Int) = (i : Int) := h2
    omega
  rw [this]; rfl

/-- The i-th is of the user that is asked for, and not above the number. -/
def SeeM (nn : Nat → Nat) (c s j : Nat) : Prop := j ≤ s ∧ nn j % 5 = c
/-- Which one is last. -/
def LastIs (nn : Nat → Nat) (c s i : Nat) (z : Int) : Prop := (z = -1 ∧ ∀ j, j < i → ¬ SeeM nn c s j) ∨ ∃ j, j < i ∧ z = (j : Int) ∧ SeeM nn c s j ∧ ∀ k, k < i → SeeM nn c s k → k ≤ j

theorem last_start (nn : Nat → Nat) (c s : Nat) : LastIs nn c s 0 (-1) := .inl ⟨rfl, fun j h => by omega⟩
theorem last_yes {nn : Nat → Nat} {c s i : Nat} (h : SeeM nn c s i) : LastIs nn c s (i + 1) (i : Int) := .inr ⟨i, by omega, rfl, h, fun k hk _ => by omega⟩
theorem last_no {nn : Nat → Nat} {c s i : Nat} {z : Int} (h : ¬ SeeM nn c s i) (hl : LastIs nn c s i z) : LastIs nn c s (i + 1) z := by
  rcases hl with ⟨h1, h2⟩ | ⟨j, h1, h2, h3, h4⟩
  · refine .inl ⟨h1, fun j hj hs => ?_⟩
    rcases Nat.lt_or_ge j i with h5 | h5
    · exact h2 j h5 hs
    · obtain rfl : j = i := by omega
      exact h hs
  · refine .inr ⟨j, by omega, h2, h3, fun k hk hs => ?_⟩
    rcases Nat.lt_or_ge k i with h5 | h5
    · exact h4 k h5 hs
    · obtain rfl : k = i := by omega
      exact absurd hs h

theorem user_eq {a b : Nat} (ha : a < 5) (hb : b < 5) : strB (117 :: digL a) = strB (117 :: digL b) ↔ a = b := by
  constructor
  · intro h
    have h1 := congrArg (fun x : ByteArray => x.data.toList) h
    simp only at h1
    rw [digL_low (by omega), digL_low (by omega)] at h1
    have h2 : UInt8.ofNat (48 + a) = UInt8.ofNat (48 + b) := by simpa using h1
    have h3 := congrArg UInt8.toNat h2
    rw [UInt8.toNat_ofNat', UInt8.toNat_ofNat'] at h3
    omega
  · rintro rfl; rfl

theorem see_newest {nn : Nat → Nat} {c s i : Nat} {z : Int} (hi : i ≤ 100) (hc : c < 5) (hl : LastIs nn c s i z) :
    (z = -1 ∧ newest (build (seeL nn i)) (strB (117 :: digL c)) (s : Int) = none) ∨ ∃ j, j < i ∧ z = (j : Int) ∧ newest (build (seeL nn i)) (strB (117 :: digL c)) (s : Int) = some ⟨strB (117 :: digL c), (j : Int), 1, strB (digL j)⟩ := by
  obtain ⟨hu, hm⟩ := see_mem nn hi
  have key : ∀ j, (seeE nn j).u = strB (117 :: digL c) ↔ nn j % 5 = c := fun j => user_eq (by omega) hc
  rcases hl with ⟨h1, h2⟩ | ⟨j, h1, h2, h3, h4⟩
  · refine .inl ⟨h1, ?_⟩
    unfold newest
    rw [List.find?_eq_none]
    intro x hx
    obtain ⟨j, hj, rfl⟩ := (hm x).1 hx
    simp only [decide_eq_true_eq]
    rintro ⟨e1, e2⟩
    have e3 : (j : Int) ≤ (s : Int) := e2
    exact h2 j hj ⟨by omega, (key j).1 e1⟩
  · refine .inr ⟨j, h1, h2, ?_⟩
    have e1 : (⟨strB (117 :: digL c), (j : Int), 1, strB (digL j)⟩ : Ent) = seeE nn j := by
      unfold seeE
      rw [h3.2]
    rw [e1]
    refine newest_is hu ((hm _).2 ⟨j, h1, rfl⟩) ((key j).2 h3.2) (by have := h3.1; show (j : Int) ≤ (s : Int); omega) fun y hy e2 e3 => ?_
    obtain ⟨k, hk, rfl⟩ := (hm y).1 hy
    have e4 : (k : Int) ≤ (s : Int) := e3
    have e5 := h4 k hk ⟨by omega, (key k).1 e2⟩
    refine ⟨by show (k : Int) ≤ (j : Int); omega, fun e6 => ?_⟩
    have e7 : (k : Int) = (j : Int) := e6
    rw [show k = j by omega]
end Go.Proofs.Ytjiefffmcohcbaa
