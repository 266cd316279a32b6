import Derived.Test.YtmlijnekidihbaaMg06
import Derived.Test.YtmlijnekidihbaaMg02

/-
  The disk of a cache, as plain data: what its file holds behind each change, and behind a fall.
-/
namespace Go.Proofs.Ytmlijnekidihbaa
open Go.RowKit

/-! ### Bytes. -/
theorem wr_get {F p : List UInt8} {a : Nat} (ha : a ≤ F.length) (n : Nat) : (wr F a p)[n]? = if n < a then F[n]? else if n < a + p.length then p[n - a]? else F[n]? := by
  unfold wr
  have h1 : (F.take a).length = a := by rw [List.length_take]; omega
  by_cases h : n < a
  · rw [if_pos h, List.getElem?_append_left (by rw [List.length_append]; omega), List.getElem?_append_left (by omega), List.getElem?_take_of_lt h]
  · rw [if_neg h]
    by_cases h2 : n < a + p.length
    · rw [if_pos h2, List.getElem?_append_left (by rw [List.length_append]; omega), List.getElem?_append_right (by omega), h1]
    · rw [if_neg h2, List.getElem?_append_right (by rw [List.length_append]; omega), List.getElem?_drop, List.length_append, h1]
      congr 1
      omega

theorem slot_get (F : List UInt8) (i j : Nat) : (slotF F i)[j]? = if j < 565 then F[i * 565 + j]? else none := by
  unfold slotF
  by_cases h : j < 565
  · rw [if_pos h, List.getElem?_take_of_lt h, List.getElem?_drop]
  · rw [if_neg h, List.getElem?_eq_none (by rw [List.length_take]; omega)]

theorem slot_other {F p : List UInt8} {a at_ i : Nat} (ha : a ≤ F.length) (h1 : at_ * 565 ≤ a) (h2 : a + p.length ≤ at_ * 565 + 565) (hi : i ≠ at_) : slotF (wr F a p) i = slotF F i := by
  apply List.ext_getElem?
  intro j
  rw [slot_get, slot_get]
  by_cases h : j < 565
  · rw [if_pos h, if_pos h, wr_get ha]
    rcases Nat.lt_or_gt_of_ne hi with hlt | hgt
    · rw [if_pos (by omega)]
    · rw [if_neg (by omega), if_neg (by omega)]
  · rw [if_neg h, if_neg h]

/-- The file is not too long, and has nothing but pieces of 'D'. -/
def GoodF (D : CKey → List UInt8 → Prop) (F : List UInt8) : Prop := F.length ≤ 36160 ∧ ∀ i nm pc b, HasC F i nm pc b → D (nm, pc) b

theorem has_head {F : List UInt8} {i : Nat} {nm : ByteArray} {pc : Int} {b : List UInt8} (h : HasC F i nm pc b) : F[i * 565]? = some 1 := by
  have h1 := slot_get F i 0
  rw [if_pos (by decide), h.2] at h1
  simpa using h1.symm

theorem has_len {F : List UInt8} {i : Nat} {nm : ByteArray} {pc : Int} {b : List UInt8} (h : HasC F i nm pc b) : i * 565 + 565 ≤ F.length := by
  have h1 : (slotF F i).length = 565 := by rw [h.2, List.length_cons, body_len h.1]
  unfold slotF at h1
  rw [List.length_take, List.length_drop] at h1
  omega

theorem good_nil (D : CKey → List UInt8 → Prop) : GoodF D [] := ⟨by simp, fun i nm pc b h => by have := has_head h; simp at this⟩

theorem has_other {F p : List UInt8} {a at_ i : Nat} {nm : ByteArray} {pc : Int} {b : List UInt8} (ha : a ≤ F.length) (h1 : at_ * 565 ≤ a) (h2 : a + p.length ≤ at_ * 565 + 565) (hi : i ≠ at_) : HasC (wr F a p) i nm pc b ↔ HasC F i nm pc b := by
  unfold HasC
  rw [slot_other (at_ := at_) ha h1 h2 hi]

set_option maxRecDepth 100000 in
/-- A write into a slot that does not begin with a mark behind it. -/
theorem good_blank {D : CKey → List UInt8 → Prop} {F p : List UInt8} {a at_ : Nat} (h : GoodF D F) (hat : at_ < 64) (ha : a ≤ F.length) (h1 : at_ * 565 ≤ a) (h2 : a + p.length ≤ at_ * 565 + 565) (h0 : (wr F a p)[at_ * 565]? ≠ some 1) : GoodF D (wr F a p) := by
  refine ⟨by rw [wr_length _ _ _ ha]; have := h.1; omega, fun i nm pc b hh => ?_⟩
  by_cases hi : i = at_
  · subst hi
    exact absurd (has_head hh) h0
  · exact h.2 i nm pc b ((has_other (at_ := at_) ha h1 h2 hi).1 hh)

set_option maxRecDepth 100000 in
theorem good_mark0 {D : CKey → List UInt8 → Prop} {F : List UInt8} {at_ : Nat} (h : GoodF D F) (hat : at_ < 64) (ha : at_ * 565 ≤ F.length) (j : Nat) : GoodF D (wr F (at_ * 565) ([(0 : UInt8)].take j)) := by
  cases j with
  | zero => rw [List.take_zero, wr_nil]; exact h
  | succ j =>
    rw [List.take_of_length_le (by simp)]
    refine good_blank (at_ := at_) h hat ha (Nat.le_refl _) (by rw [List.length_singleton]; omega) ?_
    rw [wr_get ha, if_neg (by omega), if_pos (by rw [List.length_singleton]; omega), Nat.sub_self]
    simp

set_option maxRecDepth 100000 in
theorem good_body {D : CKey → List UInt8 → Prop} {F l : List UInt8} {at_ : Nat} (h : GoodF D F) (hat : at_ < 64) (ha : at_ * 565 + 1 ≤ F.length) (h0 : F[at_ * 565]? = some 0) (hl : l.length ≤ 564) (j : Nat) : GoodF D (wr F (at_ * 565 + 1) (l.take j)) := by
  refine good_blank (at_ := at_) h hat ha (by omega) (by rw [List.length_take]; omega) ?_
  rw [wr_get ha, if_pos (by omega), h0]
  simp

set_option maxRecDepth 100000 in
theorem good_mark1 {D : CKey → List UInt8 → Prop} {F : List UInt8} {at_ : Nat} {nm : ByteArray} {pc : Int} {b : List UInt8} (h : GoodF D F) (hat : at_ < 64) (ha : at_ * 565 ≤ F.length) (hh : HasC (wr F (at_ * 565) [1]) at_ nm pc b) (hD : D (nm, pc) b) (j : Nat) : GoodF D (wr F (at_ * 565) ([(1 : UInt8)].take j)) := by
  cases j with
  | zero => rw [List.take_zero, wr_nil]; exact h
  | succ j =>
    rw [List.take_of_length_le (by simp)]
    refine ⟨by rw [wr_length _ _ _ ha]; have := h.1; rw [List.length_singleton]; omega, fun i nm' pc' b' hi => ?_⟩
    by_cases he : i = at_
    · subst he
      obtain ⟨rfl, rfl, rfl⟩ := has_one hi hh
      exact hD
    · exact h.2 i nm' pc' b' ((has_other (at_ := at_) ha (Nat.le_refl _) (by rw [List.length_singleton]; omega) he).1 hi)

set_option maxRecDepth 100000 in
/-- Marked as empty, filled, marked as full: it has the piece. -/
theorem has_filled {F : List UInt8} {at_ : Nat} {nm : ByteArray} {pc : Int} {b : List UInt8} (hk : keptC nm pc b = true) (ha : at_ * 565 ≤ F.length) : HasC (wr (wr (wr F (at_ * 565) [0]) (at_ * 565 + 1) (bodyC nm pc b)) (at_ * 565) [1]) at_ nm pc b := by
  have hl := body_len hk
  have l1 : (wr F (at_ * 565) [0]).length = max F.length (at_ * 565 + 1) := wr_length _ _ _ ha
  have l2 : (wr (wr F (at_ * 565) [0]) (at_ * 565 + 1) (bodyC nm pc b)).length = max (wr F (at_ * 565) [0]).length (at_ * 565 + 1 + 564) := by rw [wr_length _ _ _ (by omega), hl]
  refine ⟨hk, List.ext_getElem? fun j => ?_⟩
  rw [slot_get]
  by_cases hj : j < 565
  · rw [if_pos hj, wr_get (by omega)]
    cases j with
    | zero => rw [if_neg (by omega), if_pos (by rw [List.length_singleton]; omega), Nat.add_zero, Nat.sub_self]; rfl
    | succ j =>
      rw [if_neg (by omega), if_neg (by rw [List.length_singleton]; omega), wr_get (by omega), if_neg (by omega), if_pos (by rw [hl]; omega), List.getElem?_cons_succ]
      congr 1
      omega
  · rw [if_neg hj, List.getElem?_eq_none (by rw [List.length_cons, hl]; omega)]

/-! ### Loose writes. -/
theorem kept_all : ∀ (l : List (Nat × List UInt8)) (b : List UInt8) (k : Nat), manyL l ≤ k → kept l k b = l.foldl (fun b p => wr b p.1 p.2) b
  | [], b, k, _ => by simp [kept]
  | p :: r, b, k, h => by
    rw [manyL_cons] at h
    by_cases h0 : k = 0
    · subst h0
      have h1 : p.2 = [] := List.eq_nil_of_length_eq_zero (by omega)
      rw [kept_zero, List.foldl_cons, h1, wr_nil, ← kept_all r b 0 (by omega), kept_zero]
    · rw [kept_cons p r k b h0, List.take_of_length_le (by omega), List.foldl_cons]
      exact kept_all r _ _ (by omega)

theorem kept_snoc : ∀ (l : List (Nat × List UInt8)) (p : Nat × List UInt8) (left : Nat) (s : List UInt8), kept (l ++ [p]) left s = if left ≤ manyL l then kept l left s else wr (kept l (manyL l) s) p.1 (p.2.take (left - manyL l))
  | [], p, left, s => by
    by_cases h : left = 0
    · subst h; simp [kept_zero]
    · rw [List.nil_append, kept_cons _ _ _ _ h]
      have : manyL ([] : List (Nat × List UInt8)) = 0 := rfl
      rw [if_neg (by omega), this]
      simp [kept]
  | x :: r, p, left, s => by
    rw [manyL_cons]
    by_cases h : left = 0
    · subst h
      rw [kept_zero, kept_zero, if_pos (by omega)]
    · rw [List.cons_append, kept_cons _ _ _ _ h, kept_snoc r p]
      by_cases h2 : left - x.2.length ≤ manyL r
      · rw [if_pos h2, if_pos (by omega), kept_cons _ _ _ _ h]
      · rw [if_neg h2, if_neg (by omega), List.take_of_length_le (l := x.2) (by omega), show left - x.2.length - manyL r = left - (x.2.length + manyL r) by omega]
        congr 1
        rw [kept_all r _ _ (Nat.le_refl _), kept_all (x :: r) _ _ (by rw [manyL_cons]; exact Nat.le_refl _)]
        rfl

structure FI (D : CKey → List UInt8 → Prop) (f : PF) (n : Nat) : Prop where
  now : kept f.loose (manyL f.loose) f.safe = f.now
  wok : WOk f.safe f.loose
  good : ∀ left, GoodF D (kept f.loose left f.safe)
  cnt : f.loose.length ≤ n
  many : manyL f.loose ≤ 564 * n

section
variable {D : CKey → List UInt8 → Prop} {f : PF} {n m : Nat}
theorem FI.mono (h : FI D f n) (hm : n ≤ m) : FI D f m := ⟨h.now, h.wok, h.good, Nat.le_trans h.cnt hm, by have := h.many; omega⟩
theorem FI.nowg (h : FI D f n) : GoodF D f.now := by rw [← h.now]; exact h.good _
theorem fi_new (D : CKey → List UInt8 → Prop) (n : Nat) : FI D PF.new n := ⟨rfl, trivial, fun _ => good_nil D, Nat.zero_le _, Nat.zero_le _⟩
theorem fi_wrote (h : FI D f n) {a : Nat} {l : List UInt8} (ha : a ≤ f.now.length) (hl : l.length ≤ 564) (hg : ∀ j, GoodF D (wr f.now a (l.take j))) : FI D (f.wrote a l) (n + 1) := by
  have hm : manyL (f.loose ++ [(a, l)]) = manyL f.loose + l.length := by simp [manyL]
  refine ⟨?_, ?_, fun left => ?_, ?_, ?_⟩
  · show kept (f.loose ++ [(a, l)]) (manyL (f.loose ++ [(a, l)])) f.safe = wr f.now a l
    rw [hm, kept_snoc]
    by_cases h0 : l.length = 0
    · rw [if_pos (by omega), List.eq_nil_of_length_eq_zero h0, wr_nil, List.length_nil, Nat.add_zero, h.now]
    · rw [if_neg (by omega), h.now, show manyL f.loose + l.length - manyL f.loose = l.length by omega, List.take_length]
  · refine wok_append f.loose f.safe (a, l) h.wok ?_
    rw [← kept_all f.loose f.safe _ (Nat.le_refl _), h.now]
    exact ha
  · show GoodF D (kept (f.loose ++ [(a, l)]) left f.safe)
    rw [kept_snoc]
    by_cases hle : left ≤ manyL f.loose
    · rw [if_pos hle]; exact h.good left
    · rw [if_neg hle, h.now]; exact hg _
  · show (f.loose ++ [(a, l)]).length ≤ n + 1
    rw [List.length_append]
    have := h.cnt
    simp
    omega
  · show manyL (f.loose ++ [(a, l)]) ≤ 564 * (n + 1)
    rw [hm]
    have := h.many
    omega
theorem fi_flat {l : List UInt8} (h : GoodF D l) (n : Nat) : FI D ⟨l, l, []⟩ n := ⟨rfl, trivial, fun left => by simpa [kept] using h, Nat.zero_le _, Nat.zero_le _⟩
theorem fi_safed (h : FI D f n) : FI D f.safed n := by
  have e : f.safed = ⟨f.now, f.now, []⟩ := by unfold PF.safed; rw [h.now]
  rw [e]
  exact fi_flat h.nowg n
theorem fi_fallen (h : FI D f n) (k : Int) (m : Nat) : FI D (f.fallen k) m := fi_flat (h.good _) m
theorem FI.fok (h : FI D f n) (hn : n ≤ 9999) : FOk f := by
  have h0 := (h.good 0).1
  rw [kept_zero] at h0
  have h1 := h.nowg.1
  have := h.cnt
  have := h.many
  exact ⟨by omega, by omega, by omega, by omega, h.wok, fun left => by have := (h.good left).1; omega⟩
end
end Go.Proofs.Ytmlijnekidihbaa
