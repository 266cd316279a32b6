/-
  The order of keys: plain facts on lists of bytes and numbers; nothing of the program.
-/
import Derived.WalkKit
namespace Go.Proofs.Ytmlijnekidihbaa

/-- Which of two lists of bytes is ahead, byte by byte: -1, 0, 1. -/
def cmpL : List UInt8 → List UInt8 → Int
  | [], [] => 0
  | [], _ :: _ => -1
  | _ :: _, [] => 1
  | a :: r, b :: t => if a.toNat < b.toNat then -1 else if b.toNat < a.toNat then 1 else cmpL r t

/-- Which of two numbers is ahead: -1, 0, 1. -/
def cmpZ (a b : Int) : Int := if a < b then -1 else if b < a then 1 else 0

/-- The first that is not 0. -/
def lex (x y : Int) : Int := if x = 0 then y else x

/-- Which of two keys is ahead. -/
def cmpK (u1 : List UInt8) (s1 k1 : Int) (u2 : List UInt8) (s2 k2 : Int) : Int := lex (cmpL u1 u2) (lex (cmpZ s2 s1) (cmpZ k2 k1))

/-- One of -1, 0, 1. -/
def Sgn (x : Int) : Prop := x = -1 ∨ x = 0 ∨ x = 1

/-- What holds of three comparisons, of a and b, b and c, a and c. -/
def Three (x y z : Int) : Prop := (x = 0 → z = y) ∧ (y = 0 → z = x) ∧ (x = y → z = x)

theorem cmpZ_sgn (a b : Int) : Sgn (cmpZ a b) := by unfold Sgn cmpZ; split <;> (try split) <;> omega
theorem cmpZ_zero (a b : Int) : cmpZ a b = 0 ↔ a = b := by unfold cmpZ; split <;> (try split) <;> omega
theorem cmpZ_turn (a b : Int) : cmpZ b a = -cmpZ a b := by unfold cmpZ; split <;> split <;> omega
theorem cmpZ_three (a b c : Int) : Three (cmpZ a b) (cmpZ b c) (cmpZ a c) := by
  unfold Three cmpZ
  refine ⟨?_, ?_, ?_⟩ <;> (repeat' split) <;> omega

theorem lex_sgn {x y : Int} (hx : Sgn x) (hy : Sgn y) : Sgn (lex x y) := by unfold Sgn lex at *; split <;> omega
theorem lex_zero (x y : Int) : lex x y = 0 ↔ x = 0 ∧ y = 0 := by unfold lex; split <;> omega
theorem lex_turn (x y : Int) : lex (-x) (-y) = -lex x y := by unfold lex; split <;> split <;> omega
theorem lex_three {x y z x' y' z' : Int} (hx : Sgn x) (hy : Sgn y) (h : Three x y z) (h' : Three x' y' z') : Three (lex x x') (lex y y') (lex z z') := by
  unfold Three Sgn at *
  unfold lex
  rcases hx with rfl | rfl | rfl <;> rcases hy with rfl | rfl | rfl <;> simp at h ⊢ <;> (try subst h) <;> (try simp) <;> (try exact h') <;> (try omega)

theorem cmpL_sgn : ∀ a b : List UInt8, Sgn (cmpL a b)
  | [], [] => .inr (.inl rfl)
  | [], _ :: _ => .inl rfl
  | _ :: _, [] => .inr (.inr rfl)
  | a :: r, b :: t => by
    unfold cmpL
    split
    · exact .inl rfl
    · split
      · exact .inr (.inr rfl)
      · exact cmpL_sgn r t

theorem cmpL_zero : ∀ a b : List UInt8, cmpL a b = 0 ↔ a = b
  | [], [] => by simp [cmpL]
  | [], _ :: _ => by simp [cmpL]
  | _ :: _, [] => by simp [cmpL]
  | a :: r, b :: t => by
    unfold cmpL
    split
    · rename_i h
      simp only [List.cons.injEq]
      constructor
      · intro h; omega
      · rintro ⟨rfl, _⟩; omega
    · split
      · simp only [List.cons.injEq]
        constructor
        · intro h; omega
        · rintro ⟨rfl, _⟩; omega
      · have e : a = b := UInt8.toNat_inj.1 (by omega)
        subst e
        simp [cmpL_zero r t]

theorem cmpL_turn : ∀ a b : List UInt8, cmpL b a = -cmpL a b
  | [], [] => rfl
  | [], _ :: _ => rfl
  | _ :: _, [] => rfl
  | a :: r, b :: t => by
    unfold cmpL
    have := cmpL_turn r t
    split <;> split <;> (try split) <;> omega

theorem cmpL_three : ∀ a b c : List UInt8, Three (cmpL a b) (cmpL b c) (cmpL a c)
  | [], [], [] => by simp [Three, cmpL]
  | [], [], _ :: _ => by simp [Three, cmpL]
  | [], _ :: _, [] => by simp [Three, cmpL]
  | [], b :: t, c :: s => by
    have := cmpL_sgn (b :: t) (c :: s)
    have e : cmpL [] (c :: s) = -1 := rfl
    have e' : cmpL [] (b :: t) = -1 := rfl
    rw [e, e']
    unfold Three Sgn at *
    refine ⟨by omega, by omega, by omega⟩
  | _ :: _, [], [] => by simp [Three, cmpL]
  | a :: r, [], c :: s => by simp [Three, cmpL]
  | a :: r, b :: t, [] => by
    have := cmpL_sgn (a :: r) (b :: t)
    have e : cmpL (b :: t) [] = 1 := rfl
    have e' : cmpL (a :: r) [] = 1 := rfl
    rw [e, e']
    unfold Three Sgn at *
    refine ⟨by omega, by omega, by omega⟩
  | a :: r, b :: t, c :: s => by
    have ih := cmpL_three r t s
    have e1 : cmpL (a :: r) (b :: t) = lex (cmpZ a.toNat b.toNat) (cmpL r t) := by
      unfold lex cmpZ; rw [cmpL]; (repeat' split) <;> omega
    have e2 : cmpL (b :: t) (c :: s) = lex (cmpZ b.toNat c.toNat) (cmpL t s) := by
      unfold lex cmpZ; rw [cmpL]; (repeat' split) <;> omega
    have e3 : cmpL (a :: r) (c :: s) = lex (cmpZ a.toNat c.toNat) (cmpL r s) := by
      unfold lex cmpZ; rw [cmpL]; (repeat' split) <;> omega
    rw [e1, e2, e3]
    exact lex_three (cmpZ_sgn _ _) (cmpZ_sgn _ _) (cmpZ_three _ _ _) ih

theorem cmpK_sgn (u1 : List UInt8) (s1 k1 : Int) (u2 : List UInt8) (s2 k2 : Int) : Sgn (cmpK u1 s1 k1 u2 s2 k2) := lex_sgn (cmpL_sgn _ _) (lex_sgn (cmpZ_sgn _ _) (cmpZ_sgn _ _))
theorem cmpK_zero (u1 : List UInt8) (s1 k1 : Int) (u2 : List UInt8) (s2 k2 : Int) : cmpK u1 s1 k1 u2 s2 k2 = 0 ↔ u1 = u2 ∧ s1 = s2 ∧ k1 = k2 := by
  unfold cmpK
  rw [lex_zero, lex_zero, cmpL_zero, cmpZ_zero, cmpZ_zero]
  constructor
  · rintro ⟨h1, h2, h3⟩; exact ⟨h1, h2.symm, h3.symm⟩
  · rintro ⟨h1, h2, h3⟩; exact ⟨h1, h2.symm, h3.symm⟩
theorem cmpK_turn (u1 : List UInt8) (s1 k1 : Int) (u2 : List UInt8) (s2 k2 : Int) : cmpK u2 s2 k2 u1 s1 k1 = -cmpK u1 s1 k1 u2 s2 k2 := by
  unfold cmpK
  rw [← lex_turn, ← lex_turn, cmpL_turn u1 u2, cmpZ_turn s2 s1, cmpZ_turn k2 k1]
theorem cmpK_three (u1 : List UInt8) (s1 k1 : Int) (u2 : List UInt8) (s2 k2 : Int) (u3 : List UInt8) (s3 k3 : Int) : Three (cmpK u1 s1 k1 u2 s2 k2) (cmpK u2 s2 k2 u3 s3 k3) (cmpK u1 s1 k1 u3 s3 k3) := by
  have t3 (a b c : Int) : Three (cmpZ b a) (cmpZ c b) (cmpZ c a) := by
    have := cmpZ_three a b c
    have e1 := cmpZ_turn a b
    have e2 := cmpZ_turn b c
    have e3 := cmpZ_turn a c
    unfold Three at *
    omega
  exact lex_three (cmpL_sgn _ _) (cmpL_sgn _ _) (cmpL_three _ _ _) (lex_three (cmpZ_sgn _ _) (cmpZ_sgn _ _) (t3 _ _ _) (t3 _ _ _))

/-- At two bytes that are one the rest counts. -/
theorem cmpL_same (a b : List UInt8) (i : Nat) (ha : i < a.length) (hb : i < b.length) (h : (a.getD i 0).toNat = (b.getD i 0).toNat) (hc : cmpL a b = cmpL (a.drop i) (b.drop i)) : cmpL a b = cmpL (a.drop (i + 1)) (b.drop (i + 1)) := by
  rw [hc, List.drop_eq_getElem_cons ha, List.drop_eq_getElem_cons hb, cmpL]
  simp only [List.getD, List.getElem?_eq_getElem ha, List.getElem?_eq_getElem hb, Option.getD_some] at h
  rw [if_neg (by omega), if_neg (by omega)]

/-- At two bytes that differ it is they that count. -/
theorem cmpL_differ (a b : List UInt8) (i : Nat) (ha : i < a.length) (hb : i < b.length) (h : (a.getD i 0).toNat ≠ (b.getD i 0).toNat) (hc : cmpL a b = cmpL (a.drop i) (b.drop i)) :
    cmpL a b = cmpZ (a.getD i 0).toNat (b.getD i 0).toNat := by
  rw [hc, List.drop_eq_getElem_cons ha, List.drop_eq_getElem_cons hb, cmpL]
  simp only [List.getD, List.getElem?_eq_getElem ha, List.getElem?_eq_getElem hb, Option.getD_some] at h ⊢
  unfold cmpZ
  (repeat' split) <;> omega

/-- Where one ends the lengths count. -/
theorem cmpL_end (a b : List UInt8) (i : Nat) (ha : i ≤ a.length) (hb : i ≤ b.length) (h : a.length ≤ i ∨ b.length ≤ i) (hc : cmpL a b = cmpL (a.drop i) (b.drop i)) : cmpL a b = cmpZ a.length b.length := by
  rw [hc]
  unfold cmpZ
  rcases Nat.lt_trichotomy a.length b.length with h1 | h1 | h1
  · rw [List.drop_eq_nil_of_le (as := a) (by omega), List.drop_eq_getElem_cons (l := b) (i := i) (by omega), if_pos (by omega)]; rfl
  · rw [List.drop_eq_nil_of_le (as := a) (by omega), List.drop_eq_nil_of_le (as := b) (by omega), if_neg (by omega), if_neg (by omega)]; rfl
  · rw [List.drop_eq_nil_of_le (as := b) (by omega), List.drop_eq_getElem_cons (l := a) (i := i) (by omega), if_neg (by omega), if_pos (by omega)]; rfl

/-- May it be a key? -/
def mayB (u : List UInt8) (s k : Int) : Bool := decide (u.length ≤ 64) && (decide (0 ≤ s) && decide (s ≤ 9007199254740992)) && (k == 1 || k == 2)

theorem mayB_mk {u : List UInt8} {s k : Int} (h1 : u.length ≤ 64) (h2 : 0 ≤ s) (h3 : s ≤ 9007199254740992) (h4 : k = 1 ∨ k = 2) : mayB u s k = true := by
  unfold mayB; simp [h1, h2, h3, h4]
theorem mayB_kind {u : List UInt8} {s : Int} (k : Int) (h1 : u.length ≤ 64) (h2 : 0 ≤ s) (h3 : s ≤ 9007199254740992) : mayB u s k = (k == 1 || k == 2) := by
  unfold mayB; simp [h1, h2, h3]
theorem mayB_true {u : List UInt8} {s k : Int} (h : mayB u s k = true) : u.length ≤ 64 ∧ 0 ≤ s ∧ s ≤ 9007199254740992 ∧ (k = 1 ∨ k = 2) := by
  unfold mayB at h
  simp at h
  omega
theorem mayB_false {u : List UInt8} {s k : Int} (h : mayB u s k = false) : 64 < u.length ∨ s < 0 ∨ 9007199254740992 < s ∨ (k ≠ 1 ∧ k ≠ 2) := by
  unfold mayB at h
  simp at h
  omega
theorem mayB_no {u : List UInt8} {s k : Int} (h : 64 < u.length ∨ s < 0 ∨ 9007199254740992 < s ∨ (k ≠ 1 ∧ k ≠ 2)) : mayB u s k = false := by
  cases hm : mayB u s k with
  | false => rfl
  | true => have := mayB_true hm; omega
end Go.Proofs.Ytmlijnekidihbaa
