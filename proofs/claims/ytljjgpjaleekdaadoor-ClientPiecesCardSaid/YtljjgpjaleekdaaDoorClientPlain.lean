/-
  The client's calls on a far store of one object, reckoned.
-/
import Derived.Test.YtljjgpjaleekdaaDoorClientOn
namespace Go.Proofs.YtljjgpjaleekdaaDoor
open Go.RowKit

/-- Outcomes that tell nothing. -/
def Bad (l : List Int) : Prop := ∀ x ∈ l, x = 1 ∨ x = 2

theorem bad_tail {x : Int} {r : List Int} (h : Bad (x :: r)) : (x = 1 ∨ x = 2) ∧ Bad r := ⟨h x (by simp), fun y hy => h y (by simp [hy])⟩

theorem tells_bad {x : Int} {e : Nat} (h : x = 1 ∨ x = 2) : tells x e = 8 := by unfold tells; rw [if_pos h]

theorem o_haveN {l : List Int} {c : Nat} {a b : List UInt8} (hb : b.length ≤ 1000) : (⟨[([111], a)], l, c⟩ : FR).putE [111] b = 3 := by
  unfold FR.putE
  rw [show (!nmOk [111]) = false from rfl, if_neg (by simp), if_neg (by omega)]
  rfl
theorem o_noneN {l : List Int} {c : Nat} {b : List UInt8} (hb : b.length ≤ 1000) : (⟨[], l, c⟩ : FR).putE [111] b = 0 := by
  unfold FR.putE
  rw [show (!nmOk [111]) = false from rfl, if_neg (by simp), if_neg (by omega)]
  rfl
theorem o_puthN {l : List Int} {c : Nat} {a b : List UInt8} (hb : b.length ≤ 1000) : (⟨[([111], a)], l, c⟩ : FR).put [111] b = (tells (l.headD 0) 3, ⟨[([111], a)], l.tail, c + 1⟩) := by
  unfold FR.put FR.does FR.putD
  rw [show (⟨[([111], a)], l, c⟩ : FR).took = ⟨[([111], a)], l.tail, c + 1⟩ from rfl, o_haveN hb]
  dsimp only
  rw [o_haveN hb]
  show (tells (l.headD 0) 3, _) = _
  congr 1
  split <;> rfl
theorem o_putnN {l : List Int} {c : Nat} {b : List UInt8} (hb : b.length ≤ 1000) : (⟨[], l, c⟩ : FR).put [111] b = (tells (l.headD 0) 0, if l.headD 0 = 1 then ⟨[], l.tail, c + 1⟩ else ⟨[([111], b)], l.tail, c + 1⟩) := by
  unfold FR.put FR.does FR.putD
  rw [show (⟨[], l, c⟩ : FR).took = ⟨[], l.tail, c + 1⟩ from rfl, o_noneN hb]
  dsimp only
  rw [o_noneN hb]
  rfl

theorem tries_eight {g : FR → Nat × FR} {f f' : FR} {k : Nat} (h : g f = (8, f')) : FR.tries g (k + 1) f = FR.tries g k f' := by
  show (if (g f).1 = 8 then FR.tries g k (g f).2 else g f) = _
  rw [h]
  rfl
theorem tries2_eight {α : Type} {g : FR → α × Nat} {a0 : α} {f : FR} {k : Nat} (h : (g f).2 = 8) : FR.tries2 g a0 (k + 1) f = FR.tries2 g a0 k f.took := by
  show (if (g f).2 = 8 then _ else _) = _
  rw [if_pos h]

theorem tp_have {a b : List UInt8} (hb : b.length ≤ 1000) : ∀ (k : Nat) (l : List Int) (c : Nat), l.length < k → Bad l → FR.tries (·.put [111] b) k ⟨[([111], a)], l, c⟩ = (3, ⟨[([111], a)], [], c + l.length + 1⟩)
  | 0, l, c, h, _ => by omega
  | k + 1, [], c, _, _ => by
    unfold FR.tries
    rw [o_puthN hb]
    rfl
  | k + 1, x :: r, c, h, hl => by
    have e : (⟨[([111], a)], x :: r, c⟩ : FR).put [111] b = (8, ⟨[([111], a)], r, c + 1⟩) := by
      rw [o_puthN hb]
      show (tells x 3, _) = _
      rw [tells_bad (bad_tail hl).1]
      rfl
    rw [tries_eight (g := (·.put [111] b)) e, tp_have hb k r (c + 1) (by simpa using h) (bad_tail hl).2]
    simp only [List.length_cons]
    rw [show c + 1 + r.length + 1 = c + (r.length + 1) + 1 by omega]

theorem tp_none {b : List UInt8} (hb : b.length ≤ 1000) : ∀ (k : Nat) (l : List Int) (c : Nat), l.length < k → Bad l → ∃ r, (r = 0 ∨ r = 3) ∧ FR.tries (·.put [111] b) k ⟨[], l, c⟩ = (r, ⟨[([111], b)], [], c + l.length + 1⟩)
  | 0, l, c, h, _ => by omega
  | k + 1, [], c, _, _ => by
    unfold FR.tries
    rw [o_putnN hb]
    exact ⟨0, .inl rfl, rfl⟩
  | k + 1, x :: r, c, h, hl => by
    have e0 : (⟨[], x :: r, c⟩ : FR).put [111] b = (8, if x = 1 then ⟨[], r, c + 1⟩ else ⟨[([111], b)], r, c + 1⟩) := by
      rw [o_putnN hb]
      show (tells x 0, _) = _
      rw [tells_bad (bad_tail hl).1]
      rfl
    rw [tries_eight (g := (·.put [111] b)) e0]
    have e : c + (x :: r).length + 1 = c + 1 + r.length + 1 := by simp only [List.length_cons]; omega
    rw [e]
    by_cases hx : x = 1
    · rw [if_pos hx]
      exact tp_none hb k r (c + 1) (by simpa using h) (bad_tail hl).2
    · rw [if_neg hx]
      exact ⟨3, .inr rfl, tp_have hb k r (c + 1) (by simpa using h) (bad_tail hl).2⟩

theorem o_getN {a : List UInt8} {l : List Int} {c : Nat} {i n : Nat} (hi : i ≤ a.length) : (⟨[([111], a)], l, c⟩ : FR).get [111] (i : Int) (n : Int) = (if tells (l.headD 0) 0 = 0 then (a.drop i).take n else [], tells (l.headD 0) 0) := by
  have e1 : (⟨[([111], a)], l, c⟩ : FR).getE [111] (i : Int) (n : Int) = 0 := by
    unfold FR.getE
    show (if (i : Int) < 0 ∨ (a.length : Int) < (i : Int) ∨ (n : Int) < 0 then 1 else 0) = 0
    rw [if_neg (by omega)]
  have e2 : (⟨[([111], a)], l, c⟩ : FR).getB [111] (i : Int) (n : Int) = (a.drop i).take n := by
    unfold FR.getB
    show (a.drop (i : Int).toNat).take (n : Int).toNat = _
    rw [Int.toNat_natCast, Int.toNat_natCast]
  unfold FR.get
  rw [e1, e2]
  rfl

theorem tg_all {a : List UInt8} {i n : Nat} (hi : i ≤ a.length) : ∀ (k : Nat) (l : List Int) (c : Nat), l.length < k → Bad l → FR.tries2 (fun f => f.get [111] (i : Int) (n : Int)) [] k ⟨[([111], a)], l, c⟩ = (((a.drop i).take n, 0), ⟨[([111], a)], [], c + l.length + 1⟩)
  | 0, l, c, h, _ => by omega
  | k + 1, [], c, _, _ => by
    unfold FR.tries2
    rw [o_getN hi]
    rfl
  | k + 1, x :: r, c, h, hl => by
    have e : ((⟨[([111], a)], x :: r, c⟩ : FR).get [111] (i : Int) (n : Int)).2 = 8 := by
      rw [o_getN hi]
      exact tells_bad (bad_tail hl).1
    rw [tries2_eight e]
    have := tg_all hi (n := n) k r (c + 1) (by simpa using h) (bad_tail hl).2
    rw [show (⟨[([111], a)], x :: r, c⟩ : FR).took = ⟨[([111], a)], r, c + 1⟩ from rfl, this]
    simp only [List.length_cons]
    rw [show c + 1 + r.length + 1 = c + (r.length + 1) + 1 by omega]

theorem gets_piece {a : List UInt8} {l : List Int} {c : Nat} {i n : Nat} (hi : i ≤ a.length) (hl : l.length < 4) (hb : Bad l) : (⟨[([111], a)], l, c⟩ : FR).gets [111] (i : Int) (n : Int) = (((a.drop i).take n, 0), ⟨[([111], a)], [], c + l.length + 1⟩) := tg_all hi 4 l c hl hb

theorem gets_whole {a : List UInt8} {l : List Int} {c : Nat} (ha : a.length ≤ 1000) (hl : l.length < 4) (hb : Bad l) : (⟨[([111], a)], l, c⟩ : FR).gets [111] 0 1048576 = ((a, 0), ⟨[([111], a)], [], c + l.length + 1⟩) := by
  have := gets_piece (a := a) (l := l) (c := c) (i := 0) (n := 1048576) (by omega) hl hb
  rw [List.drop_zero, List.take_of_length_le (by omega)] at this
  exact this

theorem bad_nil : Bad [] := fun _ hx => (nomatch hx)

/-- Up under a name that is taken. -/
theorem up_have {a b : List UInt8} {l : List Int} {c : Nat} (ha : a.length ≤ 1000) (hb : b.length ≤ 1000) (hl : l.length < 4) (hbd : Bad l) : (⟨[([111], a)], l, c⟩ : FR).up [111] b = (if a = b then 0 else 3, ⟨[([111], a)], [], c + l.length + 2⟩) := by
  unfold FR.up
  rw [tp_have hb 4 l c hl hbd]
  dsimp only
  rw [if_pos rfl, gets_whole ha (by simp) bad_nil]
  dsimp only
  rw [if_pos rfl]
  rfl

/-- Up of a new object. -/
theorem up_none {b : List UInt8} {l : List Int} {c : Nat} (hb : b.length ≤ 1000) (hl : l.length < 4) (hbd : Bad l) : ∃ d, d ≤ c + 6 ∧ (⟨[], l, c⟩ : FR).up [111] b = (0, ⟨[([111], b)], [], d⟩) := by
  obtain ⟨r, hr, e⟩ := tp_none hb 4 l c hl hbd
  unfold FR.up
  rw [e]
  dsimp only
  rcases hr with rfl | rfl
  · exact ⟨c + l.length + 1, by omega, by rw [if_neg (by decide)]⟩
  · refine ⟨c + l.length + 2, by omega, ?_⟩
    rw [if_pos rfl, gets_whole hb (by simp) bad_nil]
    dsimp only
    rw [if_pos rfl, if_pos rfl]
    rfl

set_option linter.unusedVariables false in
theorem tl_all {a : List UInt8} : ∀ (k : Nat) (l : List Int) (c : Nat), l.length < k → Bad l → FR.tries2 FR.list [] k ⟨[([111], a)], l, c⟩ = (([[111]], 0), ⟨[([111], a)], [], c + l.length + 1⟩)
  | 0, l, c, h, _ => by omega
  | k + 1, [], c, _, _ => by
    unfold FR.tries2
    rfl
  | k + 1, x :: r, c, h, hl => by
    have e : (⟨[([111], a)], x :: r, c⟩ : FR).list.2 = 8 := tells_bad (bad_tail hl).1
    rw [tries2_eight (g := FR.list) e]
    have := tl_all (a := a) k r (c + 1) (by simpa using h) (bad_tail hl).2
    rw [show (⟨[([111], a)], x :: r, c⟩ : FR).took = ⟨[([111], a)], r, c + 1⟩ from rfl, this]
    simp only [List.length_cons]
    rw [show c + 1 + r.length + 1 = c + (r.length + 1) + 1 by omega]

theorem td_none : ∀ (k : Nat) (l : List Int) (c : Nat), l.length < k → Bad l → FR.tries (·.drop [111]) k ⟨[], l, c⟩ = (2, ⟨[], [], c + l.length + 1⟩)
  | 0, l, c, h, _ => by omega
  | k + 1, [], c, _, _ => by
    unfold FR.tries
    rfl
  | k + 1, x :: r, c, h, hl => by
    have e : (⟨[], x :: r, c⟩ : FR).drop [111] = (8, ⟨[], r, c + 1⟩) := by
      unfold FR.drop FR.does
      rw [show (⟨[], x :: r, c⟩ : FR).out = x from rfl, tells_bad (bad_tail hl).1]
      split <;> rfl
    rw [tries_eight (g := (·.drop [111])) e, td_none k r (c + 1) (by simpa using h) (bad_tail hl).2]
    simp only [List.length_cons]
    rw [show c + 1 + r.length + 1 = c + (r.length + 1) + 1 by omega]

theorem td_have {a : List UInt8} : ∀ (k : Nat) (l : List Int) (c : Nat), l.length < k → Bad l → ∃ r, (r = 0 ∨ r = 2) ∧ FR.tries (·.drop [111]) k ⟨[([111], a)], l, c⟩ = (r, ⟨[], [], c + l.length + 1⟩)
  | 0, l, c, h, _ => by omega
  | k + 1, [], c, _, _ => by
    unfold FR.tries
    exact ⟨0, .inl rfl, rfl⟩
  | k + 1, x :: r, c, h, hl => by
    have e : (⟨[([111], a)], x :: r, c⟩ : FR).drop [111] = (8, if x = 1 then ⟨[([111], a)], r, c + 1⟩ else ⟨[], r, c + 1⟩) := by
      unfold FR.drop FR.does
      rw [show (⟨[([111], a)], x :: r, c⟩ : FR).out = x from rfl, tells_bad (bad_tail hl).1]
      rfl
    rw [tries_eight (g := (·.drop [111])) e]
    have e : c + (x :: r).length + 1 = c + 1 + r.length + 1 := by simp only [List.length_cons]; omega
    rw [e]
    by_cases hx : x = 1
    · rw [if_pos hx]
      exact td_have k r (c + 1) (by simpa using h) (bad_tail hl).2
    · rw [if_neg hx]
      exact ⟨2, .inr rfl, td_none k r (c + 1) (by simpa using h) (bad_tail hl).2⟩

theorem cdrop_have {a : List UInt8} {l : List Int} {c : Nat} (hl : l.length < 4) (hb : Bad l) : (⟨[([111], a)], l, c⟩ : FR).cdrop [111] = (0, ⟨[], [], c + l.length + 1⟩) := by
  obtain ⟨r, hr, e⟩ := td_have (a := a) 4 l c hl hb
  unfold FR.cdrop
  rw [e]
  rcases hr with rfl | rfl <;> rfl

theorem up_fails {b : List UInt8} (hb : b.length ≤ 1000) : (⟨[], [1, 1, 1, 1], 0⟩ : FR).up [111] b = (8, ⟨[], [], 4⟩) := by
  have e : ∀ (r : List Int) (c : Nat), (⟨[], 1 :: r, c⟩ : FR).put [111] b = (8, ⟨[], r, c + 1⟩) := fun r c => by rw [o_putnN hb]; rfl
  have t : FR.tries (·.put [111] b) 4 ⟨[], [1, 1, 1, 1], 0⟩ = (8, ⟨[], [], 4⟩) := by
    rw [tries_eight (g := (·.put [111] b)) (e _ _), tries_eight (g := (·.put [111] b)) (e _ _), tries_eight (g := (·.put [111] b)) (e _ _), tries_eight (g := (·.put [111] b)) (e _ _)]
    rfl
  unfold FR.up
  rw [t]
  rfl

theorem up_lies {b : List UInt8} (hb : b.length ≤ 1000) : (⟨[], [2, 2, 2, 2], 0⟩ : FR).up [111] b = (8, ⟨[([111], b)], [], 4⟩) := by
  have e0 : (⟨[], [2, 2, 2, 2], 0⟩ : FR).put [111] b = (8, ⟨[([111], b)], [2, 2, 2], 1⟩) := by rw [o_putnN hb]; rfl
  have e : ∀ (r : List Int) (c : Nat), (⟨[([111], b)], 2 :: r, c⟩ : FR).put [111] b = (8, ⟨[([111], b)], r, c + 1⟩) := fun r c => by rw [o_puthN hb]; rfl
  have t : FR.tries (·.put [111] b) 4 ⟨[], [2, 2, 2, 2], 0⟩ = (8, ⟨[([111], b)], [], 4⟩) := by
    rw [tries_eight (g := (·.put [111] b)) e0, tries_eight (g := (·.put [111] b)) (e _ _), tries_eight (g := (·.put [111] b)) (e _ _), tries_eight (g := (·.put [111] b)) (e _ _)]
    rfl
  unfold FR.up
  rw [t]
  rfl

theorem gets_given {f : FR} {x : Int} (hf : f.left = [x, x, x, x, 0]) (hx : x = 1 ∨ x = 2) : f.gets [111] 0 1048576 = (([], 8), ⟨f.objs, [0], f.calls + 4⟩) := by
  obtain ⟨o, l, c⟩ := f
  dsimp only at hf
  subst hf
  have e : ∀ (r : List Int) (c : Nat), ((⟨o, x :: r, c⟩ : FR).get [111] 0 1048576).2 = 8 := fun r c => tells_bad hx
  unfold FR.gets
  rw [tries2_eight (e _ _)]
  show FR.tries2 _ _ 3 ⟨o, [x, x, x, 0], c + 1⟩ = _
  rw [tries2_eight (e _ _)]
  show FR.tries2 _ _ 2 ⟨o, [x, x, 0], c + 1 + 1⟩ = _
  rw [tries2_eight (e _ _)]
  show FR.tries2 _ _ 1 ⟨o, [x, 0], c + 1 + 1 + 1⟩ = _
  rw [tries2_eight (e _ _)]
  rfl
end Go.Proofs.YtljjgpjaleekdaaDoor
