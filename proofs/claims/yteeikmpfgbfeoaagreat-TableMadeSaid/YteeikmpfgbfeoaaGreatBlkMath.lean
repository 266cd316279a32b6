/-
  Blocks: plain facts: the bytes of entries side by side, and what they tell.
-/
import Derived.Test.YteeikmpfgbfeoaaGreatTextMath
import Derived.Test.YteeikmpfgbfeoaaGreatEnt
import Derived.Test.YteeikmpfgbfeoaaGreatMemMath
namespace Go.Proofs.YteeikmpfgbfeoaaGreat
open Go.RowKit

/-- How many bytes two texts begin with alike. -/
def comL : List UInt8 → List UInt8 → Nat
  | a :: x, b :: y => if a = b then comL x y + 1 else 0
  | _, _ => 0
theorem comL_le : ∀ (x y : List UInt8), comL x y ≤ x.length ∧ comL x y ≤ y.length
  | [], _ => by unfold comL; simp
  | _ :: _, [] => by unfold comL; simp
  | a :: x, b :: y => by
    unfold comL
    have := comL_le x y
    split <;> simp only [List.length_cons] <;> omega
theorem comL_take : ∀ (x y : List UInt8), x.take (comL x y) = y.take (comL x y)
  | [], _ => by unfold comL; simp
  | _ :: _, [] => by unfold comL; simp
  | a :: x, b :: y => by
    unfold comL
    split
    · rename_i h
      rw [List.take_succ_cons, List.take_succ_cons, comL_take x y, h]
    · rfl
/-- So far they are alike; the next bytes differ, or there is none. -/
theorem comL_at : ∀ (x y : List UInt8) (n : Nat), n ≤ x.length → n ≤ y.length → x.take n = y.take n → (n = x.length ∨ n = y.length ∨ x.getD n 0 ≠ y.getD n 0) → comL x y = n
  | [], y, n, h1, _, _, _ => by simp at h1; subst h1; unfold comL; rfl
  | _ :: _, [], n, _, h2, _, _ => by simp at h2; subst h2; unfold comL; rfl
  | a :: x, b :: y, 0, _, _, _, h4 => by
    unfold comL
    rcases h4 with h4 | h4 | h4
    · simp at h4
    · simp at h4
    · rw [if_neg (by simpa using h4)]
  | a :: x, b :: y, n + 1, h1, h2, h3, h4 => by
    rw [List.take_succ_cons, List.take_succ_cons] at h3
    injection h3 with h5 h6
    unfold comL
    rw [if_pos h5, comL_at x y n (by simpa using h1) (by simpa using h2) h6 (by simpa using h4)]

abbrev uL (e : Ent) : List UInt8 := e.u.data.toList
abbrev vL (e : Ent) : List UInt8 := e.v.data.toList
/-- Number and kind as one number. -/
def numE (e : Ent) : Nat := (2 * e.s + e.k - 1).toNat
/-- An entry behind one whose User begins with so many bytes alike. -/
def entB (e : Ent) (s : Nat) : List UInt8 := putL s ++ putT ((uL e).drop s) ++ putL (numE e) ++ putT (vL e)
/-- The User ahead of the k-th one. -/
def prevU (es : List Ent) (k : Nat) : List UInt8 := if k = 0 then [] else uL (es.getD (k - 1) Ent.none_)
/-- How many bytes of it the k-th one takes. -/
def shE (es : List Ent) (k : Nat) : Nat := if k % 4 = 0 then 0 else comL (uL (es.getD k Ent.none_)) (prevU es k)
/-- The first k entries' bytes. -/
def bodyN (es : List Ent) : Nat → List UInt8
  | 0 => []
  | k + 1 => bodyN es k ++ entB (es.getD k Ent.none_) (shE es k)
/-- Where the whole ones of the first k begin. -/
def tailN (es : List Ent) : Nat → List UInt8
  | 0 => []
  | k + 1 => tailN es k ++ (if k % 4 = 0 then fixL (((bodyN es k).length : Nat) : Int) 4 else [])
/-- The bytes of a block. -/
def blockL (es : List Ent) : List UInt8 := bodyN es es.length ++ tailN es es.length ++ fixL (((es.length + 3) / 4 : Nat) : Int) 2
/-- What is wrong with entries as a block. -/
def putErr (es : List Ent) : Int := if risingB es = false ∨ es = [] then 1 else if 64 < es.length then 4 else 0
/-- The bytes are that block. -/
def IsBlk (b : List UInt8) (es : List Ent) : Prop := putErr es = 0 ∧ blockL es = b

theorem putErr_ok {es : List Ent} (h : putErr es = 0) : risingB es = true ∧ es ≠ [] ∧ es.length ≤ 64 := by
  unfold putErr at h
  split at h
  · omega
  · rename_i h1
    split at h
    · omega
    · rename_i h2
      refine ⟨?_, fun h => h1 (.inr h), by omega⟩
      cases hr : risingB es with
      | true => rfl
      | false => exact absurd (.inl hr) h1
theorem rising_may {es : List Ent} (h : risingB es = true) {k : Nat} (hk : k < es.length) : (es.getD k Ent.none_).may = true := by
  unfold risingB at h
  rw [List.all_eq_true] at h
  have := h k (List.mem_range.2 hk)
  unfold goodAt at this
  rw [Bool.and_eq_true] at this
  exact this.1
theorem rising_all {es : List Ent} (h : risingB es = true) : ∀ e ∈ es, e.may = true := by
  intro e he
  obtain ⟨k, hk, rfl⟩ := List.mem_iff_getElem.1 he
  have := rising_may h hk
  simpa [List.getD, hk] using this

theorem tailN_len (es : List Ent) : ∀ k, (tailN es k).length = 4 * ((k + 3) / 4)
  | 0 => rfl
  | k + 1 => by
    unfold tailN
    rw [List.length_append, tailN_len es k]
    split
    · rw [fixL_length]; omega
    · simp only [List.length_nil]; omega

/-- What the bytes from a place on tell of the next entry. -/
def stepP (c : List UInt8) (last : List UInt8) (p : Nat) : Option (Ent × Nat) :=
  match getAt c (p : Int) with
  | none => none
  | some (s, a) => match textAt c (a : Int) with
    | none => none
    | some (rest, d) => match getAt c (d : Int) with
      | none => none
      | some (x, f) => match textAt c (f : Int) with
        | none => none
        | some (v, g) => if last.length < s then none else some (⟨strB (last.take s ++ rest), ((x / 2 : Nat) : Int), ((1 + x % 2 : Nat) : Int), strB v⟩, g)

theorem bodyN_more (es : List Ent) (k : Nat) : ∀ j, ∃ r, bodyN es (k + j) = bodyN es k ++ r
  | 0 => ⟨[], by simp⟩
  | j + 1 => by
    obtain ⟨r, h⟩ := bodyN_more es k j
    refine ⟨r ++ entB (es.getD (k + j) Ent.none_) (shE es (k + j)), ?_⟩
    rw [← Nat.add_assoc]
    show bodyN es (k + j) ++ _ = _
    rw [h, List.append_assoc]
theorem bodyN_split (es : List Ent) {k n : Nat} (h : k ≤ n) : ∃ r, bodyN es n = bodyN es k ++ r := by
  obtain ⟨j, rfl⟩ : ∃ j, n = k + j := ⟨n - k, by omega⟩
  exact bodyN_more es k j
theorem entB_pos (e : Ent) (s : Nat) : 0 < (entB e s).length := by
  unfold entB
  simp only [List.length_append]
  have := List.length_pos_iff.2 (putL_ne s)
  omega
theorem bodyN_lt (es : List Ent) {k n : Nat} (h : k < n) : (bodyN es k).length < (bodyN es n).length := by
  obtain ⟨r, hr⟩ := bodyN_split es (k := k + 1) (n := n) h
  rw [hr]
  have := entB_pos (es.getD k Ent.none_) (shE es k)
  show (bodyN es k).length < ((bodyN es k ++ entB _ _) ++ r).length
  simp only [List.length_append]
  omega

theorem shE_le (es : List Ent) (k : Nat) : shE es k ≤ (uL (es.getD k Ent.none_)).length ∧ shE es k ≤ (prevU es k).length := by
  unfold shE
  split
  · omega
  · exact comL_le _ _
theorem shE_take (es : List Ent) (k : Nat) : (prevU es k).take (shE es k) = (uL (es.getD k Ent.none_)).take (shE es k) := by
  unfold shE
  split
  · rfl
  · exact (comL_take _ _).symm

theorem may_facts {e : Ent} (h : e.may = true) : (uL e).length ≤ 64 ∧ 0 ≤ e.s ∧ e.s ≤ 9007199254740992 ∧ (e.k = 1 ∨ e.k = 2) ∧ (vL e).length ≤ 512 := by
  unfold Ent.may mayE at h
  rw [Bool.and_eq_true, Bool.and_eq_true] at h
  obtain ⟨h1, h2, _⟩ := h
  obtain ⟨a, b, c, d⟩ := mayB_true h1
  exact ⟨a, b, c, d, by simpa using h2⟩

/-- The next entry is told. -/
theorem step_tells {es : List Ent} {k n : Nat} (hn : k < n) (hm : (es.getD k Ent.none_).may = true) : stepP (bodyN es n) (prevU es k) (bodyN es k).length = some (es.getD k Ent.none_, (bodyN es (k + 1)).length) := by
  obtain ⟨r, hr⟩ := bodyN_split es (k := k + 1) (n := n) hn
  have hb : bodyN es (k + 1) = bodyN es k ++ entB (es.getD k Ent.none_) (shE es k) := rfl
  have h1 := shE_le es k
  have h2 := shE_take es k
  obtain ⟨m1, m2, m3, m4, m5⟩ := may_facts hm
  generalize es.getD k Ent.none_ = e at *
  generalize shE es k = s at *
  generalize prevU es k = last at *
  rw [hr, hb]
  generalize bodyN es k = A at *
  have hx : ((numE e : Nat) : Int) = 2 * e.s + e.k - 1 := by
    unfold numE
    omega
  have e1 : A ++ entB e s ++ r = A ++ putL s ++ (putT ((uL e).drop s) ++ putL (numE e) ++ putT (vL e) ++ r) := by unfold entB; simp only [List.append_assoc]
  have e2 : A ++ entB e s ++ r = (A ++ putL s) ++ putT ((uL e).drop s) ++ (putL (numE e) ++ putT (vL e) ++ r) := by unfold entB; simp only [List.append_assoc]
  have e3 : A ++ entB e s ++ r = (A ++ putL s ++ putT ((uL e).drop s)) ++ putL (numE e) ++ (putT (vL e) ++ r) := by unfold entB; simp only [List.append_assoc]
  have e4 : A ++ entB e s ++ r = (A ++ putL s ++ putT ((uL e).drop s) ++ putL (numE e)) ++ putT (vL e) ++ r := by unfold entB; simp only [List.append_assoc]
  have g1 := getAt_tells A (putT ((uL e).drop s) ++ putL (numE e) ++ putT (vL e) ++ r) s (by omega)
  have g2 := textAt_tells (A ++ putL s) (putL (numE e) ++ putT (vL e) ++ r) ((uL e).drop s) (by rw [List.length_drop]; omega)
  have g3 := getAt_tells (A ++ putL s ++ putT ((uL e).drop s)) (putT (vL e) ++ r) (numE e) (by omega)
  have g4 := textAt_tells (A ++ putL s ++ putT ((uL e).drop s) ++ putL (numE e)) r (vL e) (by omega)
  rw [← e1] at g1
  rw [← e2] at g2
  rw [← e3] at g3
  rw [← e4] at g4
  have hl : (A ++ entB e s).length = A.length + (putL s).length + (putT ((uL e).drop s)).length + (putL (numE e)).length + (putT (vL e)).length := by
    unfold entB
    simp only [List.length_append]
    omega
  rw [hl]
  simp only [List.length_append] at g2 g3 g4
  unfold stepP
  rw [g1]
  simp only
  rw [g2]
  simp only
  rw [g3]
  simp only
  rw [g4]
  simp only
  rw [if_neg (by omega)]
  congr 2
  have hu : last.take s ++ (uL e).drop s = uL e := by rw [h2, List.take_append_drop]
  rw [hu, strB_data, strB_data]
  have hs : ((numE e / 2 : Nat) : Int) = e.s := by omega
  have hk : ((1 + numE e % 2 : Nat) : Int) = e.k := by omega
  rw [hs, hk]
end Go.Proofs.YteeikmpfgbfeoaaGreat
