/-
  Blocks: plain facts: which entries any bytes are a block of.
-/
import Derived.Test.YteeikmpfgbfeoaaGreatBlkMath
namespace Go.Proofs.YteeikmpfgbfeoaaGreat
open Go.RowKit

theorem bodyN_le (es : List Ent) {k n : Nat} (h : k ≤ n) : (bodyN es k).length ≤ (bodyN es n).length := by
  obtain ⟨r, hr⟩ := bodyN_split es h
  rw [hr, List.length_append]
  omega

theorem blockL_len (es : List Ent) : (blockL es).length = (bodyN es es.length).length + 4 * ((es.length + 3) / 4) + 2 := by
  unfold blockL
  rw [List.length_append, List.length_append, tailN_len, fixL_length]

/-- What its last two bytes tell: how many whole ones there are. -/
theorem blockL_count (es : List Ent) (h : es.length ≤ 64) : valL ((blockL es).drop ((blockL es).length - 2)) = (es.length + 3) / 4 := by
  have hl := blockL_len es
  have : (blockL es).drop ((blockL es).length - 2) = fixL (((es.length + 3) / 4 : Nat) : Int) 2 := by
    rw [hl]
    unfold blockL
    rw [List.drop_left' (by rw [List.length_append, tailN_len]; omega)]
  rw [this, valL_fixL _ _ (by omega)]

/-- The bytes ahead of the tail. -/
theorem blockL_body (es : List Ent) : (blockL es).take ((blockL es).length - 2 - 4 * ((es.length + 3) / 4)) = bodyN es es.length := by
  have hl := blockL_len es
  rw [hl]
  unfold blockL
  rw [List.append_assoc, List.take_left' (by omega)]

/-- A block's first entries, and where they end, are told by its bytes. -/
structure IsBody (c : List UInt8) (es : List Ent) : Prop where
  body : bodyN es es.length = c
  may : ∀ k, k < es.length → (es.getD k Ent.none_).may = true

theorem IsBlk.body {b : List UInt8} {es : List Ent} (h : IsBlk b es) : IsBody (b.take (b.length - 2 - 4 * valL (b.drop (b.length - 2)))) es := by
  obtain ⟨h1, h2, h3⟩ := putErr_ok h.1
  refine ⟨?_, fun k hk => rising_may h1 hk⟩
  rw [← h.2, blockL_count es h3, blockL_body]

theorem prevU_take (es : List Ent) {k j : Nat} (h : k ≤ j) : prevU (es.take j) k = prevU es k := by
  unfold prevU
  split
  · rfl
  · rename_i h0
    congr 1
    simp only [List.getD, List.getElem?_take]
    rw [if_pos (by omega)]
theorem getD_take (es : List Ent) {k j : Nat} (h : k < j) : (es.take j).getD k Ent.none_ = es.getD k Ent.none_ := by
  simp only [List.getD, List.getElem?_take]
  rw [if_pos h]
theorem bodyN_take (es : List Ent) : ∀ {k j : Nat}, k ≤ j → bodyN (es.take j) k = bodyN es k
  | 0, _, _ => rfl
  | k + 1, j, h => by
    unfold bodyN
    rw [bodyN_take es (Nat.le_of_succ_le h), getD_take es (Nat.lt_of_succ_le h)]
    unfold shE
    rw [getD_take es (Nat.lt_of_succ_le h), prevU_take es (Nat.le_of_succ_le h)]

/-- The next step tells the next entry. -/
theorem IsBody.step {c : List UInt8} {es : List Ent} (h : IsBody c es) {k : Nat} (hk : k < es.length) : stepP c (prevU es k) (bodyN es k).length = some (es.getD k Ent.none_, (bodyN es (k + 1)).length) := by
  rw [← h.body]
  exact step_tells hk (h.may k hk)
theorem IsBody.at_end {c : List UInt8} {es : List Ent} (h : IsBody c es) {k : Nat} (hk : k ≤ es.length) : (bodyN es k).length < c.length ↔ k < es.length := by
  rw [← h.body]
  constructor
  · intro h1
    rcases Nat.lt_or_ge k es.length with h2 | h2
    · exact h2
    · have : k = es.length := by omega
      subst this
      omega
  · intro h1
    exact bodyN_lt es h1

theorem take_more (es : List Ent) {k : Nat} (hk : k < es.length) : es.take (k + 1) = es.take k ++ [es.getD k Ent.none_] := by
  rw [List.take_succ_eq_append_getElem hk]
  simp [List.getD, hk]

theorem body_one {c : List UInt8} {x y : List Ent} (hx : IsBody c x) (hy : IsBody c y) : x = y := by
  have key : ∀ k, k ≤ x.length → k ≤ y.length ∧ x.take k = y.take k := by
    intro k
    induction k with
    | zero => intro _; exact ⟨Nat.zero_le _, rfl⟩
    | succ k ih =>
      intro hk
      obtain ⟨h1, h2⟩ := ih (by omega)
      have hb : bodyN x k = bodyN y k := by rw [← bodyN_take x (Nat.le_refl k), h2, bodyN_take y (Nat.le_refl k)]
      have hp : prevU x k = prevU y k := by rw [← prevU_take x (Nat.le_refl k), h2, prevU_take y (Nat.le_refl k)]
      have hlt : k < y.length := by
        rw [← hy.at_end h1, ← hb, hx.at_end (by omega)]
        omega
      have e1 := hx.step (k := k) (by omega)
      have e2 := hy.step (k := k) hlt
      rw [hb, hp, e2] at e1
      simp only [Option.some.injEq, Prod.mk.injEq] at e1
      refine ⟨hlt, ?_⟩
      rw [take_more x (by omega), take_more y hlt, h2, e1.1]
  obtain ⟨h1, h2⟩ := key x.length (Nat.le_refl _)
  have hlen : x.length = y.length := by
    rcases Nat.lt_or_ge x.length y.length with h | h
    · have h3 := (hy.at_end h1).2 h
      have hb : bodyN x x.length = bodyN y x.length := by rw [← bodyN_take x (Nat.le_refl x.length), h2, bodyN_take y (Nat.le_refl x.length)]
      rw [← hb, hx.body] at h3
      omega
    · omega
  rw [List.take_length, hlen, List.take_length] at h2
  exact h2

theorem blk_one {b : List UInt8} {x y : List Ent} (hx : IsBlk b x) (hy : IsBlk b y) : x = y := body_one hx.body hy.body

open Classical in
/-- The entries whose block the bytes are. -/
noncomputable def getB (b : List UInt8) : Option (List Ent) := if h : ∃ es, IsBlk b es then some h.choose else none
theorem getB_some {b : List UInt8} {es : List Ent} (h : IsBlk b es) : getB b = some es := by
  unfold getB
  rw [dif_pos ⟨es, h⟩]
  congr 1
  exact blk_one (Exists.choose_spec (⟨es, h⟩ : ∃ es, IsBlk b es)) h
theorem getB_none {b : List UInt8} (h : ∀ es, ¬ IsBlk b es) : getB b = none := by
  unfold getB
  rw [dif_neg]
  rintro ⟨es, he⟩
  exact h es he
theorem getB_is {b : List UInt8} {es : List Ent} (h : getB b = some es) : IsBlk b es := by
  unfold getB at h
  split at h
  · rename_i hx
    simp only [Option.some.injEq] at h
    rw [← h]
    exact hx.choose_spec
  · cases h
theorem getB_put {es : List Ent} (h : putErr es = 0) : getB (blockL es) = some es := getB_some ⟨h, rfl⟩

/-- The first one that is not below a key. -/
def aboveL (es : List Ent) (u : ByteArray) (s k : Int) : Option Ent := es.find? fun x => !decide (x.cmp ⟨u, s, k, ⟨#[]⟩⟩ < 0)
theorem above_at {es : List Ent} {u : ByteArray} {s k : Int} {i : Nat} (hi : i < es.length) (h : ∀ j, j < i → (es.getD j Ent.none_).cmp ⟨u, s, k, ⟨#[]⟩⟩ < 0) (h2 : ¬ (es.getD i Ent.none_).cmp ⟨u, s, k, ⟨#[]⟩⟩ < 0) : aboveL es u s k = some (es.getD i Ent.none_) := by
  unfold aboveL
  rw [List.find?_eq_some_iff_append]
  refine ⟨by simpa using h2, es.take i, es.drop (i + 1), ?_, ?_⟩
  · have : es.getD i Ent.none_ = es[i] := by simp [List.getD, hi]
    rw [this, ← List.drop_eq_getElem_cons hi, List.take_append_drop]
  · intro a ha
    obtain ⟨j, hj, rfl⟩ := List.mem_iff_getElem.1 ha
    rw [List.length_take] at hj
    have := h j (by omega)
    rw [show es.getD j Ent.none_ = es[j]'(by omega) by simp [List.getD, show j < es.length by omega]] at this
    rw [List.getElem_take]
    simpa using this
theorem above_no {es : List Ent} {u : ByteArray} {s k : Int} (h : ∀ j, j < es.length → (es.getD j Ent.none_).cmp ⟨u, s, k, ⟨#[]⟩⟩ < 0) : aboveL es u s k = none := by
  unfold aboveL
  rw [List.find?_eq_none]
  intro a ha
  obtain ⟨j, hj, rfl⟩ := List.mem_iff_getElem.1 ha
  have := h j hj
  rw [show es.getD j Ent.none_ = es[j] by simp [List.getD, hj]] at this
  simpa using this
end Go.Proofs.YteeikmpfgbfeoaaGreat
