/-
  Words that the other texts share: a list of bytes as Go's cells; a slice of bytes that the call itself made; a slice of bytes that can be read. Plain facts, over any program.
-/
import Derived.WalkKit
import Derived.Lib.Hide
import Derived.Lib.AppendStr
import Derived.Laws.AppendOwnNone
import Derived.Laws.BytesArg
import Derived.WalkSmall
import Derived.Deep.Draws
namespace Go.Proofs.Ytmlijnekidihbaa
open Go.RowKit

/-- A byte as the model's value. -/
abbrev bv (c : UInt8) : Value := .int .u8 (c.toNat : Int)

theorem byte_le (c : UInt8) : (c.toNat : Int) ≤ 255 := by have := c.toNat_lt; omega

theorem bv_oneCell (l : List UInt8) : ∀ u ∈ l.map bv, u.oneCell' = true := by
  intro u hu
  obtain ⟨c, _, rfl⟩ := List.mem_map.1 hu
  rfl

/-- The slice 'v' of bytes 'l' lies in memory of the call's own, from block 'B' on ('e': the number of type uint8). -/
def OwnB (w : World) (B e : Nat) (v : Value) (l : List UInt8) : Prop := w.ownsRow B e 1 v l.length (l.map bv)

theorem OwnB.nil (w : World) (B e : Nat) : OwnB w B e (.slice none 0 0) [] := World.ownsRow_nil _ _ _ _

/-- The slice 'v' of 'n' elements ('size' cells each) reads as the cells 'cs' in world 'w'. -/
def Rd (w : World) (size : Nat) (v : Value) (n : Nat) (cs : List Value) : Prop :=
  ∃ a cap, v = .slice a n cap ∧ n ≤ cap ∧ cap ≤ maxLen ∧ cs.length = n * size ∧
    ((n = 0 ∧ (a = none → cap = 0)) ∨ ∃ b off, a = some ⟨b, off, none⟩ ∧ b < w.heap.size ∧ ∀ j u, cs[j]? = some u → w.cell? ⟨b, off + j, none⟩ = some u)

theorem Rd.below {w w' : World} {size n : Nat} {v : Value} {cs : List Value} (h : Rd w size v n cs) {B : Nat} (hb : Below B w w') (hB : w.heap.size ≤ B) : Rd w' size v n cs := by
  obtain ⟨a, cap, rfl, h1, h2, h0, h3⟩ := h
  refine ⟨a, cap, rfl, h1, h2, h0, ?_⟩
  rcases h3 with h3 | ⟨b, off, rfl, h4, h5⟩
  · exact .inl h3
  · exact .inr ⟨b, off, rfl, by have := hb.size; omega, fun j u hj => (hb.cell (p := ⟨b, off + j, none⟩) (show b < B by omega)).trans (h5 j u hj)⟩

theorem Rd.nil (w : World) (size : Nat) : Rd w size (.slice none 0 0) 0 [] := ⟨none, 0, rfl, Nat.le_refl _, Nat.zero_le _, by simp, .inl ⟨rfl, fun _ => rfl⟩⟩

/-- What is owned can be read. -/
theorem rd_of_own {w : World} {B e size n : Nat} {v : Value} {cs : List Value} (h : w.ownsRow B e size v n cs) : Rd w size v n cs := by
  obtain ⟨h0, h1⟩ := h
  rcases h1 with ⟨rfl, rfl⟩ | ⟨g, cap, cur, rfl, _, hg, hn, hm, hs, htake⟩
  · have : cs = [] := List.eq_nil_of_length_eq_zero (by simpa using h0)
    subst this
    exact Rd.nil _ _
  · refine ⟨_, cap, rfl, hn, hm, h0, .inr ⟨g, 0, rfl, (Array.getElem?_eq_some_iff.1 hg).1, fun j u hj => ?_⟩⟩
    rw [Nat.zero_add, cell_of_row w g j cur e (0, 0) hg]
    rw [← htake, List.getElem?_take] at hj
    split at hj
    · simpa using hj
    · cases hj

/-- The slice 'v' reads as the bytes 'l' in world 'w'. -/
def RdB (w : World) (v : Value) (l : List UInt8) : Prop := Rd w 1 v l.length (l.map bv)

theorem RdB.below {w w' : World} {v : Value} {l : List UInt8} (h : RdB w v l) {B : Nat} (hb : Below B w w') (hB : w.heap.size ≤ B) : RdB w' v l := Rd.below h hb hB

theorem OwnB.read {w : World} {B e : Nat} {v : Value} {l : List UInt8} (h : OwnB w B e v l) : RdB w v l := rd_of_own h

/-- What a slice of bytes is, as a value. -/
theorem RdB.form {w : World} {v : Value} {l : List UInt8} (h : RdB w v l) : ∃ a cap, v = .slice a l.length cap ∧ l.length ≤ cap ∧ cap ≤ maxLen := by
  obtain ⟨a, cap, rfl, h1, h2, _⟩ := h
  exact ⟨a, cap, rfl, h1, h2⟩

/-- What is owned stays so while only older memory, or none, is touched. -/
theorem OwnB.below {w w' : World} {B e : Nat} {v : Value} {l : List UInt8} (h : OwnB w B e v l) {B' : Nat} (hb : Below B' w w') (hB : w.heap.size ≤ B') : OwnB w' B e v l := by
  refine ⟨h.1, ?_⟩
  rcases h.2 with h2 | ⟨g, cap, cur, rfl, h3, hg, r⟩
  · exact .inl h2
  · have := (Array.getElem?_eq_some_iff.1 hg).1
    exact .inr ⟨g, cap, cur, rfl, h3, by rw [hb.block g (by omega)]; exact hg, r⟩

/-- 'append(s, c)' of one byte onto a slice of the call's own. -/
theorem wpList_append_byte {P : Program} {ops : Array Oper} {rest : List Oper} {o : Oper} {a : Act} {Q : Exit → Act → World → Prop}
    (hg : o.guard = none) (s x : Operand) (t : TypeId) (hop : o.op = Op.call { callee := Callee.builtin Builtin.append, args := #[s, x], argTypes := #[t, t] })
    (B e : Nat) (h1 : P.underlying t = some (.slice e)) (h2 : (P.info? e).map (fun i => (i.zero, i.size, i.bytes)) = some (some (.int .u8 0), 1, 1))
    (v : Value) (l : List UInt8) (c : UInt8) (n : Int) (w : World) (hs : a.eval s = v) (hx : a.eval x = .slice (some ⟨w.heap.size, 0, none⟩) 1 1) (hown : OwnB w B e v l) (hn : n = (c.toNat : Int))
    (hB : B ≤ w.heap.size) (hl : l.length < 140737488355328)
    (hK : ∀ v' w', OwnB w' B e v' (l ++ [c]) → (∀ B' u, B' ≤ B → Below B' u w → Below B' u w') → wpList P ops Q rest (a.put o.dst v') w') :
    wpList P ops Q (o :: rest) a (w.alloc (.cells #[.int .u8 n] e)) := by
  subst hn
  obtain ⟨i0, hi, hz0, hz1, hz2⟩ := info_parts h2
  refine wpList_append_own _ hg s x t hop B e i0 (.int .u8 0) 1 1 h1 hi hz0 hz1 hz2 rfl (by decide) v l.length (l.map bv) hs (World.ownsRow.alloc hown _) ⟨w.heap.size, 0, none⟩ 1 1 [bv c] hx rfl ?_ ?_ ?_ ?_ ?_ ?_
  · intro j u hj
    match j, hj with
    | 0, hj => simp at hj; subst hj; simp [Addr.add]
  · intro u hu; simp at hu; subst hu; rfl
  · unfold maxLen; omega
  · omega
  · simp; omega
  · intro v' w' hown' hgrow _
    refine hK v' w' ?_ ?_
    · unfold OwnB
      simpa using hown'
    · intro B' u hB' hb
      refine ((hb.alloc (by omega) _).grown hgrow (by simp; omega) ?_)
      intro k hk
      have := (World.ownsRow.lt hown k hk).1
      omega

/-- A slice of bytes that is not empty: where it lies. -/
theorem RdB.cells {w : World} {v : Value} {l : List UInt8} (h : RdB w v l) (hne : l ≠ []) :
    ∃ b off cap, v = .slice (some ⟨b, off, none⟩) l.length cap ∧ l.length ≤ cap ∧ cap ≤ maxLen ∧ b < w.heap.size ∧ ∀ i, i < l.length → w.cell? ⟨b, off + i, none⟩ = some (bv (l.getD i 0)) := by
  obtain ⟨a, cap, rfl, h1, h2, h0, h3 | ⟨b, off, rfl, h4, h5⟩⟩ := h
  · exact absurd (List.eq_nil_of_length_eq_zero h3.1) hne
  · exact ⟨b, off, cap, rfl, h1, h2, h4, fun i hi => h5 i _ (by simp [List.getD, hi])⟩

/-- 'append(s, x...)' onto a slice of the call's own, of a slice that can be read: nil, empty, or not. -/
theorem wpList_append_rd {P : Program} {w : World} {ops : Array Oper} {rest : List Oper} {o : Oper} {a : Act} {Q : Exit → Act → World → Prop}
    (hg : o.guard = none) (s x : Operand) (t : TypeId) (hop : o.op = Op.call { callee := Callee.builtin Builtin.append, args := #[s, x], argTypes := #[t, t] })
    (B e size bytes : Nat) (z : Value) (h1 : P.underlying t = some (.slice e)) (h2 : (P.info? e).map (fun i => (i.zero, i.size, i.bytes)) = some (some z, size, bytes)) (hz : z.cells.size = size) (hsz : 0 < size)
    (v xv : Value) (n m : Nat) (xs news : List Value) (hs : a.eval s = v) (hx : a.eval x = xv) (hown : w.ownsRow B e size v n xs) (hrd : Rd w size xv m news) (hone : ∀ u ∈ news, u.oneCell' = true)
    (hB : B ≤ w.heap.size) (hl : (n + m) * bytes ≤ 140737488355328) (hl' : n + m ≤ maxLen)
    (hK : ∀ v' w', w'.ownsRow B e size v' (n + m) (xs ++ news) → (∀ B' u, B' ≤ B → Below B' u w → Below B' u w') → wpList P ops Q rest (a.put o.dst v') w') :
    wpList P ops Q (o :: rest) a w := by
  obtain ⟨i0, hi, hz0, hz1, hz2⟩ := info_parts h2
  have fin : ∀ v' w', w'.ownsRow B e size v' (n + m) (xs ++ news) → w.grownBy w' v.ownBlock → (v' = .slice none 0 0 ↔ v = .slice none 0 0 ∧ m = 0) → wpList P ops Q rest (a.put o.dst v') w' := by
    intro v' w' hown' hgrow _
    refine hK v' w' hown' ?_
    intro B' u hB' hb
    refine hb.grown hgrow (by omega) ?_
    intro k hk
    have := (World.ownsRow.lt hown k hk).1
    omega
  obtain ⟨ad, cap, rfl, _, _, hlen, h3⟩ := hrd
  cases ad with
  | none =>
    rcases h3 with ⟨rfl, hc⟩ | ⟨b, off, hno, _⟩
    · obtain rfl := hc rfl
      have : news = [] := List.eq_nil_of_length_eq_zero (by simpa using hlen)
      subst this
      refine wpList_append_own_none hg s x t hop B e i0 size h1 hi v n xs hs hown hx ?_
      have := hK v w (by simpa using hown) (fun _ _ _ h => h)
      exact this
    · cases hno
  | some ad =>
    refine wpList_append_own _ hg s x t hop B e i0 z size bytes h1 hi hz0 hz1 hz2 hz hsz v n xs hs hown ad m cap news hx hlen ?_ hone hl' hl hB fin
    intro j u hj
    rcases h3 with ⟨rfl, _⟩ | ⟨b, off, hb, _, h5⟩
    · have : news = [] := List.eq_nil_of_length_eq_zero (by simpa using hlen)
      subst this
      simp at hj
    · cases hb
      have hadd : (⟨b, off, none⟩ : Addr).add j = ⟨b, off + j, none⟩ := by unfold Addr.add; split <;> simp_all
      rw [hadd]
      exact h5 j u hj

/-- 'append(s, x...)' of bytes. -/
theorem wpList_append_bytes {P : Program} {w : World} {ops : Array Oper} {rest : List Oper} {o : Oper} {a : Act} {Q : Exit → Act → World → Prop}
    (hg : o.guard = none) (s x : Operand) (t : TypeId) (hop : o.op = Op.call { callee := Callee.builtin Builtin.append, args := #[s, x], argTypes := #[t, t] })
    (B e : Nat) (h1 : P.underlying t = some (.slice e)) (h2 : (P.info? e).map (fun i => (i.zero, i.size, i.bytes)) = some (some (.int .u8 0), 1, 1))
    (v xv : Value) (l r : List UInt8) (hs : a.eval s = v) (hx : a.eval x = xv) (hown : OwnB w B e v l) (hrd : RdB w xv r)
    (hB : B ≤ w.heap.size) (hl : l.length + r.length ≤ 140737488355328)
    (hK : ∀ v' w', OwnB w' B e v' (l ++ r) → (∀ B' u, B' ≤ B → Below B' u w → Below B' u w') → wpList P ops Q rest (a.put o.dst v') w') :
    wpList P ops Q (o :: rest) a w :=
  wpList_append_rd hg s x t hop B e 1 1 (.int .u8 0) h1 h2 rfl (by decide) v xv l.length r.length (l.map bv) (r.map bv) hs hx hown hrd (bv_oneCell r) hB (by omega) (by unfold maxLen; omega)
    fun v' w' h => hK v' w' (by unfold OwnB; simpa using h)

/-- 'append(s, x...)' at a step of a region whose order is open. -/
theorem step_append_rd {P : Program} {w : World} {ops : Array Oper} {o : Oper} {a : Act} {K : Act → World → Prop} {Q : Exit → Act → World → Prop} {E : Prop}
    (hg : o.guard = none) (s x : Operand) (t : TypeId) (hop : o.op = Op.call { callee := Callee.builtin Builtin.append, args := #[s, x], argTypes := #[t, t] })
    (B e size bytes : Nat) (z : Value) (h1 : P.underlying t = some (.slice e)) (h2 : (P.info? e).map (fun i => (i.zero, i.size, i.bytes)) = some (some z, size, bytes)) (hz : z.cells.size = size) (hsz : 0 < size)
    (v xv : Value) (n m : Nat) (xs news : List Value) (hs : a.eval s = v) (hx : a.eval x = xv) (hown : w.ownsRow B e size v n xs) (hrd : Rd w size xv m news) (hone : ∀ u ∈ news, u.oneCell' = true)
    (hB : B ≤ w.heap.size) (hl : (n + m) * bytes ≤ 140737488355328) (hl' : n + m ≤ maxLen)
    (hK : ∀ v' w', w'.ownsRow B e size v' (n + m) (xs ++ news) → (∀ B' u, B' ≤ B → Below B' u w → Below B' u w') → K (a.put o.dst v') w') :
    if Region.wanted o (yielded ops a.tmps) = true then Oper.wp P o a w K Q else E := by
  rw [if_pos (by simp [Region.wanted, hg])]
  obtain ⟨i0, hi, hz0, hz1, hz2⟩ := info_parts h2
  have fin : ∀ v' w', w'.ownsRow B e size v' (n + m) (xs ++ news) → w.grownBy w' v.ownBlock → (v' = .slice none 0 0 ↔ v = .slice none 0 0 ∧ m = 0) → K (a.put o.dst v') w' := by
    intro v' w' hown' hgrow _
    refine hK v' w' hown' ?_
    intro B' u hB' hb
    refine hb.grown hgrow (by omega) ?_
    intro k hk
    have := (World.ownsRow.lt hown k hk).1
    omega
  obtain ⟨ad, cap, rfl, _, _, hlen, h3⟩ := hrd
  cases ad with
  | none =>
    rcases h3 with ⟨rfl, hc⟩ | ⟨b, off, hno, _⟩
    · obtain rfl := hc rfl
      have : news = [] := List.eq_nil_of_length_eq_zero (by simpa using hlen)
      subst this
      have hrun := run_append_owned_none (P := P) (w := w) B t o.type e i0 size h1 hi v n xs hown
      unfold Oper.wp
      simp [execOp, hop, resolve, invoke, builtin, hs, hx, hrun, Result.andThen]
      exact hK v w (by simpa using hown) (fun _ _ _ h => h)
    · cases hno
  | some ad =>
    refine wp_append_own w s x t hop B e i0 z size bytes h1 hi hz0 hz1 hz2 hz hsz v n xs hs hown ad m cap news hx hlen ?_ hone hl' hl hB fin
    intro j u hj
    rcases h3 with ⟨rfl, _⟩ | ⟨b, off, hb, _, h5⟩
    · have : news = [] := List.eq_nil_of_length_eq_zero (by simpa using hlen)
      subst this
      simp at hj
    · cases hb
      have hadd : (⟨b, off, none⟩ : Addr).add j = ⟨b, off + j, none⟩ := by unfold Addr.add; split <;> simp_all
      rw [hadd]
      exact h5 j u hj

/-- .. of bytes. -/
theorem step_append_bytes {P : Program} {w : World} {ops : Array Oper} {o : Oper} {a : Act} {K : Act → World → Prop} {Q : Exit → Act → World → Prop} {E : Prop}
    (hg : o.guard = none) (s x : Operand) (t : TypeId) (hop : o.op = Op.call { callee := Callee.builtin Builtin.append, args := #[s, x], argTypes := #[t, t] })
    (B e : Nat) (h1 : P.underlying t = some (.slice e)) (h2 : (P.info? e).map (fun i => (i.zero, i.size, i.bytes)) = some (some (.int .u8 0), 1, 1))
    (v xv : Value) (l r : List UInt8) (hs : a.eval s = v) (hx : a.eval x = xv) (hown : OwnB w B e v l) (hrd : RdB w xv r)
    (hB : B ≤ w.heap.size) (hl : l.length + r.length ≤ 140737488355328)
    (hK : ∀ v' w', OwnB w' B e v' (l ++ r) → (∀ B' u, B' ≤ B → Below B' u w → Below B' u w') → K (a.put o.dst v') w') :
    if Region.wanted o (yielded ops a.tmps) = true then Oper.wp P o a w K Q else E :=
  step_append_rd hg s x t hop B e 1 1 (.int .u8 0) h1 h2 rfl (by decide) v xv l.length r.length (l.map bv) (r.map bv) hs hx hown hrd (bv_oneCell r) hB (by omega) (by unfold maxLen; omega)
    fun v' w' h => hK v' w' (by unfold OwnB; simpa using h)

/-- 'append(b, s...)' of a string's bytes. -/
theorem wpList_append_string {P : Program} {w : World} {ops : Array Oper} {rest : List Oper} {o : Oper} {a : Act} {Q : Exit → Act → World → Prop}
    (hg : o.guard = none) (s x : Operand) (t u : TypeId) (hop : o.op = Op.call { callee := Callee.builtin Builtin.append, args := #[s, x], argTypes := #[t, u] })
    (B e : Nat) (h1 : P.underlying t = some (.slice e)) (hu : P.underlying u = some .string) (h2 : (P.info? e).map (fun i => (i.zero, i.size, i.bytes)) = some (some (.int .u8 0), 1, 1))
    (v : Value) (l : List UInt8) (str : ByteArray) (hs : a.eval s = v) (hx : a.eval x = .string str) (hown : OwnB w B e v l)
    (hB : B ≤ w.heap.size) (hl : l.length + str.size ≤ 140737488355328)
    (hK : ∀ v' w', OwnB w' B e v' (l ++ str.data.toList) → (∀ B' u, B' ≤ B → Below B' u w → Below B' u w') → wpList P ops Q rest (a.put o.dst v') w') :
    wpList P ops Q (o :: rest) a w := by
  obtain ⟨i0, hi, hz0, hz1, hz2⟩ := info_parts h2
  refine Lib.wpList_append_own_string _ hg s x t u hop B e i0 h1 hu hi hz0 hz1 hz2 v l.length (l.map bv) hs hown str hx (by unfold maxLen; omega) hl hB ?_
  intro v' w' hown' hgrow _
  refine hK v' w' ?_ ?_
  · have e1 : str.data.toList.length = str.size := by rw [Array.length_toList]; rfl
    have e2 : Lib.strCells str = str.data.toList.map bv := rfl
    unfold OwnB
    rw [List.length_append, e1, List.map_append, ← e2]
    exact hown'
  · intro B' u hB' hb
    refine hb.grown hgrow (by omega) ?_
    intro k hk
    have := (World.ownsRow.lt hown k hk).1
    omega

theorem madeZeros (n : Nat) : (madeCells (Value.int .u8 0).cells (n * 1)).toList = (List.replicate n (0 : UInt8)).map bv := by
  show (madeCells #[Value.int .u8 0] (n * 1)).toList = _
  rw [toList_madeCells_one, Nat.mul_one, List.map_replicate]
  rfl

/-- 'make([]byte, n)'. -/
theorem wpList_make_bytes {P : Program} {w : World} {ops : Array Oper} {rest : List Oper} {o : Oper} {a : Act} {Q : Exit → Act → World → Prop}
    (hg : o.guard = none) (x y : Operand) (t : TypeId) (hop : o.op = Op.makeSlice t x y)
    (e : Nat) (h1 : P.underlying t = some (.slice e)) (h2 : (P.info? e).map (fun i => (i.zero, i.size, i.bytes)) = some (some (.int .u8 0), 1, 1))
    (kl kc : IntKind) (n : Nat) (hl : a.eval x = .int kl (n : Int)) (hc : a.eval y = .int kc (n : Int)) (hn : n ≤ 281474976710656)
    (hK : ∀ w', OwnB w' w.heap.size e (.slice (some ⟨w.heap.size, 0, none⟩) n n) (List.replicate n 0) → Below w.heap.size w w' → wpList P ops Q rest (a.put o.dst (.slice (some ⟨w.heap.size, 0, none⟩) n n)) w') :
    wpList P ops Q (o :: rest) a w := by
  obtain ⟨i0, hi, hz0, hz1, hz2⟩ := info_parts h2
  refine wpList_make_full _ hg x y t hop w.heap.size e i0 (.int .u8 0) 1 h1 hi hz0 hz1 kl kc n n n hl hc rfl rfl (by rw [hz2]; omega) (by unfold maxLen; omega) (Nat.le_refl _) ?_
  intro w' hown hgrow
  rw [madeZeros] at hown
  refine hK w' ?_ ((Below.refl _ _).grown hgrow (Nat.le_refl _) (fun k h => by cases h))
  unfold OwnB
  rw [List.length_replicate]
  exact hown

/-- 's[j] = c' in a slice of bytes of the call's own. -/
theorem OwnB.stored {w : World} {B e g n cap : Nat} {l : List UInt8} (h : OwnB w B e (.slice (some ⟨g, 0, none⟩) n cap) l) (j : Nat) (c : UInt8) :
    OwnB (w.setCell ⟨g, j, none⟩ (bv c)) B e (.slice (some ⟨g, 0, none⟩) n cap) (l.set j c) := by
  obtain ⟨a, cap', hv, _⟩ := h.read.form
  cases hv
  have := (World.ownsRow.stored h j (bv c)).1
  unfold OwnB
  rw [List.length_set, List.map_set]
  exact this

theorem OwnB.cellAt {w : World} {B e g n cap : Nat} {l : List UInt8} (h : OwnB w B e (.slice (some ⟨g, 0, none⟩) n cap) l) (j : Nat) (hj : j < l.length) : w.cell? ⟨g, j, none⟩ = some (bv (l.getD j 0)) := by
  obtain ⟨a, cap', hv, _⟩ := h.read.form
  cases hv
  have := World.ownsRow.cellAt h j (by omega)
  rw [this]
  simp [List.getD, hj]

theorem OwnB.frozenAt {w : World} {B e g n cap : Nat} {l : List UInt8} (h : OwnB w B e (.slice (some ⟨g, 0, none⟩) n cap) l) (j : Nat) : w.frozen? ⟨g, j, none⟩ = false := by
  obtain ⟨a, cap', hv, _⟩ := h.read.form
  cases hv
  exact World.ownsRow.frozenAt h j

/-- The string of bytes. -/
abbrev strB (l : List UInt8) : ByteArray := ⟨l.toArray⟩

theorem strB_size (l : List UInt8) : (strB l).size = l.length := by simp [ByteArray.size]
theorem strB_data (s : ByteArray) : strB s.data.toList = s := rfl

theorem strOfNums_bytes (l : List UInt8) : strOfNums (l.map fun c => (c.toNat : Int)) = strB l := by
  unfold strOfNums strB
  congr 1
  rw [List.map_map]
  congr 1
  conv => rhs; rw [← List.map_id l]
  refine List.map_congr_left fun c _ => ?_
  simp

/-- 'string(b)' of a slice of bytes that can be read. -/
theorem rdB_convert {P : Program} {w : World} {v : Value} {l : List UInt8} (h : RdB w v l) (src e dst : TypeId) (hs : P.underlying src = some (.slice e)) (he : P.underlying e = some (.int .u8)) (hd : P.underlying dst = some .string) :
    (convert src dst v).run P w = .ok (.string (strB l)) w := by
  cases l with
  | nil =>
    obtain ⟨a, cap, rfl, _⟩ := h
    cases a with
    | none => exact run_convert_bytes_nil w src e hs he _ _ dst hd
    | some ad =>
      obtain ⟨b, off, spot⟩ := ad
      rw [run_convert_bytes_string w src dst e _ _ _ hs he hd]
      have hl : (loadCells ⟨b, off, spot⟩ 0).run P w = .ok (([] : List Int).map (Value.int .u8)).toArray w := by
        have := run_loadCells_list (P := P) w ⟨b, off, spot⟩ [] (by simp)
        simpa using this
      exact run_bytesToString w ⟨b, off, spot⟩ 0 cap [] hl
  | cons c r =>
    obtain ⟨b, off, cap, rfl, _, _, _, hc⟩ := h.cells (by simp)
    have := run_convert_bytes_arg (P := P) w src e hs he b off (c :: r).length cap ((c :: r).map fun c => (c.toNat : Int)) (by simp) (fun i hi => by
      rw [hc i hi]
      simp only [List.getD_eq_getElem?_getD, List.getElem?_map]
      rw [List.getElem?_eq_getElem hi]
      simp) dst hd
    rw [strOfNums_bytes] at this
    exact this

/-- A part of a slice of bytes. -/
theorem RdB.part {w : World} {b off cap : Nat} {l : List UInt8} (h : RdB w (.slice (some ⟨b, off, none⟩) l.length cap) l) (p q : Nat) (hpq : p ≤ q) (hq : q ≤ l.length) :
    RdB w (.slice (some ⟨b, off + p, none⟩) (q - p) (cap - p)) ((l.drop p).take (q - p)) := by
  have hlen : ((l.drop p).take (q - p)).length = q - p := by rw [List.length_take, List.length_drop]; omega
  obtain ⟨a, cap', hv, h1, h2, _, h3⟩ := h
  cases hv
  refine ⟨_, _, by rw [hlen], by rw [hlen]; omega, by omega, by simp, ?_⟩
  by_cases h0 : q - p = 0
  · left; rw [hlen]; exact ⟨h0, fun h => by cases h⟩
  · rcases h3 with ⟨h3, _⟩ | ⟨b', off', hb, h4, h5⟩
    · omega
    · cases hb
      refine .inr ⟨b, off + p, rfl, h4, fun j u hj => ?_⟩
      have hj' : j < q - p := by
        rcases Nat.lt_or_ge j (q - p) with h | h
        · exact h
        · rw [List.getElem?_eq_none (by simp; omega)] at hj; cases hj
      rw [Nat.add_assoc]
      refine h5 (p + j) u ?_
      rw [← hj]
      simp [hj']

/-- The first bytes of a slice. -/
theorem RdB.front {w : World} {a : Option Addr} {cap : Nat} {l : List UInt8} (h : RdB w (.slice a l.length cap) l) (q : Nat) (hq : q ≤ l.length) : RdB w (.slice a q cap) (l.take q) := by
  have hlen : (l.take q).length = q := by rw [List.length_take]; omega
  obtain ⟨a', cap', hv, h1, h2, _, h3⟩ := h
  cases hv
  refine ⟨_, _, by rw [hlen], by rw [hlen]; omega, by omega, by simp, ?_⟩
  rcases h3 with ⟨h3, h4⟩ | ⟨b, off, hb, h4, h5⟩
  · left; rw [hlen]; exact ⟨by omega, h4⟩
  · refine .inr ⟨b, off, hb, h4, fun j u hj => ?_⟩
    have hj' : j < q := by
      rcases Nat.lt_or_ge j q with h | h
      · exact h
      · rw [List.getElem?_eq_none (by simp; omega)] at hj; cases hj
    refine h5 j u ?_
    rw [← hj]
    simp [hj']

/-- '[]byte{}'. -/
theorem OwnB.made (w : World) (B e : Nat) (hB : B ≤ w.heap.size) : OwnB (w.alloc (.cells #[] e)) B e (.slice (some ⟨w.heap.size, 0, none⟩) 0 0) [] :=
  World.ownsRow_made w #[] 0 hB (Nat.zero_le _) rfl

/-- The empty part at the end of all that there is. -/
theorem RdB.none_left {w : World} {a : Addr} : RdB w (.slice (some a) 0 0) [] := ⟨_, _, rfl, Nat.le_refl _, Nat.zero_le _, by simp, .inl ⟨rfl, fun h => by cases h⟩⟩

theorem below_draws {w w' : World} {n : Nat} (h : Below (w.drewN n).heap.size (w.drewN n) w') : Below w.heap.size w w' := (below_drewN (Below.refl _ _) n).trans h
theorem below_draw {w w' : World} (h : Below w.drew.heap.size w.drew w') : Below w.heap.size w w' := (Below.refl _ _).drew.trans h

theorem RdB.drew {w : World} {v : Value} {l : List UInt8} (h : RdB w v l) : RdB w.drew v l := h.below (Below.refl _ _).drew (Nat.le_refl _)
theorem RdB.drewN {w : World} {v : Value} {l : List UInt8} (h : RdB w v l) (n : Nat) : RdB (w.drewN n) v l := h.below (below_drewN (Below.refl _ _) n) (Nat.le_refl _)
end Go.Proofs.Ytmlijnekidihbaa
