import Derived.WalkKit
import Derived.Lib.Hide
import Derived.Lib.AppendStr
import Derived.Laws.AppendOwnNone
import Derived.Laws.BytesArg
import Derived.WalkSmall
import Derived.Deep.Draws
import Derived.Test.YtfeogoihkpclcaaProg
import Derived.Deep.RegionHeld3
import Derived.Deep.DeepCutAuto
import Derived.ProofKit

/-
  Words that the other texts share: a list of bytes as Go's cells; a slice of bytes that the call itself made; a slice of bytes that can be read. Plain facts, over any program.
-/
namespace Go.Proofs.Ytfeogoihkpclcaa
open Go.RowKit

/-- A byte as the model's value. -/
abbrev bv (c : UInt8) : Value := .int .u8 (c.toNat : Int)

theorem byte_le (c : UInt8) : (c.toNat : Int) ≤ 255 := by have := c.toNat_lt; omega

theorem bv_oneCell (l : List UInt8) : ∀ u ∈ l.map bv, u.oneCell' = true := by
  intro u hu
  obtain ⟨c, _, rfl⟩ := List.mem_map.1 hu
  rfl

/-- The slice 'v' of bytes 'l' lies in memory of the call's own, from block 'B' on ('e': the number of type uint8). -/
def OwnB (w : World) (B e : Nat) (v : Value) (l : List UInt8) : Prop := w.ownsRow B e 1 v l.length (l.map bv)

theorem OwnB.nil (w : World) (B e : Nat) : OwnB w B e (.slice none 0 0) [] := World.ownsRow_nil _ _ _ _

/-- The slice 'v' of 'n' elements ('size' cells each) reads as the cells 'cs' in world 'w'. -/
def Rd (w : World) (size : Nat) (v : Value) (n : Nat) (cs : List Value) : Prop :=
  ∃ a cap, v = .slice a n cap ∧ n ≤ cap ∧ cap ≤ maxLen ∧ cs.length = n * size ∧
    ((n = 0 ∧ (a = none → cap = 0)) ∨ ∃ b off, a = some ⟨b, off, none⟩ ∧ b < w.heap.size ∧ ∀ j u, cs[j]? = some u → w.cell? ⟨b, off + j, none⟩ = some u)

theorem Rd.below {w w' : World} {size n : Nat} {v : Value} {cs : List Value} (h : Rd w size v n cs) {B : Nat} (hb : Below B w w') (hB : w.heap.size ≤ B) : Rd w' size v n cs := by
  obtain ⟨a, cap, rfl, h1, h2, h0, h3⟩ := h
  refine ⟨a, cap, rfl, h1, h2, h0, ?_⟩
  rcases h3 with h3 | ⟨b, off, rfl, h4, h5⟩
  · exact .inl h3
  · exact .inr ⟨b, off, rfl, by have := hb.size; omega, fun j u hj => (hb.cell (p := ⟨b, off + j, none⟩) (show b < B by omega)).trans (h5 j u hj)⟩

theorem Rd.nil (w : World) (size : Nat) : Rd w size (.slice none 0 0) 0 [] := ⟨none, 0, rfl, Nat.le_refl _, Nat.zero_le _, by simp, .inl ⟨rfl, fun _ => rfl⟩⟩

/-- What is owned can be read. -/
theorem rd_of_own {w : World} {B e size n : Nat} {v : Value} {cs : List Value} (h : w.ownsRow B e size v n cs) : Rd w size v n cs := by
  obtain ⟨h0, h1⟩ := h
  rcases h1 with ⟨rfl, rfl⟩ | ⟨g, cap, cur, rfl, _, hg, hn, hm, hs, htake⟩
  · have : cs = [] := List.eq_nil_of_length_eq_zero (by simpa using h0)
    subst this
    exact Rd.nil _ _
  · refine ⟨_, cap, rfl, hn, hm, h0, .inr ⟨g, 0, rfl, (Array.getElem?_eq_some_iff.1 hg).1, fun j u hj => ?_⟩⟩
    rw [Nat.zero_add, cell_of_row w g j cur e (0, 0) hg]
    rw [← htake, List.getElem?_take] at hj
    split at hj
    · simpa using hj
    · cases hj

/-- The slice 'v' reads as the bytes 'l' in world 'w'. -/
def RdB (w : World) (v : Value) (l : List UInt8) : Prop := Rd w 1 v l.length (l.map bv)

theorem RdB.below {w w' : World} {v : Value} {l : List UInt8} (h : RdB w v l) {B : Nat} (hb : Below B w w') (hB : w.heap.size ≤ B) : RdB w' v l := Rd.below h hb hB

theorem OwnB.read {w : World} {B e : Nat} {v : Value} {l : List UInt8} (h : OwnB w B e v l) : RdB w v l := rd_of_own h

/-- What a slice of bytes is, as a value. -/
theorem RdB.form {w : World} {v : Value} {l : List UInt8} (h : RdB w v l) : ∃ a cap, v = .slice a l.length cap ∧ l.length ≤ cap ∧ cap ≤ maxLen := by
  obtain ⟨a, cap, rfl, h1, h2, _⟩ := h
  exact ⟨a, cap, rfl, h1, h2⟩

/-- What is owned stays so while only older memory, or none, is touched. -/
theorem OwnB.below {w w' : World} {B e : Nat} {v : Value} {l : List UInt8} (h : OwnB w B e v l) {B' : Nat} (hb : Below B' w w') (hB : w.heap.size ≤ B') : OwnB w' B e v l := by
  refine ⟨h.1, ?_⟩
  rcases h.2 with h2 | ⟨g, cap, cur, rfl, h3, hg, r⟩
  · exact .inl h2
  · have := (Array.getElem?_eq_some_iff.1 hg).1
    exact .inr ⟨g, cap, cur, rfl, h3, by rw [hb.block g (by omega)]; exact hg, r⟩

/-- 'append(s, c)' of one byte onto a slice of the call's own. -/
theorem wpList_append_byte {P : Program} {ops : Array Oper} {rest : List Oper} {o : Oper} {a : Act} {Q : Exit → Act → World → Prop}
    (hg : o.guard = none) (s x : Operand) (t : TypeId) (hop : o.op = Op.call { callee := Callee.builtin Builtin.append, args := #[s, x], argTypes := #[t, t] })
    (B e : Nat) (h1 : P.underlying t = some (.slice e)) (h2 : (P.info? e).map (fun i => (i.zero, i.size, i.bytes)) = some (some (.int .u8 0), 1, 1))
    (v : Value) (l : List UInt8) (c : UInt8) (n : Int) (w : World) (hs : a.eval s = v) (hx : a.eval x = .slice (some ⟨w.heap.size, 0, none⟩) 1 1) (hown : OwnB w B e v l) (hn : n = (c.toNat : Int))
    (hB : B ≤ w.heap.size) (hl : l.length < 140737488355328)
    (hK : ∀ v' w', OwnB w' B e v' (l ++ [c]) → (∀ B' u, B' ≤ B → Below B' u w → Below B' u w') → wpList P ops Q rest (a.put o.dst v') w') :
    wpList P ops Q (o :: rest) a (w.alloc (.cells #[.int .u8 n] e)) := by
  subst hn
  obtain ⟨i0, hi, hz0, hz1, hz2⟩ := info_parts h2
  refine wpList_append_own _ hg s x t hop B e i0 (.int .u8 0) 1 1 h1 hi hz0 hz1 hz2 rfl (by decide) v l.length (l.map bv) hs (World.ownsRow.alloc hown _) ⟨w.heap.size, 0, none⟩ 1 1 [bv c] hx rfl ?_ ?_ ?_ ?_ ?_ ?_
  · intro j u hj
    match j, hj with
    | 0, hj => simp at hj; subst hj; simp [Addr.add]
  · intro u hu; simp at hu; subst hu; rfl
  · unfold maxLen; omega
  · omega
  · simp; omega
  · intro v' w' hown' hgrow _
    refine hK v' w' ?_ ?_
    · unfold OwnB
      simpa using hown'
    · intro B' u hB' hb
      refine ((hb.alloc (by omega) _).grown hgrow (by simp; omega) ?_)
      intro k hk
      have := (World.ownsRow.lt hown k hk).1
      omega

/-- A slice of bytes that is not empty: where it lies. -/
theorem RdB.cells {w : World} {v : Value} {l : List UInt8} (h : RdB w v l) (hne : l ≠ []) :
    ∃ b off cap, v = .slice (some ⟨b, off, none⟩) l.length cap ∧ l.length ≤ cap ∧ cap ≤ maxLen ∧ b < w.heap.size ∧ ∀ i, i < l.length → w.cell? ⟨b, off + i, none⟩ = some (bv (l.getD i 0)) := by
  obtain ⟨a, cap, rfl, h1, h2, h0, h3 | ⟨b, off, rfl, h4, h5⟩⟩ := h
  · exact absurd (List.eq_nil_of_length_eq_zero h3.1) hne
  · exact ⟨b, off, cap, rfl, h1, h2, h4, fun i hi => h5 i _ (by simp [List.getD, hi])⟩

/-- 'append(s, x...)' onto a slice of the call's own, of a slice that can be read: nil, empty, or not. -/
theorem wpList_append_rd {P : Program} {w : World} {ops : Array Oper} {rest : List Oper} {o : Oper} {a : Act} {Q : Exit → Act → World → Prop}
    (hg : o.guard = none) (s x : Operand) (t : TypeId) (hop : o.op = Op.call { callee := Callee.builtin Builtin.append, args := #[s, x], argTypes := #[t, t] })
    (B e size bytes : Nat) (z : Value) (h1 : P.underlying t = some (.slice e)) (h2 : (P.info? e).map (fun i => (i.zero, i.size, i.bytes)) = some (some z, size, bytes)) (hz : z.cells.size = size) (hsz : 0 < size)
    (v xv : Value) (n m : Nat) (xs news : List Value) (hs : a.eval s = v) (hx : a.eval x = xv) (hown : w.ownsRow B e size v n xs) (hrd : Rd w size xv m news) (hone : ∀ u ∈ news, u.oneCell' = true)
    (hB : B ≤ w.heap.size) (hl : (n + m) * bytes ≤ 140737488355328) (hl' : n + m ≤ maxLen)
    (hK : ∀ v' w', w'.ownsRow B e size v' (n + m) (xs ++ news) → (∀ B' u, B' ≤ B → Below B' u w → Below B' u w') → wpList P ops Q rest (a.put o.dst v') w') :
    wpList P ops Q (o :: rest) a w := by
  obtain ⟨i0, hi, hz0, hz1, hz2⟩ := info_parts h2
  have fin : ∀ v' w', w'.ownsRow B e size v' (n + m) (xs ++ news) → w.grownBy w' v.ownBlock → (v' = .slice none 0 0 ↔ v = .slice none 0 0 ∧ m = 0) → wpList P ops Q rest (a.put o.dst v') w' := by
    intro v' w' hown' hgrow _
    refine hK v' w' hown' ?_
    intro B' u hB' hb
    refine hb.grown hgrow (by omega) ?_
    intro k hk
    have := (World.ownsRow.lt hown k hk).1
    omega
  obtain ⟨ad, cap, rfl, _, _, hlen, h3⟩ := hrd
  cases ad with
  | none =>
    rcases h3 with ⟨rfl, hc⟩ | ⟨b, off, hno, _⟩
    · obtain rfl := hc rfl
      have : news = [] := List.eq_nil_of_length_eq_zero (by simpa using hlen)
      subst this
      refine wpList_append_own_none hg s x t hop B e i0 size h1 hi v n xs hs hown hx ?_
      have := hK v w (by simpa using hown) (fun _ _ _ h => h)
      exact this
    · cases hno
  | some ad =>
    refine wpList_append_own _ hg s x t hop B e i0 z size bytes h1 hi hz0 hz1 hz2 hz hsz v n xs hs hown ad m cap news hx hlen ?_ hone hl' hl hB fin
    intro j u hj
    rcases h3 with ⟨rfl, _⟩ | ⟨b, off, hb, _, h5⟩
    · have : news = [] := List.eq_nil_of_length_eq_zero (by simpa using hlen)
      subst this
      simp at hj
    · cases hb
      have hadd : (⟨b, off, none⟩ : Addr).add j = ⟨b, off + j, none⟩ := by unfold Addr.add; split <;> simp_all
      rw [hadd]
      exact h5 j u hj

/-- 'append(s, x...)' of bytes. -/
theorem wpList_append_bytes {P : Program} {w : World} {ops : Array Oper} {rest : List Oper} {o : Oper} {a : Act} {Q : Exit → Act → World → Prop}
    (hg : o.guard = none) (s x : Operand) (t : TypeId) (hop : o.op = Op.call { callee := Callee.builtin Builtin.append, args := #[s, x], argTypes := #[t, t] })
    (B e : Nat) (h1 : P.underlying t = some (.slice e)) (h2 : (P.info? e).map (fun i => (i.zero, i.size, i.bytes)) = some (some (.int .u8 0), 1, 1))
    (v xv : Value) (l r : List UInt8) (hs : a.eval s = v) (hx : a.eval x = xv) (hown : OwnB w B e v l) (hrd : RdB w xv r)
    (hB : B ≤ w.heap.size) (hl : l.length + r.length ≤ 140737488355328)
    (hK : ∀ v' w', OwnB w' B e v' (l ++ r) → (∀ B' u, B' ≤ B → Below B' u w → Below B' u w') → wpList P ops Q rest (a.put o.dst v') w') :
    wpList P ops Q (o :: rest) a w :=
  wpList_append_rd hg s x t hop B e 1 1 (.int .u8 0) h1 h2 rfl (by decide) v xv l.length r.length (l.map bv) (r.map bv) hs hx hown hrd (bv_oneCell r) hB (by omega) (by unfold maxLen; omega)
    fun v' w' h => hK v' w' (by unfold OwnB; simpa using h)

/-- 'append(s, x...)' at a step of a region whose order is open. -/
theorem step_append_rd {P : Program} {w : World} {ops : Array Oper} {o : Oper} {a : Act} {K : Act → World → Prop} {Q : Exit → Act → World → Prop} {E : Prop}
    (hg : o.guard = none) (s x : Operand) (t : TypeId) (hop : o.op = Op.call { callee := Callee.builtin Builtin.append, args := #[s, x], argTypes := #[t, t] })
    (B e size bytes : Nat) (z : Value) (h1 : P.underlying t = some (.slice e)) (h2 : (P.info? e).map (fun i => (i.zero, i.size, i.bytes)) = some (some z, size, bytes)) (hz : z.cells.size = size) (hsz : 0 < size)
    (v xv : Value) (n m : Nat) (xs news : List Value) (hs : a.eval s = v) (hx : a.eval x = xv) (hown : w.ownsRow B e size v n xs) (hrd : Rd w size xv m news) (hone : ∀ u ∈ news, u.oneCell' = true)
    (hB : B ≤ w.heap.size) (hl : (n + m) * bytes ≤ 140737488355328) (hl' : n + m ≤ maxLen)
    (hK : ∀ v' w', w'.ownsRow B e size v' (n + m) (xs ++ news) → (∀ B' u, B' ≤ B → Below B' u w → Below B' u w') → K (a.put o.dst v') w') :
    if Region.wanted o (yielded ops a.tmps) = true then Oper.wp P o a w K Q else E := by
  rw [if_pos (by simp [Region.wanted, hg])]
  obtain ⟨i0, hi, hz0, hz1, hz2⟩ := info_parts h2
  have fin : ∀ v' w', w'.ownsRow B e size v' (n + m) (xs ++ news) → w.grownBy w' v.ownBlock → (v' = .slice none 0 0 ↔ v = .slice none 0 0 ∧ m = 0) → K (a.put o.dst v') w' := by
    intro v' w' hown' hgrow _
    refine hK v' w' hown' ?_
    intro B' u hB' hb
    refine hb.grown hgrow (by omega) ?_
    intro k hk
    have := (World.ownsRow.lt hown k hk).1
    omega
  obtain ⟨ad, cap, rfl, _, _, hlen, h3⟩ := hrd
  cases ad with
  | none =>
    rcases h3 with ⟨rfl, hc⟩ | ⟨b, off, hno, _⟩
    · obtain rfl := hc rfl
      have : news = [] := List.eq_nil_of_length_eq_zero (by simpa using hlen)
      subst this
      have hrun := run_append_owned_none (P := P) (w := w) B t o.type e i0 size h1 hi v n xs hown
      unfold Oper.wp
      simp [execOp, hop, resolve, invoke, builtin, hs, hx, hrun, Result.andThen]
      exact hK v w (by simpa using hown) (fun _ _ _ h => h)
    · cases hno
  | some ad =>
    refine wp_append_own w s x t hop B e i0 z size bytes h1 hi hz0 hz1 hz2 hz hsz v n xs hs hown ad m cap news hx hlen ?_ hone hl' hl hB fin
    intro j u hj
    rcases h3 with ⟨rfl, _⟩ | ⟨b, off, hb, _, h5⟩
    · have : news = [] := List.eq_nil_of_length_eq_zero (by simpa using hlen)
      subst this
      simp at hj
    · cases hb
      have hadd : (⟨b, off, none⟩ : Addr).add j = ⟨b, off + j, none⟩ := by unfold Addr.add; split <;> simp_all
      rw [hadd]
      exact h5 j u hj

/-- .. of bytes. -/
theorem step_append_bytes {P : Program} {w : World} {ops : Array Oper} {o : Oper} {a : Act} {K : Act → World → Prop} {Q : Exit → Act → World → Prop} {E : Prop}
    (hg : o.guard = none) (s x : Operand) (t : TypeId) (hop : o.op = Op.call { callee := Callee.builtin Builtin.append, args := #[s, x], argTypes := #[t, t] })
    (B e : Nat) (h1 : P.underlying t = some (.slice e)) (h2 : (P.info? e).map (fun i => (i.zero, i.size, i.bytes)) = some (some (.int .u8 0), 1, 1))
    (v xv : Value) (l r : List UInt8) (hs : a.eval s = v) (hx : a.eval x = xv) (hown : OwnB w B e v l) (hrd : RdB w xv r)
    (hB : B ≤ w.heap.size) (hl : l.length + r.length ≤ 140737488355328)
    (hK : ∀ v' w', OwnB w' B e v' (l ++ r) → (∀ B' u, B' ≤ B → Below B' u w → Below B' u w') → K (a.put o.dst v') w') :
    if Region.wanted o (yielded ops a.tmps) = true then Oper.wp P o a w K Q else E :=
  step_append_rd hg s x t hop B e 1 1 (.int .u8 0) h1 h2 rfl (by decide) v xv l.length r.length (l.map bv) (r.map bv) hs hx hown hrd (bv_oneCell r) hB (by omega) (by unfold maxLen; omega)
    fun v' w' h => hK v' w' (by unfold OwnB; simpa using h)

/-- 'append(b, s...)' of a string's bytes. -/
theorem wpList_append_string {P : Program} {w : World} {ops : Array Oper} {rest : List Oper} {o : Oper} {a : Act} {Q : Exit → Act → World → Prop}
    (hg : o.guard = none) (s x : Operand) (t u : TypeId) (hop : o.op = Op.call { callee := Callee.builtin Builtin.append, args := #[s, x], argTypes := #[t, u] })
    (B e : Nat) (h1 : P.underlying t = some (.slice e)) (hu : P.underlying u = some .string) (h2 : (P.info? e).map (fun i => (i.zero, i.size, i.bytes)) = some (some (.int .u8 0), 1, 1))
    (v : Value) (l : List UInt8) (str : ByteArray) (hs : a.eval s = v) (hx : a.eval x = .string str) (hown : OwnB w B e v l)
    (hB : B ≤ w.heap.size) (hl : l.length + str.size ≤ 140737488355328)
    (hK : ∀ v' w', OwnB w' B e v' (l ++ str.data.toList) → (∀ B' u, B' ≤ B → Below B' u w → Below B' u w') → wpList P ops Q rest (a.put o.dst v') w') :
    wpList P ops Q (o :: rest) a w := by
  obtain ⟨i0, hi, hz0, hz1, hz2⟩ := info_parts h2
  refine Lib.wpList_append_own_string _ hg s x t u hop B e i0 h1 hu hi hz0 hz1 hz2 v l.length (l.map bv) hs hown str hx (by unfold maxLen; omega) hl hB ?_
  intro v' w' hown' hgrow _
  refine hK v' w' ?_ ?_
  · have e1 : str.data.toList.length = str.size := by rw [Array.length_toList]; rfl
    have e2 : Lib.strCells str = str.data.toList.map bv := rfl
    unfold OwnB
    rw [List.length_append, e1, List.map_append, ← e2]
    exact hown'
  · intro B' u hB' hb
    refine hb.grown hgrow (by omega) ?_
    intro k hk
    have := (World.ownsRow.lt hown k hk).1
    omega

theorem madeZeros (n : Nat) : (madeCells (Value.int .u8 0).cells (n * 1)).toList = (List.replicate n (0 : UInt8)).map bv := by
  show (madeCells #[Value.int .u8 0] (n * 1)).toList = _
  rw [toList_madeCells_one, Nat.mul_one, List.map_replicate]
  rfl

/-- 'make([]byte, n)'. -/
theorem wpList_make_bytes {P : Program} {w : World} {ops : Array Oper} {rest : List Oper} {o : Oper} {a : Act} {Q : Exit → Act → World → Prop}
    (hg : o.guard = none) (x y : Operand) (t : TypeId) (hop : o.op = Op.makeSlice t x y)
    (e : Nat) (h1 : P.underlying t = some (.slice e)) (h2 : (P.info? e).map (fun i => (i.zero, i.size, i.bytes)) = some (some (.int .u8 0), 1, 1))
    (kl kc : IntKind) (n : Nat) (hl : a.eval x = .int kl (n : Int)) (hc : a.eval y = .int kc (n : Int)) (hn : n ≤ 281474976710656)
    (hK : ∀ w', OwnB w' w.heap.size e (.slice (some ⟨w.heap.size, 0, none⟩) n n) (List.replicate n 0) → Below w.heap.size w w' → wpList P ops Q rest (a.put o.dst (.slice (some ⟨w.heap.size, 0, none⟩) n n)) w') :
    wpList P ops Q (o :: rest) a w := by
  obtain ⟨i0, hi, hz0, hz1, hz2⟩ := info_parts h2
  refine wpList_make_full _ hg x y t hop w.heap.size e i0 (.int .u8 0) 1 h1 hi hz0 hz1 kl kc n n n hl hc rfl rfl (by rw [hz2]; omega) (by unfold maxLen; omega) (Nat.le_refl _) ?_
  intro w' hown hgrow
  rw [madeZeros] at hown
  refine hK w' ?_ ((Below.refl _ _).grown hgrow (Nat.le_refl _) (fun k h => by cases h))
  unfold OwnB
  rw [List.length_replicate]
  exact hown

/-- 's[j] = c' in a slice of bytes of the call's own. -/
theorem OwnB.stored {w : World} {B e g n cap : Nat} {l : List UInt8} (h : OwnB w B e (.slice (some ⟨g, 0, none⟩) n cap) l) (j : Nat) (c : UInt8) :
    OwnB (w.setCell ⟨g, j, none⟩ (bv c)) B e (.slice (some ⟨g, 0, none⟩) n cap) (l.set j c) := by
  obtain ⟨a, cap', hv, _⟩ := h.read.form
  cases hv
  have := (World.ownsRow.stored h j (bv c)).1
  unfold OwnB
  rw [List.length_set, List.map_set]
  exact this

theorem OwnB.cellAt {w : World} {B e g n cap : Nat} {l : List UInt8} (h : OwnB w B e (.slice (some ⟨g, 0, none⟩) n cap) l) (j : Nat) (hj : j < l.length) : w.cell? ⟨g, j, none⟩ = some (bv (l.getD j 0)) := by
  obtain ⟨a, cap', hv, _⟩ := h.read.form
  cases hv
  have := World.ownsRow.cellAt h j (by omega)
  rw [this]
  simp [List.getD, hj]

theorem OwnB.frozenAt {w : World} {B e g n cap : Nat} {l : List UInt8} (h : OwnB w B e (.slice (some ⟨g, 0, none⟩) n cap) l) (j : Nat) : w.frozen? ⟨g, j, none⟩ = false := by
  obtain ⟨a, cap', hv, _⟩ := h.read.form
  cases hv
  exact World.ownsRow.frozenAt h j

/-- The string of bytes. -/
abbrev strB (l : List UInt8) : ByteArray := ⟨l.toArray⟩

theorem strB_size (l : List UInt8) : (strB l).size = l.length := by simp [ByteArray.size]
theorem strB_data (s : ByteArray) : strB s.data.toList = s := rfl

theorem strOfNums_bytes (l : List UInt8) : strOfNums (l.map fun c => (c.toNat : Int)) = strB l := by
  unfold strOfNums strB
  congr 1
  rw [List.map_map]
  congr 1
  conv => rhs; rw [← List.map_id l]
  refine List.map_congr_left fun c _ => ?_
  simp

/-- 'string(b)' of a slice of bytes that can be read. -/
theorem rdB_convert {P : Program} {w : World} {v : Value} {l : List UInt8} (h : RdB w v l) (src e dst : TypeId) (hs : P.underlying src = some (.slice e)) (he : P.underlying e = some (.int .u8)) (hd : P.underlying dst = some .string) :
    (convert src dst v).run P w = .ok (.string (strB l)) w := by
  cases l with
  | nil =>
    obtain ⟨a, cap, rfl, _⟩ := h
    cases a with
    | none => exact run_convert_bytes_nil w src e hs he _ _ dst hd
    | some ad =>
      obtain ⟨b, off, spot⟩ := ad
      rw [run_convert_bytes_string w src dst e _ _ _ hs he hd]
      have hl : (loadCells ⟨b, off, spot⟩ 0).run P w = .ok (([] : List Int).map (Value.int .u8)).toArray w := by
        have := run_loadCells_list (P := P) w ⟨b, off, spot⟩ [] (by simp)
        simpa using this
      exact run_bytesToString w ⟨b, off, spot⟩ 0 cap [] hl
  | cons c r =>
    obtain ⟨b, off, cap, rfl, _, _, _, hc⟩ := h.cells (by simp)
    have := run_convert_bytes_arg (P := P) w src e hs he b off (c :: r).length cap ((c :: r).map fun c => (c.toNat : Int)) (by simp) (fun i hi => by
      rw [hc i hi]
      simp only [List.getD_eq_getElem?_getD, List.getElem?_map]
      rw [List.getElem?_eq_getElem hi]
      simp) dst hd
    rw [strOfNums_bytes] at this
    exact this

/-- A part of a slice of bytes. -/
theorem RdB.part {w : World} {b off cap : Nat} {l : List UInt8} (h : RdB w (.slice (some ⟨b, off, none⟩) l.length cap) l) (p q : Nat) (hpq : p ≤ q) (hq : q ≤ l.length) :
    RdB w (.slice (some ⟨b, off + p, none⟩) (q - p) (cap - p)) ((l.drop p).take (q - p)) := by
  have hlen : ((l.drop p).take (q - p)).length = q - p := by rw [List.length_take, List.length_drop]; omega
  obtain ⟨a, cap', hv, h1, h2, _, h3⟩ := h
  cases hv
  refine ⟨_, _, by rw [hlen], by rw [hlen]; omega, by omega, by simp, ?_⟩
  by_cases h0 : q - p = 0
  · left; rw [hlen]; exact ⟨h0, fun h => by cases h⟩
  · rcases h3 with ⟨h3, _⟩ | ⟨b', off', hb, h4, h5⟩
    · omega
    · cases hb
      refine .inr ⟨b, off + p, rfl, h4, fun j u hj => ?_⟩
      have hj' : j < q - p := by
        rcases Nat.lt_or_ge j (q - p) with h | h
        · exact h
        · rw [List.getElem?_eq_none (by simp; omega)] at hj; cases hj
      rw [Nat.add_assoc]
      refine h5 (p + j) u ?_
      rw [← hj]
      simp [hj']

/-- The first bytes of a slice. -/
theorem RdB.front {w : World} {a : Option Addr} {cap : Nat} {l : List UInt8} (h : RdB w (.slice a l.length cap) l) (q : Nat) (hq : q ≤ l.length) : RdB w (.slice a q cap) (l.take q) := by
  have hlen : (l.take q).length = q := by rw [List.length_take]; omega
  obtain ⟨a', cap', hv, h1, h2, _, h3⟩ := h
  cases hv
  refine ⟨_, _, by rw [hlen], by rw [hlen]; omega, by omega, by simp, ?_⟩
  rcases h3 with ⟨h3, h4⟩ | ⟨b, off, hb, h4, h5⟩
  · left; rw [hlen]; exact ⟨by omega, h4⟩
  · refine .inr ⟨b, off, hb, h4, fun j u hj => ?_⟩
    have hj' : j < q := by
      rcases Nat.lt_or_ge j q with h | h
      · exact h
      · rw [List.getElem?_eq_none (by simp; omega)] at hj; cases hj
    refine h5 j u ?_
    rw [← hj]
    simp [hj']

/-- '[]byte{}'. -/
theorem OwnB.made (w : World) (B e : Nat) (hB : B ≤ w.heap.size) : OwnB (w.alloc (.cells #[] e)) B e (.slice (some ⟨w.heap.size, 0, none⟩) 0 0) [] :=
  World.ownsRow_made w #[] 0 hB (Nat.zero_le _) rfl

/-- The empty part at the end of all that there is. -/
theorem RdB.none_left {w : World} {a : Addr} : RdB w (.slice (some a) 0 0) [] := ⟨_, _, rfl, Nat.le_refl _, Nat.zero_le _, by simp, .inl ⟨rfl, fun h => by cases h⟩⟩

theorem below_draws {w w' : World} {n : Nat} (h : Below (w.drewN n).heap.size (w.drewN n) w') : Below w.heap.size w w' := (below_drewN (Below.refl _ _) n).trans h
theorem below_draw {w w' : World} (h : Below w.drew.heap.size w.drew w') : Below w.heap.size w w' := (Below.refl _ _).drew.trans h

theorem RdB.drew {w : World} {v : Value} {l : List UInt8} (h : RdB w v l) : RdB w.drew v l := h.below (Below.refl _ _).drew (Nat.le_refl _)
theorem RdB.drewN {w : World} {v : Value} {l : List UInt8} (h : RdB w v l) (n : Nat) : RdB (w.drewN n) v l := h.below (below_drewN (Below.refl _ _) n) (Nat.le_refl _)
end Go.Proofs.Ytfeogoihkpclcaa

/-
  An error as a number, in the statements' own words.
-/
namespace Go.Proofs.Ytfeogoihkpclcaa
open Go.RowKit

set_option linter.unusedSimpArgs false in
theorem num1_any (w : World) (n : Int) : Calls Try.prog 21 #[.int .i64 n] w fun e w' => e = .returned (.int .i64 n) ∧ w = w' := by
  go_enter Try.func21, Try.ntmps21
  go_wp2
  go_ret
  exact ⟨rfl, rfl⟩
end Go.Proofs.Ytfeogoihkpclcaa

/-
  A region whose order is open, of which some operations yield the same in every world of a class, and the others come up in one order: the former first, then the latter.
-/
namespace Go.Proofs.Ytfeogoihkpclcaa
open Go.RowKit
section
variable {P : Program} {ops : Array Oper} {Q : Exit → Act → World → Prop} {S : World → Prop}

/-- Taken first, in this order: each yields its value in every world of the class. -/
def TakesL (P : Program) (ops : Array Oper) (S : World → Prop) : List Nat → Act → (Act → Prop) → Prop
  | [], a, K => K a
  | i :: r, a, K => ∃ (o : Oper) (v : Value), ops[i]? = some o ∧ YieldsIf P ops S o v a ∧ TakesL P ops S r (a.put o.dst v) K

/-- Carried out, in this order; behind each the world is one of the class. -/
def TailL (P : Program) (ops : Array Oper) (Q : Exit → Act → World → Prop) (S : World → Prop) : List Nat → Act → World → Prop
  | [], a, w => Q .normal a w
  | i :: r, a, w => wpOp P ops Q i (fun a' w' => S w' ∧ TailL P ops Q S r a' w') a w

/-- The others come up in this one order. -/
def tailB (ops : Array Oper) : List Nat → Array Bool → Bool
  | [], listed => (Region.ready .any ops listed).isEmpty
  | i :: r, listed => Region.ready .any ops listed == [i] && tailB ops r (listed.setIfInBounds i true)

/-- The first ones may be taken first, in this order. -/
def takesB (ops : Array Oper) (F : List Nat) : List Nat → Array Bool → Bool
  | [], listed => tailB ops F listed
  | i :: r, listed => Region.free .any ops listed i && (Region.ready .any ops listed).contains i && takesB ops F r (listed.setIfInBounds i true)

theorem tail_sound : ∀ (F : List Nat) (listed : Array Bool) (a : Act) (w : World), tailB ops F listed = true → TailL P ops Q S F a w → wpAnyH P .any ops Q S F.length listed a w
  | [], listed, a, w, hb, h => by
    refine wpAnyH_done ?_ h 0
    simpa [tailB] using hb
  | i :: r, listed, a, w, hb, h => by
    simp only [tailB, Bool.and_eq_true, beq_iff_eq] at hb
    refine wpAnyH_all hb.1 (by simp) ?_
    intro j hj
    obtain rfl : j = i := by simpa using hj
    exact wpOp_mono (fun a' w' h' => ⟨h'.1, tail_sound r _ a' w' hb.2 h'.2⟩) h

theorem takes_sound (hs : Region.noSelect ops = true) (hQ : ∀ (c : List PanicEntry) (a a' : Act) (w : World), Q (.panic c) a' w → Q (.panic c) a w) (F : List Nat) :
    ∀ (T : List Nat) (listed : Array Bool) (a : Act) (w : World), takesB ops F T listed = true → S w → TakesL P ops S T a (fun a' => TailL P ops Q S F a' w) → wpAnyH P .any ops Q S (T.length + F.length) listed a w
  | [], listed, a, w, hb, _, h => by
    rw [List.length_nil, Nat.zero_add]
    exact tail_sound F listed a w hb h
  | i :: r, listed, a, w, hb, hS, h => by
    simp only [takesB, Bool.and_eq_true] at hb
    obtain ⟨o, v, ho, hy, h⟩ := h
    rw [List.length_cons, Nat.add_right_comm]
    exact wpAnyH_take ho hs hb.1.1 hb.1.2 (fun c a w h => hQ c _ _ w h) hy hS (takes_sound hs hQ F r _ _ w hb.2 hS h)

/-- **The region**: those of 'T' first, those of 'F' then. (It must be shown not to panic.) -/
theorem wp_region_TF {id : Nat} {a : Act} {w : World} (T F : List Nat) (hm : P.follows .mixedOrders = true) (hs : Region.noSelect ops = true) (hn : (T.length + F.length == ops.size) = true)
    (hb : takesB ops F T (Array.replicate ops.size false) = true) (hS : S w.drew) (h : TakesL P ops S T a (fun a' => TailL P ops (NoPanic Q) S F a' w.drew)) : (Code.region id ops true).wp P Q a w := by
  refine wp_region_noPanic ?_
  refine wp_region_held_drew hm hS fun _ => ?_
  have h1 := takes_sound hs (Q := NoPanic Q) (fun _ _ _ _ h => h) F T _ a w.drew hb hS h
  rw [beq_iff_eq.1 hn] at h1
  exact h1

/-- The operations of these numbers, written out. -/
def pickO (l : List Oper) : List Nat → List Oper
  | [] => []
  | i :: r => match l.drop i with
    | o :: _ => o :: pickO l r
    | [] => pickO l r

/-- As 'TakesL', over the operations written out. -/
def TakesO (P : Program) (ops : Array Oper) (S : World → Prop) : List Oper → Act → (Act → Prop) → Prop
  | [], a, K => K a
  | o :: r, a, K => ∃ v : Value, YieldsIf P ops S o v a ∧ TakesO P ops S r (a.put o.dst v) K

/-- As 'TailL', over the operations written out. -/
def TailO (P : Program) (ops : Array Oper) (Q : Exit → Act → World → Prop) (S : World → Prop) : List Oper → Act → World → Prop
  | [], a, w => Q .normal a w
  | o :: r, a, w => if Region.wanted o (yielded ops a.tmps) then o.wp P a w (fun a' w' => S w' ∧ TailO P ops Q S r a' w') Q ∨ (o.asks P a w ∧ LetsOut Q) else S w ∧ TailO P ops Q S r (a.put o.dst undef) w

theorem drop_head {l : List Oper} {i : Nat} {o : Oper} {t : List Oper} (h : l.drop i = o :: t) : l.toArray[i]? = some o := by
  have : (l.drop i)[0]? = some o := by rw [h]; rfl
  simpa using this

theorem TakesO.sound {l : List Oper} : ∀ (T : List Nat) (a : Act) (K : Act → Prop), (T.all fun i => decide (i < l.length)) = true → TakesO P l.toArray S (pickO l T) a K → TakesL P l.toArray S T a K
  | [], _, _, _, h => h
  | i :: r, a, K, hi, h => by
    simp only [List.all_cons, Bool.and_eq_true, decide_eq_true_eq] at hi
    unfold pickO at h
    split at h
    · rename_i o t hd
      obtain ⟨v, hy, h⟩ := h
      exact ⟨o, v, drop_head hd, hy, TakesO.sound r _ K hi.2 h⟩
    · rename_i hd
      have := congrArg List.length hd
      simp at this
      omega

theorem TailO.sound {l : List Oper} : ∀ (F : List Nat) (a : Act) (w : World), (F.all fun i => decide (i < l.length)) = true → TailO P l.toArray Q S (pickO l F) a w → TailL P l.toArray Q S F a w
  | [], _, _, _, h => h
  | i :: r, a, w, hi, h => by
    simp only [List.all_cons, Bool.and_eq_true, decide_eq_true_eq] at hi
    unfold pickO at h
    split at h
    · rename_i o t hd
      unfold TailL wpOp
      rw [drop_head hd]
      unfold TailO at h
      simp only
      split at h
      · rename_i hw
        rw [if_pos hw]
        exact h.imp (fun h => Oper.wp_mono (fun a' w' h' => ⟨h'.1, TailO.sound r a' w' hi.2 h'.2⟩) h) id
      · rename_i hw
        rw [if_neg hw]
        exact ⟨h.1, TailO.sound r _ w hi.2 h.2⟩
    · rename_i hd
      have := congrArg List.length hd
      simp at this
      omega

/-- **The region**: those of 'T' first, those of 'F' then. (It must be shown not to panic.) -/
theorem wp_region_TFO {l : List Oper} {id : Nat} {a : Act} {w : World} (T F : List Nat) (hm : P.follows .mixedOrders = true) (hs : Region.noSelect l.toArray = true) (hn : (T.length + F.length == l.toArray.size) = true)
    (hb : takesB l.toArray F T (Array.replicate l.toArray.size false) = true) (hT : (T.all fun i => decide (i < l.length)) = true) (hF : (F.all fun i => decide (i < l.length)) = true) (hS : S w.drew)
    (h : TakesO P l.toArray S (pickO l T) a (fun a' => TailO P l.toArray (NoPanic Q) S (pickO l F) a' w.drew)) : (Code.region id l.toArray true).wp P Q a w := by
  refine wp_region_TF T F hm hs hn hb hS (TakesO.sound T a _ hT ?_)
  have key : ∀ (L : List Oper) (a : Act) (K K' : Act → Prop), (∀ a, K a → K' a) → TakesO P l.toArray S L a K → TakesO P l.toArray S L a K' := by
    intro L
    induction L with
    | nil => intro a K K' hk h; exact hk _ h
    | cons o r ih => intro a K K' hk h; obtain ⟨v, hy, h⟩ := h; exact ⟨v, hy, ih _ _ _ hk h⟩
  exact key _ _ _ _ (fun a' h' => TailO.sound F a' _ hF h') h

theorem TakesO.cons {o : Oper} {r : List Oper} {a : Act} {K : Act → Prop} {v : Value} (hw : Region.wanted o (yielded ops a.tmps) = true)
    (hy : ∀ w, S w → (execOp a.eval o).run P w = .ok (.value v) w) (h : TakesO P ops S r (a.put o.dst v) K) : TakesO P ops S (o :: r) a K :=
  ⟨v, .inl ⟨hw, hy⟩, h⟩

theorem TakesO.nil {a : Act} {K : Act → Prop} (h : K a) : TakesO P ops S [] a K := h

theorem TakesO.skip {o : Oper} {r : List Oper} {a : Act} {K : Act → Prop} (hw : Region.wanted o (yielded ops a.tmps) = false)
    (h : TakesO P ops S r (a.put o.dst undef) K) : TakesO P ops S (o :: r) a K :=
  ⟨undef, .inr ⟨hw, rfl⟩, h⟩

theorem TailO.cons {o : Oper} {r : List Oper} {a : Act} {w : World}
    (h : ∀ K : Act → World → Prop, Shut (∀ a w, S w → TailO P ops Q S r a w → K a w) → if Region.wanted o (yielded ops a.tmps) = true then Oper.wp P o a w K Q else K (a.put o.dst undef) w) : TailO P ops Q S (o :: r) a w := by
  have := h (fun a w => S w ∧ TailO P ops Q S r a w) (fun a w hS hT => ⟨hS, hT⟩)
  unfold TailO
  split
  · rename_i hw; rw [if_pos hw] at this; exact .inl this
  · rename_i hw; rw [if_neg hw] at this; exact this

theorem TailO.nil {a : Act} {w : World} (h : Q .normal a w) : TailO P ops Q S [] a w := h

/-! ### A plan: some operations are taken first, others are carried out where nothing else can come up; behind each of these the world has grown. -/

/-- The worlds that have grown out of 'w': what was there is there as it was. -/
def Ext (w w' : World) : Prop := Below w.heap.size w w'

theorem Ext.refl (w : World) : Ext w w := Below.refl _ _
theorem Ext.trans {a b c : World} (h : Ext a b) (k : Ext b c) : Ext a c := Below.trans h (Below.mono k (Below.size h))

/-- A cell that is there is there in every world that has grown out of this one. -/
theorem Ext.at_ {w w' : World} (h : Ext w w') {b o : Nat} {v : Value} (hc : w.cell? ⟨b, o, none⟩ = some v) : w'.cell? ⟨b, o, none⟩ = some v :=
  (Below.cell (p := ⟨b, o, none⟩) h (World.block_lt_of_cell? w _ hc)).trans hc

/-- The plan, from the world 'w' on; blocks below 'B' stay as they are. -/
def PlanO (P : Program) (ops : Array Oper) (Q : Exit → Act → World → Prop) : Nat → List (Bool × Oper) → Act → World → Prop
  | _, [], a, w => Q .normal a w
  | B, (true, o) :: r, a, w => ∃ v : Value, YieldsIf P ops (Below B w) o v a ∧ PlanO P ops Q B r (a.put o.dst v) w
  | B, (false, o) :: r, a, w => if Region.wanted o (yielded ops a.tmps) then o.wp P a w (fun a' w' => ∃ B', B ≤ B' ∧ Below B w w' ∧ PlanO P ops Q B' r a' w') Q ∨ (o.asks P a w ∧ LetsOut Q) else PlanO P ops Q B r (a.put o.dst undef) w

/-- May it go so? -/
def planB (ops : Array Oper) : List (Bool × Nat) → Array Bool → Bool
  | [], listed => (Region.ready .any ops listed).isEmpty
  | (true, i) :: r, listed => Region.free .any ops listed i && (Region.ready .any ops listed).contains i && planB ops r (listed.setIfInBounds i true)
  | (false, i) :: r, listed => Region.ready .any ops listed == [i] && planB ops r (listed.setIfInBounds i true)

def planO (l : List Oper) : List (Bool × Nat) → List (Bool × Oper)
  | [] => []
  | (b, i) :: r => match l.drop i with
    | o :: _ => (b, o) :: planO l r
    | [] => planO l r

theorem wpAnyH_mono {S S' : World → Prop} (hS : ∀ w, S w → S' w) : ∀ (fuel : Nat) (listed : Array Bool) (a : Act) (w : World), wpAnyH P .any ops Q S fuel listed a w → wpAnyH P .any ops Q S' fuel listed a w
  | 0, _, _, _, h => h
  | fuel + 1, _, _, _, h => ⟨h.1, fun i hi => wpOp_mono (fun a' w' h' => ⟨hS _ h'.1, wpAnyH_mono hS fuel _ a' w' h'.2⟩) (h.2 i hi)⟩

theorem plan_sound {l : List Oper} (hs : Region.noSelect l.toArray = true) (hQ : ∀ (c : List PanicEntry) (a a' : Act) (w : World), Q (.panic c) a' w → Q (.panic c) a w) :
    ∀ (p : List (Bool × Nat)) (listed : Array Bool) (B : Nat) (a : Act) (w : World), (p.all fun x => decide (x.2 < l.length)) = true → planB l.toArray p listed = true → PlanO P l.toArray Q B (planO l p) a w → wpAnyH P .any l.toArray Q (Below B w) p.length listed a w
  | [], listed, B, a, w, _, hb, h => by
    refine wpAnyH_done ?_ h 0
    simpa [planB] using hb
  | (true, i) :: r, listed, B, a, w, hi, hb, h => by
    simp only [List.all_cons, Bool.and_eq_true, decide_eq_true_eq] at hi
    simp only [planB, Bool.and_eq_true] at hb
    unfold planO at h
    split at h
    · rename_i o t hd
      obtain ⟨v, hy, h⟩ := h
      exact wpAnyH_take (drop_head hd) hs hb.1.1 hb.1.2 (fun c a w h => hQ c _ _ w h) hy (Below.refl _ w) (plan_sound hs hQ r _ _ _ w hi.2 hb.2 h)
    · rename_i hd
      have := congrArg List.length hd
      simp at this
      omega
  | (false, i) :: r, listed, B, a, w, hi, hb, h => by
    simp only [List.all_cons, Bool.and_eq_true, decide_eq_true_eq] at hi
    simp only [planB, Bool.and_eq_true, beq_iff_eq] at hb
    unfold planO at h
    split at h
    · rename_i o t hd
      unfold PlanO at h
      refine wpAnyH_all hb.1 (by simp) ?_
      intro j hj
      obtain rfl : j = i := by simpa using hj
      unfold wpOp
      rw [drop_head hd]
      simp only
      split at h
      · rename_i hw
        rw [if_pos hw]
        exact h.imp (fun h => Oper.wp_mono (fun a' w' ⟨B', hle, hbel, hp⟩ => ⟨hbel, wpAnyH_mono (fun _ he => hbel.trans (he.mono hle)) _ _ _ _ (plan_sound hs hQ r _ B' a' w' hi.2 hb.2 hp)⟩) h) id
      · rename_i hw
        rw [if_neg hw]
        exact ⟨Below.refl _ w, plan_sound hs hQ r _ _ _ w hi.2 hb.2 h⟩
    · rename_i hd
      have := congrArg List.length hd
      simp at this
      omega

/-- **The region**, by a plan. (It must be shown not to panic.) -/
theorem wp_region_plan {l : List Oper} {id : Nat} {a : Act} {w : World} (p : List (Bool × Nat)) (hm : P.follows .mixedOrders = true) (hs : Region.noSelect l.toArray = true) (hn : (p.length == l.toArray.size) = true)
    (hi : (p.all fun x => decide (x.2 < l.length)) = true) (hb : planB l.toArray p (Array.replicate l.toArray.size false) = true)
    (h : PlanO P l.toArray (NoPanic Q) w.drew.heap.size (planO l p) a w.drew) : (Code.region id l.toArray true).wp P Q a w := by
  refine wp_region_noPanic ?_
  refine wp_region_held_drew (S := Below w.drew.heap.size w.drew) hm (Below.refl _ _) fun _ => ?_
  have h1 := plan_sound hs (Q := NoPanic Q) (fun _ _ _ _ h => h) p _ _ a w.drew hi hb h
  rw [beq_iff_eq.1 hn] at h1
  exact h1

/-- .. of which what lies below a bound stays as it is (the call's own memory may be written). -/
theorem wp_region_planB {l : List Oper} {id : Nat} {a : Act} {w : World} (B : Nat) (p : List (Bool × Nat)) (hm : P.follows .mixedOrders = true) (hs : Region.noSelect l.toArray = true) (hn : (p.length == l.toArray.size) = true)
    (hi : (p.all fun x => decide (x.2 < l.length)) = true) (hb : planB l.toArray p (Array.replicate l.toArray.size false) = true)
    (h : PlanO P l.toArray (NoPanic Q) B (planO l p) a w.drew) : (Code.region id l.toArray true).wp P Q a w := by
  refine wp_region_noPanic ?_
  refine wp_region_held_drew (S := Below B w.drew) hm (Below.refl _ _) fun _ => ?_
  have h1 := plan_sound hs (Q := NoPanic Q) (fun _ _ _ _ h => h) p _ _ a w.drew hi hb h
  rw [beq_iff_eq.1 hn] at h1
  exact h1

theorem PlanO.take {B : Nat} {o : Oper} {r : List (Bool × Oper)} {a : Act} {w : World} {v : Value} (hw : Region.wanted o (yielded ops a.tmps) = true)
    (hy : ∀ w', Below B w w' → (execOp a.eval o).run P w' = .ok (.value v) w') (h : PlanO P ops Q B r (a.put o.dst v) w) : PlanO P ops Q B ((true, o) :: r) a w :=
  ⟨v, .inl ⟨hw, hy⟩, h⟩

theorem PlanO.skip {B : Nat} {b : Bool} {o : Oper} {r : List (Bool × Oper)} {a : Act} {w : World} (hw : Region.wanted o (yielded ops a.tmps) = false)
    (h : PlanO P ops Q B r (a.put o.dst undef) w) : PlanO P ops Q B ((b, o) :: r) a w := by
  cases b with
  | true => exact ⟨undef, .inr ⟨hw, rfl⟩, h⟩
  | false => unfold PlanO; rw [if_neg (by rw [hw]; simp)]; exact h

/-- Carried out; from there on all that there is then stays as it is. -/
theorem PlanO.exec {o : Oper} {r : List (Bool × Oper)} {a : Act} {w : World}
    (h : ∀ K : Act → World → Prop, Shut (∀ a w', Ext w w' → PlanO P ops Q w'.heap.size r a w' → K a w') → if Region.wanted o (yielded ops a.tmps) = true then Oper.wp P o a w K Q else K (a.put o.dst undef) w) : PlanO P ops Q w.heap.size ((false, o) :: r) a w := by
  unfold PlanO
  split
  · rename_i hw
    have := h (fun a' w' => ∃ B', w.heap.size ≤ B' ∧ Below w.heap.size w w' ∧ PlanO P ops Q B' r a' w') (fun a w' hS hT => ⟨_, Below.size hS, hS, hT⟩)
    rw [if_pos hw] at this
    exact .inl this
  · rename_i hw
    have := h (fun a' w' => PlanO P ops Q w'.heap.size r a' w') (fun a w' _ hT => hT)
    rw [if_neg hw] at this
    exact this

/-- Carried out; from there on still just the blocks below 'B' stay as they are. -/
theorem PlanO.keep {B : Nat} {o : Oper} {r : List (Bool × Oper)} {a : Act} {w : World}
    (h : ∀ K : Act → World → Prop, Shut (∀ a w', Below B w w' → PlanO P ops Q B r a w' → K a w') → if Region.wanted o (yielded ops a.tmps) = true then Oper.wp P o a w K Q else K (a.put o.dst undef) w) : PlanO P ops Q B ((false, o) :: r) a w := by
  unfold PlanO
  split
  · rename_i hw
    have := h (fun a' w' => ∃ B', B ≤ B' ∧ Below B w w' ∧ PlanO P ops Q B' r a' w') (fun a w' hS hT => ⟨_, Nat.le_refl _, hS, hT⟩)
    rw [if_pos hw] at this
    exact .inl this
  · rename_i hw
    have := h (fun a' w' => PlanO P ops Q B r a' w') (fun a w' _ hT => hT)
    rw [if_neg hw] at this
    exact this

/-- Carried out; from there on all that there is then stays as it is. -/
theorem PlanO.lift {B : Nat} {o : Oper} {r : List (Bool × Oper)} {a : Act} {w : World}
    (h : ∀ K : Act → World → Prop, Shut (∀ a w', Below B w w' → B ≤ w'.heap.size → PlanO P ops Q w'.heap.size r a w' → K a w') → Region.wanted o (yielded ops a.tmps) = true ∧ Oper.wp P o a w K Q) : PlanO P ops Q B ((false, o) :: r) a w := by
  unfold PlanO
  have := h (fun a' w' => ∃ B', B ≤ B' ∧ Below B w w' ∧ PlanO P ops Q B' r a' w') (fun a w' hS hle hT => ⟨_, hle, hS, hT⟩)
  rw [if_pos this.1]
  exact .inl this.2

/-- What an operation under a guard leaves: nothing, where the guard says so. -/
def gv (c : Bool) (v : Value) : Value := bif c then v else undef

theorem gv_true (v : Value) : gv true v = v := rfl
theorem gv_false (v : Value) : gv false v = undef := rfl

theorem PlanO.takeIf {B : Nat} {o : Oper} {r : List (Bool × Oper)} {a : Act} {w : World} {v : Value} (c : Bool) (hw : Region.wanted o (yielded ops a.tmps) = c)
    (hy : c = true → ∀ w', Below B w w' → (execOp a.eval o).run P w' = .ok (.value v) w') (h : PlanO P ops Q B r (a.put o.dst (gv c v)) w) : PlanO P ops Q B ((true, o) :: r) a w := by
  refine ⟨gv c v, ?_, h⟩
  cases c with
  | true => exact .inl ⟨hw, hy rfl⟩
  | false => exact .inr ⟨hw, rfl⟩

theorem PlanO.done {B : Nat} {a : Act} {w : World} (h : Q .normal a w) : PlanO P ops Q B [] a w := h

/-! ### A region in the order of the text, operation by operation, with guards that are not known. -/

theorem wpList_take {o : Oper} {rest : List Oper} {a : Act} {w : World} {v : Value} (hw : Region.wanted o (yielded ops a.tmps) = true)
    (hy : (execOp a.eval o).run P w = .ok (.value v) w) (h : wpList P ops Q rest (a.put o.dst v) w) : wpList P ops Q (o :: rest) a w := by
  unfold wpList
  rw [if_pos hw]
  left
  unfold Oper.wp
  rw [hy]
  exact h

theorem wpList_skip {o : Oper} {rest : List Oper} {a : Act} {w : World} (hw : Region.wanted o (yielded ops a.tmps) = false) (h : wpList P ops Q rest (a.put o.dst undef) w) : wpList P ops Q (o :: rest) a w := by
  unfold wpList
  rw [if_neg (by rw [hw]; simp)]
  exact h

theorem wpList_exec {o : Oper} {rest : List Oper} {a : Act} {w : World}
    (h : ∀ K : Act → World → Prop, Shut (∀ a w, wpList P ops Q rest a w → K a w) → if Region.wanted o (yielded ops a.tmps) = true then o.wp P a w K Q else K (a.put o.dst undef) w) : wpList P ops Q (o :: rest) a w :=
  wpList_step fun K hK => h K hK

theorem wpList_takeIf {o : Oper} {rest : List Oper} {a : Act} {w : World} {v : Value} (c : Bool) (hw : Region.wanted o (yielded ops a.tmps) = c)
    (hy : c = true → (execOp a.eval o).run P w = .ok (.value v) w) (h : wpList P ops Q rest (a.put o.dst (gv c v)) w) : wpList P ops Q (o :: rest) a w := by
  cases c with
  | true => exact wpList_take hw (hy rfl) h
  | false => exact wpList_skip hw h
end
end Go.Proofs.Ytfeogoihkpclcaa
