/-
  Words that the other texts share: a list of bytes as Go's cells; a slice of bytes that the call itself made; a slice of bytes that can be read. Plain facts, over any program.
-/
import Derived.WalkKit
import Derived.Lib.Hide
namespace Go.Proofs.Ytemlonbcdaboeaa
open Go.RowKit

/-- A byte as the model's value. -/
abbrev bv (c : UInt8) : Value := .int .u8 (c.toNat : Int)

theorem byte_le (c : UInt8) : (c.toNat : Int) ≤ 255 := by have := c.toNat_lt; omega

theorem bv_oneCell (l : List UInt8) : ∀ u ∈ l.map bv, u.oneCell' = true := by
  intro u hu
  obtain ⟨c, _, rfl⟩ := List.mem_map.1 hu
  rfl

/-- The slice 'v' of bytes 'l' lies in memory of the call's own, from block 'B' on ('e': the number of type uint8). -/
def OwnB (w : World) (B e : Nat) (v : Value) (l : List UInt8) : Prop := w.ownsRow B e 1 v l.length (l.map bv)

theorem OwnB.nil (w : World) (B e : Nat) : OwnB w B e (.slice none 0 0) [] := World.ownsRow_nil _ _ _ _

/-- The slice 'v' reads as the bytes 'l' in world 'w'. -/
def RdB (w : World) (v : Value) (l : List UInt8) : Prop :=
  ∃ a cap, v = .slice a l.length cap ∧ l.length ≤ cap ∧ cap ≤ maxLen ∧
    (l = [] ∨ ∃ b off, a = some ⟨b, off, none⟩ ∧ b < w.heap.size ∧ ∀ i, i < l.length → w.cell? ⟨b, off + i, none⟩ = some (bv (l.getD i 0)))

theorem RdB.below {w w' : World} {v : Value} {l : List UInt8} (h : RdB w v l) {B : Nat} (hb : Below B w w') (hB : w.heap.size ≤ B) : RdB w' v l := by
  obtain ⟨a, cap, rfl, h1, h2, h3⟩ := h
  refine ⟨a, cap, rfl, h1, h2, ?_⟩
  rcases h3 with h3 | ⟨b, off, rfl, h4, h5⟩
  · exact .inl h3
  · exact .inr ⟨b, off, rfl, by have := hb.size; omega, fun i hi => (hb.cell (p := ⟨b, off + i, none⟩) (show b < B by omega)).trans (h5 i hi)⟩

theorem OwnB.read {w : World} {B e : Nat} {v : Value} {l : List UInt8} (h : OwnB w B e v l) : RdB w v l := by
  obtain ⟨h0, h1⟩ := h
  rcases h1 with ⟨rfl, hn⟩ | ⟨g, cap, cur, rfl, _, hg, hn, hm, hs, htake⟩
  · have : l = [] := List.eq_nil_of_length_eq_zero hn
    subst this
    exact ⟨none, 0, rfl, Nat.le_refl _, Nat.zero_le _, .inl rfl⟩
  · refine ⟨_, cap, rfl, hn, hm, .inr ⟨g, 0, rfl, (Array.getElem?_eq_some_iff.1 hg).1, fun i hi => ?_⟩⟩
    rw [Nat.zero_add, cell_of_row w g i cur e (0, 0) hg]
    have : (cur.toList.take (l.length * 1))[i]? = (l.map bv)[i]? := by rw [htake]
    rw [List.getElem?_take, if_pos (by omega)] at this
    simpa [List.getD, hi] using this

/-- What is owned stays so while only older memory, or none, is touched. -/
theorem OwnB.below {w w' : World} {B e : Nat} {v : Value} {l : List UInt8} (h : OwnB w B e v l) {B' : Nat} (hb : Below B' w w') (hB : w.heap.size ≤ B') : OwnB w' B e v l := by
  refine ⟨h.1, ?_⟩
  rcases h.2 with h2 | ⟨g, cap, cur, rfl, h3, hg, r⟩
  · exact .inl h2
  · have := (Array.getElem?_eq_some_iff.1 hg).1
    exact .inr ⟨g, cap, cur, rfl, h3, by rw [hb.block g (by omega)]; exact hg, r⟩

/-- 'append(s, c)' of one byte onto a slice of the call's own. -/
theorem wpList_append_byte {P : Program} {ops : Array Oper} {rest : List Oper} {o : Oper} {a : Act} {Q : Exit → Act → World → Prop}
    (hg : o.guard = none) (s x : Operand) (t : TypeId) (hop : o.op = Op.call { callee := Callee.builtin Builtin.append, args := #[s, x], argTypes := #[t, t] })
    (B e : Nat) (h1 : P.underlying t = some (.slice e)) (h2 : (P.info? e).map (fun i => (i.zero, i.size, i.bytes)) = some (some (.int .u8 0), 1, 1))
    (v : Value) (l : List UInt8) (c : UInt8) (n : Int) (w : World) (hs : a.eval s = v) (hx : a.eval x = .slice (some ⟨w.heap.size, 0, none⟩) 1 1) (hown : OwnB w B e v l) (hn : n = (c.toNat : Int))
    (hB : B ≤ w.heap.size) (hl : l.length < 140737488355328)
    (hK : ∀ v' w', OwnB w' B e v' (l ++ [c]) → (∀ B' u, B' ≤ B → Below B' u w → Below B' u w') → wpList P ops Q rest (a.put o.dst v') w') :
    wpList P ops Q (o :: rest) a (w.alloc (.cells #[.int .u8 n] e)) := by
  subst hn
  obtain ⟨i0, hi, hz0, hz1, hz2⟩ := info_parts h2
  refine wpList_append_own _ hg s x t hop B e i0 (.int .u8 0) 1 1 h1 hi hz0 hz1 hz2 rfl (by decide) v l.length (l.map bv) hs (World.ownsRow.alloc hown _) ⟨w.heap.size, 0, none⟩ 1 1 [bv c] hx rfl ?_ ?_ ?_ ?_ ?_ ?_
  · intro j u hj
    match j, hj with
    | 0, hj => simp at hj; subst hj; simp [Addr.add]
  · intro u hu; simp at hu; subst hu; rfl
  · unfold maxLen; omega
  · omega
  · simp; omega
  · intro v' w' hown' hgrow _
    refine hK v' w' ?_ ?_
    · unfold OwnB
      simpa using hown'
    · intro B' u hB' hb
      refine ((hb.alloc (by omega) _).grown hgrow (by simp; omega) ?_)
      intro k hk
      have := (World.ownsRow.lt hown k hk).1
      omega

/-- A slice of bytes that is not empty: where it lies. -/
theorem RdB.cells {w : World} {v : Value} {l : List UInt8} (h : RdB w v l) (hne : l ≠ []) :
    ∃ b off cap, v = .slice (some ⟨b, off, none⟩) l.length cap ∧ l.length ≤ cap ∧ cap ≤ maxLen ∧ b < w.heap.size ∧ ∀ i, i < l.length → w.cell? ⟨b, off + i, none⟩ = some (bv (l.getD i 0)) := by
  obtain ⟨a, cap, rfl, h1, h2, h3 | ⟨b, off, rfl, h4, h5⟩⟩ := h
  · exact absurd h3 hne
  · exact ⟨b, off, cap, rfl, h1, h2, h4, h5⟩
end Go.Proofs.Ytemlonbcdaboeaa
