/-
  Bytes that are told while an operation lies in a box: each append leaves the box.
-/
import Derived.Test.YtmcdkdoickbnlaaBatchPut
import Derived.Test.YtmcdkdoickbnlaaMoves
namespace Go.Proofs.Ytmcdkdoickbnlaa
open Go.RowKit

/-- The bytes 'l' are told in 'v'; the operation 'o' lies in block 'q'; below 'B' all is as in 'w1'. -/
structure Told (w1 : World) (B q : Nat) (o : Ope) (w : World) (v : Value) (l : List UInt8) : Prop where
  own : OwnB w B 5 v l
  bel : Below B w1 w
  c0 : w.cell? ⟨q, 0, none⟩ = some (.int .i64 o.k)
  c1 : w.cell? ⟨q, 1, none⟩ = some (.string o.u)
  c2 : w.cell? ⟨q, 2, none⟩ = some (.string o.v)
  ql : q < w.heap.size
  bl : B ≤ w.heap.size
  ne : v.ownBlock ≠ some q

variable {w1 : World} {B q : Nat} {o : Ope} {w w' : World} {v v' : Value} {l r : List UInt8}

theorem Told.call (h : Told w1 B q o w v l) (hb : Below w.heap.size w w') : Told w1 B q o w' v l where
  own := h.own.below hb (Nat.le_refl _)
  bel := h.bel.trans (hb.mono h.bl)
  c0 := (hb.cell (p := ⟨q, 0, none⟩) h.ql).trans h.c0
  c1 := (hb.cell (p := ⟨q, 1, none⟩) h.ql).trans h.c1
  c2 := (hb.cell (p := ⟨q, 2, none⟩) h.ql).trans h.c2
  ql := Nat.lt_of_lt_of_le h.ql hb.size
  bl := Nat.le_trans h.bl hb.size
  ne := h.ne

theorem Told.append (h : Told w1 B q o w v l) (ho : w'.ownsRow 0 5 1 v' (l.length + r.length) (l.map bv ++ r.map bv)) (hm : Moves w w' v v') : Told w1 B q o w' v' (l ++ r) := by
  have hk := hm.kept (R := fun k => k < w.heap.size ∧ v.ownBlock ≠ some k) fun k hk => hk
  have hq : q < w.heap.size ∧ v.ownBlock ≠ some q := ⟨h.ql, h.ne⟩
  refine ⟨?_, ?_, (hk.cell (p := ⟨q, 0, none⟩) hq).trans h.c0, (hk.cell (p := ⟨q, 1, none⟩) hq).trans h.c1, (hk.cell (p := ⟨q, 2, none⟩) hq).trans h.c2, Nat.lt_of_lt_of_le h.ql hk.size, Nat.le_trans h.bl hk.size, fun e => ?_⟩
  · have := own_base ho fun k hk => by
      rcases hm.at_ k hk with h1 | h1
      · exact (World.ownsRow.lt h.own k h1).1
      · exact Nat.le_trans h.bl h1.1
    unfold OwnB
    rw [List.length_append, List.map_append]
    exact this
  · exact Kept.below ((Kept.of h.bel (R := fun k => k < B) fun _ h => h).trans (hk.mono fun k hk => ⟨Nat.lt_of_lt_of_le hk h.bl, fun e => by have := (World.ownsRow.lt h.own k e).1; omega⟩)) fun _ h => h
  · rcases hm.at_ q e with h1 | h1
    · exact h.ne h1
    · have := h.ql; omega

theorem Told.own0 (h : Told w1 B q o w v l) : w.ownsRow 0 5 1 v l.length (l.map bv) := own_mono h.own (Nat.zero_le _)

/-- Behind the box that was just made. -/
theorem Told.start (hu : OwnB w B 5 v l) (hb : Below B w1 w) (hB : B ≤ w.heap.size) (o : Ope) : Told w1 B w.heap.size o (w.alloc (.cells #[.int .i64 o.k, .string o.u, .string o.v] 45)) v l where
  own := World.ownsRow.alloc hu _
  bel := hb.alloc hB _
  c0 := by rw [cell_of_row _ w.heap.size 0 _ 45 (0, 0) (heap_alloc_new w _)]; rfl
  c1 := by rw [cell_of_row _ w.heap.size 1 _ 45 (0, 0) (heap_alloc_new w _)]; rfl
  c2 := by rw [cell_of_row _ w.heap.size 2 _ 45 (0, 0) (heap_alloc_new w _)]; rfl
  ql := by simp
  bl := by simp; omega
  ne := fun e => by have := (World.ownsRow.lt hu _ e).2; omega
end Go.Proofs.Ytmcdkdoickbnlaa
