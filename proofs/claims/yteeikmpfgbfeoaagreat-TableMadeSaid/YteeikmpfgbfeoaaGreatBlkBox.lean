/-
  Two rows of bytes that are put together, and a box beside them.
-/
import Derived.Test.YteeikmpfgbfeoaaGreatOwnEnt
import Derived.Test.YteeikmpfgbfeoaaGreatMoves
namespace Go.Proofs.YteeikmpfgbfeoaaGreat
open Go.RowKit

/-- Two rows of bytes of the call's own, apart from one another. -/
structure BT (W : World) (B : Nat) (w : World) (xb xt : Value) (r t : List UInt8) : Prop where
  own : OwnB w B 5 xb r
  tail : OwnB w B 5 xt t
  ap : ∀ j, xb.ownBlock = some j → xt.ownBlock ≠ some j
  be : Below B W w
  bl : B ≤ w.heap.size

theorem BT.start {W w : World} {B : Nat} (hb : Below B W w) (hB : B ≤ w.heap.size) : BT W B w (.slice none 0 0) (.slice none 0 0) [] [] :=
  ⟨OwnB.nil _ _ _, OwnB.nil _ _ _, (fun _ h => by cases h), hb, hB⟩
section
variable {W w w' : World} {B : Nat} {xb xt v' : Value} {r t n : List UInt8}
theorem BT.call (h : BT W B w xb xt r t) (hb : Below w.heap.size w w') : BT W B w' xb xt r t :=
  ⟨h.own.below hb (Nat.le_refl _), h.tail.below hb (Nat.le_refl _), h.ap, h.be.trans (hb.mono h.bl), Nat.le_trans h.bl hb.size⟩
theorem BT.own0 (h : BT W B w xb xt r t) : w.ownsRow 0 5 1 xb r.length (r.map bv) := own_base h.own fun _ _ => Nat.zero_le _
theorem BT.tail0 (h : BT W B w xb xt r t) : w.ownsRow 0 5 1 xt t.length (t.map bv) := own_base h.tail fun _ _ => Nat.zero_le _

theorem own_moved (h : OwnB w B 5 xb r) (hB : B ≤ w.heap.size) (ho : w'.ownsRow 0 5 1 v' (r.length + n.length) (r.map bv ++ n.map bv)) (hm : Moves w w' xb v') : OwnB w' B 5 v' (r ++ n) := by
  have := own_base ho fun k hk => by
    rcases hm.at_ k hk with h1 | h1
    · exact (World.ownsRow.lt h k h1).1
    · exact Nat.le_trans hB h1.1
  unfold OwnB
  rw [List.length_append, List.map_append]
  exact this
theorem below_moved (h : OwnB w B 5 xb r) (hB : B ≤ w.heap.size) (hbe : Below B W w) (hm : Moves w w' xb v') : Below B W w' := by
  have hk := hm.kept (R := fun k => k < w.heap.size ∧ xb.ownBlock ≠ some k) fun k hk => hk
  exact Kept.below ((Kept.of hbe (R := fun k => k < B) fun _ h => h).trans (hk.mono fun k hk => ⟨Nat.lt_of_lt_of_le hk hB, fun e => by have := (World.ownsRow.lt h k e).1; omega⟩)) fun _ h => h
theorem own_beside {xt : Value} {t : List UInt8} (ht : OwnB w B 5 xt t) (ha : ∀ j, xt.ownBlock = some j → xb.ownBlock ≠ some j) (hm : Moves w w' xb v') : OwnB w' B 5 xt t :=
  own_kept ht (hm.kept (R := fun k => k < w.heap.size ∧ xb.ownBlock ≠ some k) fun _ h => h) fun j hj => ⟨own_lt ht j hj, ha j hj⟩

theorem BT.put (h : BT W B w xb xt r t) (ho : w'.ownsRow 0 5 1 v' (r.length + n.length) (r.map bv ++ n.map bv)) (hm : Moves w w' xb v') : BT W B w' v' xt (r ++ n) t where
  own := own_moved h.own h.bl ho hm
  tail := own_beside h.tail (fun j hj e => h.ap j e hj) hm
  ap j hj he := by
    rcases hm.at_ j hj with e | e
    · exact h.ap j e he
    · have := own_lt h.tail j he
      omega
  be := below_moved h.own h.bl h.be hm
  bl := Nat.le_trans h.bl hm.grown.size
theorem BT.more (h : BT W B w xb xt r t) (ho : w'.ownsRow 0 5 1 v' (t.length + n.length) (t.map bv ++ n.map bv)) (hm : Moves w w' xt v') : BT W B w' xb v' r (t ++ n) where
  own := own_beside h.own (fun j hj e => h.ap j hj e) hm
  tail := own_moved h.tail h.bl ho hm
  ap j hj he := by
    rcases hm.at_ j he with e | e
    · exact h.ap j hj e
    · have := own_lt h.own j hj
      omega
  be := below_moved h.tail h.bl h.be hm
  bl := Nat.le_trans h.bl hm.grown.size
end

/-- .. and a key in a box beside them. -/
structure BB (W : World) (B q : Nat) (u : ByteArray) (s k : Int) (w : World) (xb xt : Value) (r t : List UInt8) : Prop extends BT W B w xb xt r t where
  box : w.heap[q]? = some (.cells #[.string u, .int .i64 s, .int .i64 k] 37 (0, 0))
  nb : xb.ownBlock ≠ some q
  nt : xt.ownBlock ≠ some q
section
variable {W w w' : World} {B q : Nat} {u : ByteArray} {s k : Int} {xb xt v' : Value} {r t n : List UInt8}
theorem BB.c0 (h : BB W B q u s k w xb xt r t) : w.cell? ⟨q, 0, none⟩ = some (.string u) := blk_cell (i := 0) h.box
theorem BB.c1 (h : BB W B q u s k w xb xt r t) : w.cell? ⟨q, 1, none⟩ = some (.int .i64 s) := blk_cell (i := 1) h.box
theorem BB.c2 (h : BB W B q u s k w xb xt r t) : w.cell? ⟨q, 2, none⟩ = some (.int .i64 k) := blk_cell (i := 2) h.box
theorem BB.start (h : BT W B w xb xt r t) (u : ByteArray) (s k : Int) : BB W B w.heap.size u s k (w.alloc (.cells #[.string u, .int .i64 s, .int .i64 k] 37)) xb xt r t where
  toBT := h.call ((Below.refl _ _).alloc (Nat.le_refl _) _)
  box := heap_alloc_new w _
  nb e := by have := own_lt h.own _ e; omega
  nt e := by have := own_lt h.tail _ e; omega
theorem BB.call (h : BB W B q u s k w xb xt r t) (hb : Below w.heap.size w w') : BB W B q u s k w' xb xt r t where
  toBT := h.toBT.call hb
  box := (hb.block q (blk_lt h.box)).trans h.box
  nb := h.nb
  nt := h.nt
theorem BB.put (h : BB W B q u s k w xb xt r t) (ho : w'.ownsRow 0 5 1 v' (r.length + n.length) (r.map bv ++ n.map bv)) (hm : Moves w w' xb v') : BB W B q u s k w' v' xt (r ++ n) t where
  toBT := h.toBT.put ho hm
  box := (hm.grown.block q (blk_lt h.box) (fun e => h.nb e.symm)).trans h.box
  nb e := by
    rcases hm.at_ q e with e | e
    · exact h.nb e
    · have := blk_lt h.box
      omega
  nt := h.nt
theorem BB.more (h : BB W B q u s k w xb xt r t) (ho : w'.ownsRow 0 5 1 v' (t.length + n.length) (t.map bv ++ n.map bv)) (hm : Moves w w' xt v') : BB W B q u s k w' xb v' r (t ++ n) where
  toBT := h.toBT.more ho hm
  box := (hm.grown.block q (blk_lt h.box) (fun e => h.nt e.symm)).trans h.box
  nb := h.nb
  nt e := by
    rcases hm.at_ q e with e | e
    · exact h.nt e
    · have := blk_lt h.box
      omega
end
end Go.Proofs.YteeikmpfgbfeoaaGreat
