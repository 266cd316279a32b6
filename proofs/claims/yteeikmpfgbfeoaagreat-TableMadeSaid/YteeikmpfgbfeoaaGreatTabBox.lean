/-
  Two rows of bytes that are put together, and a third one that is read.
-/
import Derived.Test.YteeikmpfgbfeoaaGreatBlkBox
namespace Go.Proofs.YteeikmpfgbfeoaaGreat
open Go.RowKit

structure BF (W : World) (B : Nat) (w : World) (xb xt xf : Value) (r t f : List UInt8) : Prop extends BT W B w xb xt r t where
  third : OwnB w B 5 xf f
  nb : ∀ j, xf.ownBlock = some j → xb.ownBlock ≠ some j
  nt : ∀ j, xf.ownBlock = some j → xt.ownBlock ≠ some j
section
variable {W w w' : World} {B : Nat} {xb xt xf v' : Value} {r t f n : List UInt8}
/-- What a call has just told lies apart from both. -/
theorem BF.start (h : BT W B w xb xt r t) (hb : Below w.heap.size w w') (hf : OwnB w' w.heap.size 5 xf f) : BF W B w' xb xt xf r t f where
  toBT := h.call hb
  third := own_base hf fun k hk => Nat.le_trans h.bl (World.ownsRow.lt hf k hk).1
  nb j hj he := by
    have h1 := (World.ownsRow.lt hf j hj).1
    have h2 := own_lt h.own j he
    omega
  nt j hj he := by
    have h1 := (World.ownsRow.lt hf j hj).1
    have h2 := own_lt h.tail j he
    omega
theorem BF.call (h : BF W B w xb xt xf r t f) (hb : Below w.heap.size w w') : BF W B w' xb xt xf r t f where
  toBT := h.toBT.call hb
  third := h.third.below hb (Nat.le_refl _)
  nb := h.nb
  nt := h.nt
theorem BF.put (h : BF W B w xb xt xf r t f) (ho : w'.ownsRow 0 5 1 v' (r.length + n.length) (r.map bv ++ n.map bv)) (hm : Moves w w' xb v') : BF W B w' v' xt xf (r ++ n) t f where
  toBT := h.toBT.put ho hm
  third := own_beside h.third h.nb hm
  nb j hj he := by
    rcases hm.at_ j he with e | e
    · exact h.nb j hj e
    · have := own_lt h.third j hj
      omega
  nt := h.nt
theorem BF.more (h : BF W B w xb xt xf r t f) (ho : w'.ownsRow 0 5 1 v' (t.length + n.length) (t.map bv ++ n.map bv)) (hm : Moves w w' xt v') : BF W B w' xb v' xf r (t ++ n) f where
  toBT := h.toBT.more ho hm
  third := own_beside h.third h.nt hm
  nb := h.nb
  nt j hj he := by
    rcases hm.at_ j he with e | e
    · exact h.nt j hj e
    · have := own_lt h.third j hj
      omega
end
end Go.Proofs.YteeikmpfgbfeoaaGreat
