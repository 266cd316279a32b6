import Derived.Test.YtpbmacbogmnokaaMg01

/-
  A row of records that is put together, and where they end: what stands in the statements' loops.
-/
namespace Go.Proofs.Ytpbmacbogmnokaa
open Go.RowKit

theorem info_int9 : (Try.prog.info? 3).map (fun i => (i.zero, i.size, i.bytes)) = some (some (.int .i64 0), 1, 8) := by kernel_rfl

theorem rowB_take (bs : List Bat) (k : Nat) (h : k < bs.length) : rowB (bs.take (k + 1)) = rowB (bs.take k) ++ recB (bs.getD k default) := by
  rw [List.take_succ_eq_append_getElem h, rowB_snoc]
  simp [List.getD, List.getElem?_eq_getElem h]

theorem rowB_take_len (bs : List Bat) (k : Nat) : (rowB (bs.take k)).length ≤ 100008 * k := by
  have := rowB_len (bs.take k)
  have h2 : (bs.take k).length ≤ k := by rw [List.length_take]; omega
  have := Nat.mul_le_mul_left 100008 h2
  omega

/-- A row of bytes of the call's own. -/
structure RB (V w : World) (xb : Value) (r : List UInt8) : Prop where
  own : OwnB w V.heap.size 5 xb r
  be : Below V.heap.size V w

theorem RB.start (V w : World) (h : Below V.heap.size V w) : RB V w (.slice none 0 0) [] := ⟨OwnB.nil _ _ _, h⟩

theorem RB.call {V w w1 : World} {xb : Value} {r : List UInt8} (h : RB V w xb r) (hb : Below w.heap.size w w1) : RB V w1 xb r := ⟨OwnB.below h.own hb (Nat.le_refl _), h.be.trans (hb.mono h.be.size)⟩

theorem RB.put {V w w2 : World} {xb xb' : Value} {r r' : List UInt8} (h : RB V w xb r) (h2 : OwnB w2 0 5 xb' r') (m2 : Moves w w2 xb xb') : RB V w2 xb' r' := by
  refine ⟨own_base h2 fun j hj => ?_, h.be.grown m2.grown h.be.size fun j hj => (World.ownsRow.lt h.own j hj).1⟩
  rcases m2.at_ j hj with e | e
  · exact (World.ownsRow.lt h.own j e).1
  · have := h.be.size
    omega

/-- .. and a list of numbers beside it. -/
structure CB (V w : World) (xb ev : Value) (r : List UInt8) (n : Nat) (es : List Value) : Prop where
  own : OwnB w V.heap.size 5 xb r
  ends : w.ownsRow V.heap.size 3 1 ev n es
  ap : ∀ j, xb.ownBlock = some j → ev.ownBlock ≠ some j
  be : Below V.heap.size V w

theorem CB.start (V w : World) (h : Below V.heap.size V w) : CB V w (.slice none 0 0) (.slice none 0 0) [] 0 [] :=
  ⟨OwnB.nil _ _ _, World.ownsRow_nil _ _ _ _, (fun j h => by cases h), h⟩

theorem CB.mid {V w w1 w2 : World} {xb ev xb' : Value} {r r' : List UInt8} {n : Nat} {es : List Value} (h : CB V w xb ev r n es) (hb1 : Below w.heap.size w w1)
    (h2 : OwnB w2 0 5 xb' r') (m2 : Moves w1 w2 xb xb') : CB V w2 xb' ev r' n es := by
  have hx : ∀ j, xb'.ownBlock = some j → xb.ownBlock = some j ∨ w1.heap.size ≤ j := fun j hj => (m2.at_ j hj).imp id fun h => h.1
  have hw := hb1.size
  have hW := h.be.size
  refine ⟨own_base h2 fun j hj => ?_, ?_, fun j hj he => ?_, (h.be.trans (hb1.mono hW)).grown m2.grown (by omega) fun j hj => (World.ownsRow.lt h.own j hj).1⟩
  · rcases hx j hj with e | e
    · exact (World.ownsRow.lt h.own j e).1
    · omega
  · have e1 := own_kept h.ends (R := fun k => k < w.heap.size) (Kept.of hb1 fun _ h => h) fun j hj => own_lt h.ends j hj
    exact own_kept e1 (m2.kept (R := fun k => k < w1.heap.size ∧ xb.ownBlock ≠ some k) fun _ h => h) fun j hj => ⟨own_lt e1 j hj, fun e => h.ap j e hj⟩
  · rcases hx j hj with e | e
    · exact h.ap j e he
    · have := own_lt h.ends j he
      omega

theorem CB.put {V w2 w3 : World} {xb ev ev' : Value} {r : List UInt8} {n : Nat} {es es' : List Value} {o : Obj} (h : CB V w2 xb ev r n es)
    (h3 : w3.ownsRow 0 3 1 ev' (n + 1) es') (m3 : Moves (w2.alloc o) w3 ev ev') : CB V w3 xb ev' r (n + 1) es' := by
  have hal : Below w2.heap.size w2 (w2.alloc o) := (Below.refl _ _).alloc (Nat.le_refl _) _
  have hx : ∀ j, ev'.ownBlock = some j → ev.ownBlock = some j ∨ (w2.alloc o).heap.size ≤ j := fun j hj => (m3.at_ j hj).imp id fun h => h.1
  have hw := hal.size
  have hW := h.be.size
  refine ⟨?_, own_base h3 fun j hj => ?_, fun j hj he => ?_, (h.be.alloc hW _).grown m3.grown (by omega) fun j hj => (World.ownsRow.lt h.ends j hj).1⟩
  · have e1 := OwnB.below h.own hal (Nat.le_refl _)
    exact own_kept e1 (m3.kept (R := fun k => k < (w2.alloc o).heap.size ∧ ev.ownBlock ≠ some k) fun _ h => h) fun j hj => ⟨own_lt e1 j hj, fun e => h.ap j hj e⟩
  · rcases hx j hj with e | e
    · exact (World.ownsRow.lt h.ends j e).1
    · omega
  · rcases hx j he with e | e
    · exact h.ap j hj e
    · have := own_lt h.own j hj
      omega

/-- Where the records end. -/
def endB (bs : List Bat) (k : Nat) : List Value := (List.range k).map fun j => .int .i64 ((rowB (bs.take (j + 1))).length : Int)
theorem endB_succ (bs : List Bat) (k : Nat) : endB bs (k + 1) = endB bs k ++ [.int .i64 ((rowB (bs.take (k + 1))).length : Int)] := by simp [endB, List.range_succ]
theorem endB_at (bs : List Bat) (k j : Nat) (h : j < k) : (endB bs k)[j]? = some (.int .i64 ((rowB (bs.take (j + 1))).length : Int)) := by simp [endB, h]

theorem bats_take (xs : List BV) (k : Nat) : (xs.take k).map (·.1) = (xs.map (·.1)).take k := by rw [List.map_take]
theorem bats_from (xs : List BV) (k : Nat) : (xs.drop k).map (·.1) = (xs.map (·.1)).drop k := by rw [List.map_drop]
theorem bats_getD (xs : List BV) (k : Nat) : (xs.map (·.1)).getD k default = (xs.getD k BV.none_).1 := map_getD xs k

/-- One of a list of batches that were made: it may be. -/
theorem made_may {xs : List BV} {bs : List Bat} (h : xs.map (·.1) = bs) (hm : AllMay bs) {k : Nat} (hk : k < xs.length) : mayBt (xs.getD k BV.none_).1.s (xs.getD k BV.none_).1.ops = true := by
  subst h
  exact hm _ (List.mem_map.2 ⟨_, bvGet hk, rfl⟩)
end Go.Proofs.Ytpbmacbogmnokaa
