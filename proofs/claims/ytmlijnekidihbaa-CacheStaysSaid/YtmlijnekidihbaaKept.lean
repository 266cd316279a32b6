/-
  Objects that a call writes into: what blocks stay as they are ('Kept'), what a call with a footprint leaves ('Touch'), and a region whose order is open, of which some calls write into an object.
-/
import Derived.Test.YtmlijnekidihbaaBase
import Derived.Test.YtmlijnekidihbaaRegion
namespace Go.Proofs.Ytmlijnekidihbaa
open Go.RowKit

/-- The blocks of 'R' are as they were; so are the streams; no block has gone. -/
structure Kept (R : Nat → Prop) (w w' : World) : Prop where
  os : w'.os = w.os
  tape : w'.tape = w.tape
  output : w'.output = w.output
  size : w.heap.size ≤ w'.heap.size
  block : ∀ k, R k → w'.heap[k]? = w.heap[k]?

section
variable {R R' : Nat → Prop} {a b c w w' : World}
theorem Kept.refl (R : Nat → Prop) (w : World) : Kept R w w := ⟨rfl, rfl, rfl, Nat.le_refl _, fun _ _ => rfl⟩
theorem Kept.trans (h : Kept R a b) (k : Kept R b c) : Kept R a c :=
  ⟨k.os.trans h.os, k.tape.trans h.tape, k.output.trans h.output, Nat.le_trans h.size k.size, fun i hi => (k.block i hi).trans (h.block i hi)⟩
theorem Kept.mono (h : Kept R w w') (hR : ∀ k, R' k → R k) : Kept R' w w' := ⟨h.os, h.tape, h.output, h.size, fun k hk => h.block k (hR k hk)⟩
theorem Kept.drew (h : Kept R a w) : Kept R a w.drew := ⟨h.os, h.tape, h.output, h.size, h.block⟩
theorem Kept.alloc (h : Kept R a w) (hR : ∀ k, R k → k < w.heap.size) (o : Obj) : Kept R a (w.alloc o) :=
  h.trans ⟨rfl, rfl, rfl, by simp, fun k hk => Below.heap_alloc _ _ _ (hR k hk)⟩
theorem Kept.setCell (h : Kept R a w) {p : Addr} (hp : ¬ R p.block) (u : Value) : Kept R a (w.setCell p u) :=
  h.trans ⟨rfl, rfl, rfl, by simp [World.setCell], fun k hk => Below.heap_setCell _ _ _ _ (fun e => hp (e ▸ hk))⟩
theorem Kept.grown {row : Option Nat} (h : Kept R a w) (hg : w.grownBy w' row) (hR : ∀ k, R k → k < w.heap.size) (hr : ∀ k, row = some k → ¬ R k) : Kept R a w' :=
  h.trans ⟨hg.os, hg.tape, hg.output, hg.size, fun k hk => hg.block k (hR k hk) (fun e => hr k e.symm hk)⟩
theorem Kept.below {B : Nat} (h : Kept R a w) (hR : ∀ k, k < B → R k) : Below B a w := ⟨h.os, h.tape, h.output, h.size, fun k hk => h.block k (hR k hk)⟩
theorem Kept.of {B : Nat} (h : Below B a w) (hR : ∀ k, R k → k < B) : Kept R a w := ⟨h.os, h.tape, h.output, h.size, fun k hk => h.block k (hR k hk)⟩
theorem Kept.cell (h : Kept R w w') {p : Addr} (hp : R p.block) : w'.cell? p = w.cell? p := World.cell?_of_block (w := w) (h.block p.block hp)
theorem Kept.frozen (h : Kept R w w') {p : Addr} (hp : R p.block) : w'.frozen? p = w.frozen? p := World.frozen?_of_block (w := w) (h.block p.block hp)
theorem Kept.at_ {q o : Nat} {v : Value} (h : Kept R w w') (hq : R q) (hc : w.cell? ⟨q, o, none⟩ = some v) : w'.cell? ⟨q, o, none⟩ = some v := (h.cell (p := ⟨q, o, none⟩) hq).trans hc
end

/-- What is no part of a footprint. -/
def Apart (F : Nat → Prop) (w : World) (k : Nat) : Prop := k < w.heap.size ∧ ¬ F k

/-- A call with the footprint 'F' was made: what is no part of it is as it was. -/
def Touch (F : Nat → Prop) (w w' : World) : Prop := Kept (Apart F w) w w'

/-- A footprint that has grown by new memory alone. -/
def Grows (F F' : Nat → Prop) (w w' : World) : Prop := ∀ k, F' k → F k ∨ (w.heap.size ≤ k ∧ k < w'.heap.size)

section
variable {F F' G : Nat → Prop} {a b c w w' : World}
theorem Grows.refl (F : Nat → Prop) (w w' : World) : Grows F F w w' := fun _ h => .inl h
theorem Grows.trans {F'' : Nat → Prop} (h : Grows F F' a b) (k : Grows F' F'' b c) (hab : a.heap.size ≤ b.heap.size) (hbc : b.heap.size ≤ c.heap.size) : Grows F F'' a c := by
  intro i hi
  rcases k i hi with h1 | h1
  · rcases h i h1 with h2 | h2
    · exact .inl h2
    · exact .inr (by omega)
  · exact .inr (by omega)
theorem Touch.refl (F : Nat → Prop) (w : World) : Touch F w w := Kept.refl _ _
theorem Touch.size (h : Touch F a b) : a.heap.size ≤ b.heap.size := Kept.size h
theorem Touch.trans (h : Touch F a b) (k : Touch F' b c) (hg : Grows F F' a b) : Touch F a c :=
  Kept.trans h (Kept.mono k fun i hi => ⟨Nat.lt_of_lt_of_le hi.1 (Kept.size h), fun hf => (hg i hf).elim hi.2 fun h1 => absurd hi.1 (by omega)⟩)
theorem Touch.of_below (h : Below a.heap.size a b) : Touch F a b := Kept.of h fun _ hk => hk.1
theorem Touch.below {B : Nat} (h : Touch F a b) (hF : ∀ k, F k → B ≤ k) (hB : B ≤ a.heap.size) : Below B a b := Kept.below h fun k hk => ⟨by omega, fun hf => by have := hF k hf; omega⟩
theorem Touch.mono (h : Touch F a b) (hF : ∀ k, F k → k < a.heap.size → F' k) : Touch F' a b := Kept.mono h fun k hk => ⟨hk.1, fun hf => hk.2 (hF k hf hk.1)⟩
/-- What another object has stays. -/
theorem Touch.kept (h : Touch F a b) (hG : ∀ k, G k → k < a.heap.size ∧ ¬ F k) : Kept G a b := Kept.mono h hG
end

/-! ### What can be read stays, too. -/

theorem Rd.kept {R : Nat → Prop} {w w' : World} {size n : Nat} {v : Value} {cs : List Value} (h : Rd w size v n cs) (hk : Kept R w w') (hR : ∀ k, v.ownBlock = some k → R k) : Rd w' size v n cs := by
  obtain ⟨a, cap, rfl, h1, h2, h0, h3⟩ := h
  refine ⟨a, cap, rfl, h1, h2, h0, ?_⟩
  rcases h3 with h3 | ⟨b, off, rfl, h4, h5⟩
  · exact .inl h3
  · exact .inr ⟨b, off, rfl, by have := hk.size; omega, fun j u hj => (hk.cell (p := ⟨b, off + j, none⟩) (hR b rfl)).trans (h5 j u hj)⟩

theorem RdB.kept {R : Nat → Prop} {w w' : World} {v : Value} {l : List UInt8} (h : RdB w v l) (hk : Kept R w w') (hR : ∀ k, v.ownBlock = some k → R k) : RdB w' v l := Rd.kept h hk hR

theorem own_kept {R : Nat → Prop} {w w' : World} {B e size n : Nat} {v : Value} {cs : List Value} (h : w.ownsRow B e size v n cs) (hk : Kept R w w') (hR : ∀ k, v.ownBlock = some k → R k) : w'.ownsRow B e size v n cs := by
  refine ⟨h.1, ?_⟩
  rcases h.2 with h2 | ⟨g, cap, cur, rfl, h3, hg, r⟩
  · exact .inl h2
  · exact .inr ⟨g, cap, cur, rfl, h3, by rw [hk.block g (hR g rfl)]; exact hg, r⟩

/-- The bound of what is owned may be any that its block is not below. -/
theorem own_base {w : World} {B B' e size n : Nat} {v : Value} {cs : List Value} (h : w.ownsRow B e size v n cs) (hB : ∀ k, v.ownBlock = some k → B' ≤ k) : w.ownsRow B' e size v n cs := by
  refine ⟨h.1, ?_⟩
  rcases h.2 with h2 | ⟨g, cap, cur, rfl, h3, hg, r⟩
  · exact .inl h2
  · exact .inr ⟨g, cap, cur, rfl, hB g rfl, hg, r⟩

/-! ### A region whose order is open, some of whose calls write into objects. -/
section
variable {P : Program} {ops : Array Oper} {Q : Exit → Act → World → Prop}

/-- The plan, from the world 'w' on; the blocks of 'R' stay as they are, till a call has grown it. -/
def PlanR (P : Program) (ops : Array Oper) (Q : Exit → Act → World → Prop) : (Nat → Prop) → List (Bool × Oper) → Act → World → Prop
  | _, [], a, w => Q .normal a w
  | R, (true, o) :: r, a, w => ∃ v : Value, YieldsIf P ops (Kept R w) o v a ∧ PlanR P ops Q R r (a.put o.dst v) w
  | R, (false, o) :: r, a, w => if Region.wanted o (yielded ops a.tmps) then o.wp P a w (fun a' w' => ∃ R', (∀ k, R k → R' k) ∧ Kept R w w' ∧ PlanR P ops Q R' r a' w') Q ∨ (o.asks P a w ∧ LetsOut Q) else PlanR P ops Q R r (a.put o.dst undef) w

theorem planR_sound {l : List Oper} (hs : Region.noSelect l.toArray = true) (hQ : ∀ (c : List PanicEntry) (a a' : Act) (w : World), Q (.panic c) a' w → Q (.panic c) a w) :
    ∀ (p : List (Bool × Nat)) (listed : Array Bool) (R : Nat → Prop) (a : Act) (w : World), (p.all fun x => decide (x.2 < l.length)) = true → planB l.toArray p listed = true → PlanR P l.toArray Q R (planO l p) a w → wpAnyH P .any l.toArray Q (Kept R w) p.length listed a w
  | [], listed, R, a, w, _, hb, h => by
    refine wpAnyH_done ?_ h 0
    simpa [planB] using hb
  | (true, i) :: r, listed, R, a, w, hi, hb, h => by
    simp only [List.all_cons, Bool.and_eq_true, decide_eq_true_eq] at hi
    simp only [planB, Bool.and_eq_true] at hb
    unfold planO at h
    split at h
    · rename_i o t hd
      obtain ⟨v, hy, h⟩ := h
      exact wpAnyH_take (drop_head hd) hs hb.1.1 hb.1.2 (fun c a w h => hQ c _ _ w h) hy (Kept.refl _ w) (planR_sound hs hQ r _ _ _ w hi.2 hb.2 h)
    · rename_i hd
      have := congrArg List.length hd
      simp at this
      omega
  | (false, i) :: r, listed, R, a, w, hi, hb, h => by
    simp only [List.all_cons, Bool.and_eq_true, decide_eq_true_eq] at hi
    simp only [planB, Bool.and_eq_true, beq_iff_eq] at hb
    unfold planO at h
    split at h
    · rename_i o t hd
      unfold PlanR at h
      refine wpAnyH_all hb.1 (by simp) ?_
      intro j hj
      obtain rfl : j = i := by simpa using hj
      unfold wpOp
      rw [drop_head hd]
      simp only
      split at h
      · rename_i hw
        rw [if_pos hw]
        exact h.imp (fun h => Oper.wp_mono (fun a' w' ⟨R', hle, hbel, hp⟩ => ⟨hbel, wpAnyH_mono (fun _ he => hbel.trans (he.mono hle)) _ _ _ _ (planR_sound hs hQ r _ R' a' w' hi.2 hb.2 hp)⟩) h) id
      · rename_i hw
        rw [if_neg hw]
        exact ⟨Kept.refl _ w, planR_sound hs hQ r _ _ _ w hi.2 hb.2 h⟩
    · rename_i hd
      have := congrArg List.length hd
      simp at this
      omega

/-- **The region**, by a plan. (It must be shown not to panic.) -/
theorem wp_region_planR {l : List Oper} {id : Nat} {a : Act} {w : World} (R : Nat → Prop) (p : List (Bool × Nat)) (hm : P.follows .mixedOrders = true) (hs : Region.noSelect l.toArray = true) (hn : (p.length == l.toArray.size) = true)
    (hi : (p.all fun x => decide (x.2 < l.length)) = true) (hb : planB l.toArray p (Array.replicate l.toArray.size false) = true)
    (h : PlanR P l.toArray (NoPanic Q) R (planO l p) a w.drew) : (Code.region id l.toArray true).wp P Q a w := by
  refine wp_region_noPanic ?_
  refine wp_region_held_drew (S := Kept R w.drew) hm (Kept.refl _ _) fun _ => ?_
  have h1 := planR_sound hs (Q := NoPanic Q) (fun _ _ _ _ h => h) p _ _ a w.drew hi hb h
  rw [beq_iff_eq.1 hn] at h1
  exact h1

theorem PlanR.take {R : Nat → Prop} {o : Oper} {r : List (Bool × Oper)} {a : Act} {w : World} {v : Value} (hw : Region.wanted o (yielded ops a.tmps) = true)
    (hy : ∀ w', Kept R w w' → (execOp a.eval o).run P w' = .ok (.value v) w') (h : PlanR P ops Q R r (a.put o.dst v) w) : PlanR P ops Q R ((true, o) :: r) a w :=
  ⟨v, .inl ⟨hw, hy⟩, h⟩

theorem PlanR.skip {R : Nat → Prop} {b : Bool} {o : Oper} {r : List (Bool × Oper)} {a : Act} {w : World} (hw : Region.wanted o (yielded ops a.tmps) = false)
    (h : PlanR P ops Q R r (a.put o.dst undef) w) : PlanR P ops Q R ((b, o) :: r) a w := by
  cases b with
  | true => exact ⟨undef, .inr ⟨hw, rfl⟩, h⟩
  | false => unfold PlanR; rw [if_neg (by rw [hw]; simp)]; exact h

/-- Carried out; from there on the blocks of 'R'' stay as they are. -/
theorem PlanR.exec {R : Nat → Prop} {o : Oper} {r : List (Bool × Oper)} {a : Act} {w : World}
    (h : ∀ K : Act → World → Prop, Shut (∀ a w' R', (∀ k, R k → R' k) → Kept R w w' → PlanR P ops Q R' r a w' → K a w') → Region.wanted o (yielded ops a.tmps) = true ∧ Oper.wp P o a w K Q) : PlanR P ops Q R ((false, o) :: r) a w := by
  unfold PlanR
  have := h (fun a' w' => ∃ R', (∀ k, R k → R' k) ∧ Kept R w w' ∧ PlanR P ops Q R' r a' w') (fun a w' R' hR hS hT => ⟨R', hR, hS, hT⟩)
  rw [if_pos this.1]
  exact .inl this.2

theorem PlanR.takeIf {R : Nat → Prop} {o : Oper} {r : List (Bool × Oper)} {a : Act} {w : World} {v : Value} (c : Bool) (hw : Region.wanted o (yielded ops a.tmps) = c)
    (hy : c = true → ∀ w', Kept R w w' → (execOp a.eval o).run P w' = .ok (.value v) w') (h : PlanR P ops Q R r (a.put o.dst (gv c v)) w) : PlanR P ops Q R ((true, o) :: r) a w := by
  refine ⟨gv c v, ?_, h⟩
  cases c with
  | true => exact .inl ⟨hw, hy rfl⟩
  | false => exact .inr ⟨hw, rfl⟩

theorem PlanR.done {R : Nat → Prop} {a : Act} {w : World} (h : Q .normal a w) : PlanR P ops Q R [] a w := h
end
end Go.Proofs.Ytmlijnekidihbaa
