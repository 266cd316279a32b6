import Derived.Test.YtfeogoihkpclcaaMg00
import Derived.Maps.OwnSet
import Derived.Maps.Ext
import Derived.Sort.KeysCollected

/-
  Objects that a call writes into: what blocks stay as they are ('Kept'), what a call with a footprint leaves ('Touch'), and a region whose order is open, of which some calls write into an object.
-/
namespace Go.Proofs.Ytfeogoihkpclcaa
open Go.RowKit

/-- The blocks of 'R' are as they were; so are the streams; no block has gone. -/
structure Kept (R : Nat → Prop) (w w' : World) : Prop where
  os : w'.os = w.os
  tape : w'.tape = w.tape
  output : w'.output = w.output
  size : w.heap.size ≤ w'.heap.size
  block : ∀ k, R k → w'.heap[k]? = w.heap[k]?

section
variable {R R' : Nat → Prop} {a b c w w' : World}
theorem Kept.refl (R : Nat → Prop) (w : World) : Kept R w w := ⟨rfl, rfl, rfl, Nat.le_refl _, fun _ _ => rfl⟩
theorem Kept.trans (h : Kept R a b) (k : Kept R b c) : Kept R a c :=
  ⟨k.os.trans h.os, k.tape.trans h.tape, k.output.trans h.output, Nat.le_trans h.size k.size, fun i hi => (k.block i hi).trans (h.block i hi)⟩
theorem Kept.mono (h : Kept R w w') (hR : ∀ k, R' k → R k) : Kept R' w w' := ⟨h.os, h.tape, h.output, h.size, fun k hk => h.block k (hR k hk)⟩
theorem Kept.drew (h : Kept R a w) : Kept R a w.drew := ⟨h.os, h.tape, h.output, h.size, h.block⟩
theorem Kept.alloc (h : Kept R a w) (hR : ∀ k, R k → k < w.heap.size) (o : Obj) : Kept R a (w.alloc o) :=
  h.trans ⟨rfl, rfl, rfl, by simp, fun k hk => Below.heap_alloc _ _ _ (hR k hk)⟩
theorem Kept.setCell (h : Kept R a w) {p : Addr} (hp : ¬ R p.block) (u : Value) : Kept R a (w.setCell p u) :=
  h.trans ⟨rfl, rfl, rfl, by simp [World.setCell], fun k hk => Below.heap_setCell _ _ _ _ (fun e => hp (e ▸ hk))⟩
theorem Kept.grown {row : Option Nat} (h : Kept R a w) (hg : w.grownBy w' row) (hR : ∀ k, R k → k < w.heap.size) (hr : ∀ k, row = some k → ¬ R k) : Kept R a w' :=
  h.trans ⟨hg.os, hg.tape, hg.output, hg.size, fun k hk => hg.block k (hR k hk) (fun e => hr k e.symm hk)⟩
theorem Kept.below {B : Nat} (h : Kept R a w) (hR : ∀ k, k < B → R k) : Below B a w := ⟨h.os, h.tape, h.output, h.size, fun k hk => h.block k (hR k hk)⟩
theorem Kept.of {B : Nat} (h : Below B a w) (hR : ∀ k, R k → k < B) : Kept R a w := ⟨h.os, h.tape, h.output, h.size, fun k hk => h.block k (hR k hk)⟩
theorem Kept.cell (h : Kept R w w') {p : Addr} (hp : R p.block) : w'.cell? p = w.cell? p := World.cell?_of_block (w := w) (h.block p.block hp)
theorem Kept.frozen (h : Kept R w w') {p : Addr} (hp : R p.block) : w'.frozen? p = w.frozen? p := World.frozen?_of_block (w := w) (h.block p.block hp)
theorem Kept.at_ {q o : Nat} {v : Value} (h : Kept R w w') (hq : R q) (hc : w.cell? ⟨q, o, none⟩ = some v) : w'.cell? ⟨q, o, none⟩ = some v := (h.cell (p := ⟨q, o, none⟩) hq).trans hc
end

/-- What is no part of a footprint. -/
def Apart (F : Nat → Prop) (w : World) (k : Nat) : Prop := k < w.heap.size ∧ ¬ F k

/-- A call with the footprint 'F' was made: what is no part of it is as it was. -/
def Touch (F : Nat → Prop) (w w' : World) : Prop := Kept (Apart F w) w w'

/-- A footprint that has grown by new memory alone. -/
def Grows (F F' : Nat → Prop) (w w' : World) : Prop := ∀ k, F' k → F k ∨ (w.heap.size ≤ k ∧ k < w'.heap.size)

section
variable {F F' G : Nat → Prop} {a b c w w' : World}
theorem Grows.refl (F : Nat → Prop) (w w' : World) : Grows F F w w' := fun _ h => .inl h
theorem Grows.trans {F'' : Nat → Prop} (h : Grows F F' a b) (k : Grows F' F'' b c) (hab : a.heap.size ≤ b.heap.size) (hbc : b.heap.size ≤ c.heap.size) : Grows F F'' a c := by
  intro i hi
  rcases k i hi with h1 | h1
  · rcases h i h1 with h2 | h2
    · exact .inl h2
    · exact .inr (by omega)
  · exact .inr (by omega)
theorem Touch.refl (F : Nat → Prop) (w : World) : Touch F w w := Kept.refl _ _
theorem Touch.size (h : Touch F a b) : a.heap.size ≤ b.heap.size := Kept.size h
theorem Touch.trans (h : Touch F a b) (k : Touch F' b c) (hg : Grows F F' a b) : Touch F a c :=
  Kept.trans h (Kept.mono k fun i hi => ⟨Nat.lt_of_lt_of_le hi.1 (Kept.size h), fun hf => (hg i hf).elim hi.2 fun h1 => absurd hi.1 (by omega)⟩)
theorem Touch.of_below (h : Below a.heap.size a b) : Touch F a b := Kept.of h fun _ hk => hk.1
theorem Touch.below {B : Nat} (h : Touch F a b) (hF : ∀ k, F k → B ≤ k) (hB : B ≤ a.heap.size) : Below B a b := Kept.below h fun k hk => ⟨by omega, fun hf => by have := hF k hf; omega⟩
theorem Touch.mono (h : Touch F a b) (hF : ∀ k, F k → k < a.heap.size → F' k) : Touch F' a b := Kept.mono h fun k hk => ⟨hk.1, fun hf => hk.2 (hF k hf hk.1)⟩
/-- What another object has stays. -/
theorem Touch.kept (h : Touch F a b) (hG : ∀ k, G k → k < a.heap.size ∧ ¬ F k) : Kept G a b := Kept.mono h hG
end

/-! ### What can be read stays, too. -/

theorem Rd.kept {R : Nat → Prop} {w w' : World} {size n : Nat} {v : Value} {cs : List Value} (h : Rd w size v n cs) (hk : Kept R w w') (hR : ∀ k, v.ownBlock = some k → R k) : Rd w' size v n cs := by
  obtain ⟨a, cap, rfl, h1, h2, h0, h3⟩ := h
  refine ⟨a, cap, rfl, h1, h2, h0, ?_⟩
  rcases h3 with h3 | ⟨b, off, rfl, h4, h5⟩
  · exact .inl h3
  · exact .inr ⟨b, off, rfl, by have := hk.size; omega, fun j u hj => (hk.cell (p := ⟨b, off + j, none⟩) (hR b rfl)).trans (h5 j u hj)⟩

theorem RdB.kept {R : Nat → Prop} {w w' : World} {v : Value} {l : List UInt8} (h : RdB w v l) (hk : Kept R w w') (hR : ∀ k, v.ownBlock = some k → R k) : RdB w' v l := Rd.kept h hk hR

theorem own_kept {R : Nat → Prop} {w w' : World} {B e size n : Nat} {v : Value} {cs : List Value} (h : w.ownsRow B e size v n cs) (hk : Kept R w w') (hR : ∀ k, v.ownBlock = some k → R k) : w'.ownsRow B e size v n cs := by
  refine ⟨h.1, ?_⟩
  rcases h.2 with h2 | ⟨g, cap, cur, rfl, h3, hg, r⟩
  · exact .inl h2
  · exact .inr ⟨g, cap, cur, rfl, h3, by rw [hk.block g (hR g rfl)]; exact hg, r⟩

/-- The bound of what is owned may be any that its block is not below. -/
theorem own_base {w : World} {B B' e size n : Nat} {v : Value} {cs : List Value} (h : w.ownsRow B e size v n cs) (hB : ∀ k, v.ownBlock = some k → B' ≤ k) : w.ownsRow B' e size v n cs := by
  refine ⟨h.1, ?_⟩
  rcases h.2 with h2 | ⟨g, cap, cur, rfl, h3, hg, r⟩
  · exact .inl h2
  · exact .inr ⟨g, cap, cur, rfl, hB g rfl, hg, r⟩

/-! ### A region whose order is open, some of whose calls write into objects. -/
section
variable {P : Program} {ops : Array Oper} {Q : Exit → Act → World → Prop}

/-- The plan, from the world 'w' on; the blocks of 'R' stay as they are, till a call has grown it. -/
def PlanR (P : Program) (ops : Array Oper) (Q : Exit → Act → World → Prop) : (Nat → Prop) → List (Bool × Oper) → Act → World → Prop
  | _, [], a, w => Q .normal a w
  | R, (true, o) :: r, a, w => ∃ v : Value, YieldsIf P ops (Kept R w) o v a ∧ PlanR P ops Q R r (a.put o.dst v) w
  | R, (false, o) :: r, a, w => if Region.wanted o (yielded ops a.tmps) then o.wp P a w (fun a' w' => ∃ R', (∀ k, R k → R' k) ∧ Kept R w w' ∧ PlanR P ops Q R' r a' w') Q ∨ (o.asks P a w ∧ LetsOut Q) else PlanR P ops Q R r (a.put o.dst undef) w

theorem planR_sound {l : List Oper} (hs : Region.noSelect l.toArray = true) (hQ : ∀ (c : List PanicEntry) (a a' : Act) (w : World), Q (.panic c) a' w → Q (.panic c) a w) :
    ∀ (p : List (Bool × Nat)) (listed : Array Bool) (R : Nat → Prop) (a : Act) (w : World), (p.all fun x => decide (x.2 < l.length)) = true → planB l.toArray p listed = true → PlanR P l.toArray Q R (planO l p) a w → wpAnyH P .any l.toArray Q (Kept R w) p.length listed a w
  | [], listed, R, a, w, _, hb, h => by
    refine wpAnyH_done ?_ h 0
    simpa [planB] using hb
  | (true, i) :: r, listed, R, a, w, hi, hb, h => by
    simp only [List.all_cons, Bool.and_eq_true, decide_eq_true_eq] at hi
    simp only [planB, Bool.and_eq_true] at hb
    unfold planO at h
    split at h
    · rename_i o t hd
      obtain ⟨v, hy, h⟩ := h
      exact wpAnyH_take (drop_head hd) hs hb.1.1 hb.1.2 (fun c a w h => hQ c _ _ w h) hy (Kept.refl _ w) (planR_sound hs hQ r _ _ _ w hi.2 hb.2 h)
    · rename_i hd
      have := congrArg List.length hd
      simp at this
      omega
  | (false, i) :: r, listed, R, a, w, hi, hb, h => by
    simp only [List.all_cons, Bool.and_eq_true, decide_eq_true_eq] at hi
    simp only [planB, Bool.and_eq_true, beq_iff_eq] at hb
    unfold planO at h
    split at h
    · rename_i o t hd
      unfold PlanR at h
      refine wpAnyH_all hb.1 (by simp) ?_
      intro j hj
      obtain rfl : j = i := by simpa using hj
      unfold wpOp
      rw [drop_head hd]
      simp only
      split at h
      · rename_i hw
        rw [if_pos hw]
        exact h.imp (fun h => Oper.wp_mono (fun a' w' ⟨R', hle, hbel, hp⟩ => ⟨hbel, wpAnyH_mono (fun _ he => hbel.trans (he.mono hle)) _ _ _ _ (planR_sound hs hQ r _ R' a' w' hi.2 hb.2 hp)⟩) h) id
      · rename_i hw
        rw [if_neg hw]
        exact ⟨Kept.refl _ w, planR_sound hs hQ r _ _ _ w hi.2 hb.2 h⟩
    · rename_i hd
      have := congrArg List.length hd
      simp at this
      omega

/-- **The region**, by a plan. (It must be shown not to panic.) -/
theorem wp_region_planR {l : List Oper} {id : Nat} {a : Act} {w : World} (R : Nat → Prop) (p : List (Bool × Nat)) (hm : P.follows .mixedOrders = true) (hs : Region.noSelect l.toArray = true) (hn : (p.length == l.toArray.size) = true)
    (hi : (p.all fun x => decide (x.2 < l.length)) = true) (hb : planB l.toArray p (Array.replicate l.toArray.size false) = true)
    (h : PlanR P l.toArray (NoPanic Q) R (planO l p) a w.drew) : (Code.region id l.toArray true).wp P Q a w := by
  refine wp_region_noPanic ?_
  refine wp_region_held_drew (S := Kept R w.drew) hm (Kept.refl _ _) fun _ => ?_
  have h1 := planR_sound hs (Q := NoPanic Q) (fun _ _ _ _ h => h) p _ _ a w.drew hi hb h
  rw [beq_iff_eq.1 hn] at h1
  exact h1

theorem PlanR.take {R : Nat → Prop} {o : Oper} {r : List (Bool × Oper)} {a : Act} {w : World} {v : Value} (hw : Region.wanted o (yielded ops a.tmps) = true)
    (hy : ∀ w', Kept R w w' → (execOp a.eval o).run P w' = .ok (.value v) w') (h : PlanR P ops Q R r (a.put o.dst v) w) : PlanR P ops Q R ((true, o) :: r) a w :=
  ⟨v, .inl ⟨hw, hy⟩, h⟩

theorem PlanR.skip {R : Nat → Prop} {b : Bool} {o : Oper} {r : List (Bool × Oper)} {a : Act} {w : World} (hw : Region.wanted o (yielded ops a.tmps) = false)
    (h : PlanR P ops Q R r (a.put o.dst undef) w) : PlanR P ops Q R ((b, o) :: r) a w := by
  cases b with
  | true => exact ⟨undef, .inr ⟨hw, rfl⟩, h⟩
  | false => unfold PlanR; rw [if_neg (by rw [hw]; simp)]; exact h

/-- Carried out; from there on the blocks of 'R'' stay as they are. -/
theorem PlanR.exec {R : Nat → Prop} {o : Oper} {r : List (Bool × Oper)} {a : Act} {w : World}
    (h : ∀ K : Act → World → Prop, Shut (∀ a w' R', (∀ k, R k → R' k) → Kept R w w' → PlanR P ops Q R' r a w' → K a w') → Region.wanted o (yielded ops a.tmps) = true ∧ Oper.wp P o a w K Q) : PlanR P ops Q R ((false, o) :: r) a w := by
  unfold PlanR
  have := h (fun a' w' => ∃ R', (∀ k, R k → R' k) ∧ Kept R w w' ∧ PlanR P ops Q R' r a' w') (fun a w' R' hR hS hT => ⟨R', hR, hS, hT⟩)
  rw [if_pos this.1]
  exact .inl this.2

theorem PlanR.takeIf {R : Nat → Prop} {o : Oper} {r : List (Bool × Oper)} {a : Act} {w : World} {v : Value} (c : Bool) (hw : Region.wanted o (yielded ops a.tmps) = c)
    (hy : c = true → ∀ w', Kept R w w' → (execOp a.eval o).run P w' = .ok (.value v) w') (h : PlanR P ops Q R r (a.put o.dst (gv c v)) w) : PlanR P ops Q R ((true, o) :: r) a w := by
  refine ⟨gv c v, ?_, h⟩
  cases c with
  | true => exact .inl ⟨hw, hy rfl⟩
  | false => exact .inr ⟨hw, rfl⟩

theorem PlanR.done {R : Nat → Prop} {a : Act} {w : World} (h : Q .normal a w) : PlanR P ops Q R [] a w := h
end
end Go.Proofs.Ytfeogoihkpclcaa

/-
  Cells of a block that is known whole; maps of names with values, as lists in order.
-/
namespace Go.Proofs.Ytfeogoihkpclcaa
open Go.RowKit

theorem blk_cell {w : World} {p i : Nat} {cs : Array Value} {t : Nat} (h : w.heap[p]? = some (.cells cs t (0, 0))) : w.cell? ⟨p, i, none⟩ = cs[i]? := by
  simp [World.cell?, h]
theorem blk_free {w : World} {p i : Nat} {cs : Array Value} {t : Nat} (h : w.heap[p]? = some (.cells cs t (0, 0))) : w.frozen? ⟨p, i, none⟩ = false := by
  simp [World.frozen?, h]
theorem blk_lt {w : World} {p : Nat} {o : Obj} (h : w.heap[p]? = some o) : p < w.heap.size := (Array.getElem?_eq_some_iff.1 h).1
theorem blk_set {w : World} {p i : Nat} {cs : Array Value} {t : Nat} (h : w.heap[p]? = some (.cells cs t (0, 0))) (u : Value) : (w.setCell ⟨p, i, none⟩ u).heap[p]? = some (.cells (cs.setIfInBounds i u) t (0, 0)) := by
  unfold World.setCell
  simp only [Array.getElem?_modify, if_pos, h, Option.map_some]
  simp
theorem heap_new2 (w : World) (o1 o2 : Obj) : ((w.alloc o1).alloc o2).heap[w.heap.size + 1]? = some o2 := by simpa using heap_alloc_new (w.alloc o1) o2

theorem sameKey_str (a b : List UInt8) : (Lit.string a).sameKey (.string b) = (a == b) := rfl

/-- The block of a map. -/
def mapBlock : Value → Option Nat
  | .map b => b
  | _ => none

theorem belowT {a b c : World} (h : Below a.heap.size a b) (k : Below b.heap.size b c) : Below a.heap.size a c :=
  Kept.below ((Kept.of h (R := fun k => k < a.heap.size) fun _ h => h).trans (Kept.of k (R := fun k => k < a.heap.size) fun _ hi => Nat.lt_of_lt_of_le hi h.size)) fun _ h => h

theorem grown_undrew {w w' : World} {r : Option Nat} (h : w.drew.grownBy w' r) : w.grownBy w' r := ⟨h.os, h.tape, h.output, h.size, h.block⟩

/-- A part of bytes that can be read. -/
theorem sub_rd {w : World} {na : Option Addr} {nc : Nat} {l : List UInt8} (h : RdB w (.slice na l.length nc) l) (i m : Nat) (hi : i ≤ l.length) (hm : m ≤ l.length - i) :
    Rd w 1 (.slice (na.map fun x => x.add i) m (nc - i)) m (((l.drop i).take m).map bv) := by
  have h0 := h
  obtain ⟨a, cap, hv, h1, h2, _, h3⟩ := h
  cases hv
  refine ⟨_, _, rfl, by omega, by omega, by rw [List.length_map, List.length_take, List.length_drop]; omega, ?_⟩
  rcases h3 with ⟨h3, h4⟩ | ⟨b, off, rfl, h4, h5⟩
  · refine .inl ⟨by omega, fun hn => ?_⟩
    cases na with
    | none => have := h4 rfl; omega
    | some _ => cases hn
  · have hadd : (⟨b, off, none⟩ : Addr).add i = ⟨b, off + i, none⟩ := by unfold Addr.add; split <;> simp_all
    refine .inr ⟨b, off + i, by rw [Option.map_some, hadd], h4, fun j u hj => ?_⟩
    have hj' : j < m := by
      rcases Nat.lt_or_ge j m with h | h
      · exact h
      · rw [List.getElem?_eq_none (by simp; omega)] at hj; cases hj
    rw [Nat.add_assoc]
    refine h5 (i + j) u ?_
    rw [← hj]
    simp [hj']


/-! ### Names. -/
/-- One byte of a name. -/
def nmC (c : UInt8) : Bool := (decide (97 ≤ c.toNat) && decide (c.toNat ≤ 122)) || (decide (48 ≤ c.toNat) && decide (c.toNat ≤ 57)) || c.toNat == 45 || c.toNat == 46
/-- Is it a name? -/
def nmOk (s : List UInt8) : Bool := s.all nmC && decide (1 ≤ s.length) && decide (s.length ≤ 40)


theorem all_take_succ (l : List UInt8) (k : Nat) (hk : k < l.length) : (l.take (k + 1)).all nmC = ((l.take k).all nmC && nmC (l.getD k 0)) := by
  rw [List.take_succ_eq_append_getElem hk, List.all_append]
  simp [List.getD, hk]

set_option maxRecDepth 10000 in
theorem all_of_not {l : List UInt8} {k : Nat} (hk : k < l.length) (h : nmC (l.getD k 0) = false) : l.all nmC = false := by
  rw [List.all_eq_false]
  refine ⟨l.getD k 0, ?_, by rw [h]; simp⟩
  simp [List.getD, hk]

theorem size_list (s : ByteArray) : s.data.toList.length = s.size := by rw [Array.length_toList]; rfl
theorem getD_list (s : ByteArray) (k : Nat) (h : k < s.size) : s.data.toList.getD k 0 = s[k] := by
  have h' : k < s.data.toList.length := by rw [size_list]; exact h
  show (s.data.toList[k]?).getD 0 = _
  rw [List.getElem?_eq_getElem h', Array.getElem_toList]
  rfl


theorem nm_c1 {c : UInt8} (h1 : (97 : Int) ≤ (c.toNat : Int)) (h2 : (c.toNat : Int) ≤ 122) : nmC c = true := by
  simp [nmC]; omega
theorem nm_c2 {c : UInt8} (h1 : (48 : Int) ≤ (c.toNat : Int)) (h2 : (c.toNat : Int) ≤ 57) : nmC c = true := by
  simp [nmC]; omega
theorem nm_c3 {c : UInt8} (h1 : (c.toNat : Int) = 45) : nmC c = true := by
  simp [nmC]; omega
theorem nm_c4 {c : UInt8} (h1 : (c.toNat : Int) = 46) : nmC c = true := by
  simp [nmC]; omega

/-- The ways of one byte. -/
theorem nm_ways (c : UInt8) : (nmC c = false ∧ (((c.toNat : Int) < 97 ∧ ((c.toNat : Int) < 48) ∧ (c.toNat : Int) ≠ 45 ∧ (c.toNat : Int) ≠ 46) ∨ ((c.toNat : Int) < 97 ∧ 57 < (c.toNat : Int)) ∨ 122 < (c.toNat : Int))) ∨
    (nmC c = true ∧ ((97 ≤ (c.toNat : Int) ∧ (c.toNat : Int) ≤ 122) ∨ (48 ≤ (c.toNat : Int) ∧ (c.toNat : Int) ≤ 57) ∨ (c.toNat : Int) = 45 ∨ (c.toNat : Int) = 46)) := by
  cases h : nmC c with
  | true =>
    right
    refine ⟨rfl, ?_⟩
    simp [nmC] at h
    omega
  | false =>
    left
    refine ⟨rfl, ?_⟩
    simp [nmC] at h
    omega


/-! ### Names with values, in order. -/
section
variable {β : Type}

def nfind (l : List (List UInt8 × β)) (n : List UInt8) : Option β := (l.find? fun x => x.1 == n).map (·.2)
def nwithout (l : List (List UInt8 × β)) (n : List UInt8) : List (List UInt8 × β) := l.filter fun x => !(x.1 == n)
def nput : List (List UInt8 × β) → List UInt8 → β → List (List UInt8 × β)
  | [], n, b => [(n, b)]
  | x :: r, n, b => if bytesBefore n x.1 then (n, b) :: x :: r else x :: nput r n b
def nwith (l : List (List UInt8 × β)) (n : List UInt8) (b : β) : List (List UInt8 × β) := nput (nwithout l n) n b

def mapN (f : β → DataW Unit) (l : List (List UInt8 × β)) : DataW Unit := .map (l.map fun x => (Lit.string x.1, f x.2))

theorem mapN_put (f : β → DataW Unit) (l : List (List UInt8 × β)) (n : List UInt8) (b : β) : (mapN f l).put (.string n) (f b) = mapN f (nwith l n b) := by
  have hf : ((l.map fun x => (Lit.string x.1, f x.2)).filter fun p => !p.1.sameKey (.string n)) = (nwithout l n).map fun x => (Lit.string x.1, f x.2) := by
    unfold nwithout
    rw [List.filter_map]
    rfl
  have hi : ∀ r : List (List UInt8 × β), DataW.insert (Lit.string n, f b) (r.map fun x => (Lit.string x.1, f x.2)) = (nput r n b).map fun x => (Lit.string x.1, f x.2) := by
    intro r
    induction r with
    | nil => rfl
    | cons x r ih =>
      have hb : (Lit.string n).before (Lit.string x.1) = bytesBefore n x.1 := rfl
      simp only [List.map_cons, DataW.insert, nput]
      rw [hb]
      by_cases h : bytesBefore n x.1 = true
      · rw [if_pos h, if_pos h]; rfl
      · rw [if_neg h, if_neg h, ih]; rfl
  unfold mapN DataW.put nwith
  simp only
  rw [hf, hi]

theorem mapN_del (f : β → DataW Unit) (l : List (List UInt8 × β)) (n : List UInt8) : (mapN f l).del (.string n) = mapN f (nwithout l n) := by
  unfold mapN DataW.del nwithout
  simp only
  rw [List.filter_map]
  rfl

theorem mapN_has (f : β → DataW Unit) (l : List (List UInt8 × β)) (n : List UInt8) : Maps.has (mapN f l) (.string n) = (nfind l n).isSome := by
  unfold mapN
  rw [Maps.has_eq, List.any_map]
  unfold nfind
  rw [Option.isSome_map, List.isSome_find?]
  rfl

theorem mapN_at (f : β → DataW Unit) (l : List (List UInt8 × β)) (n : List UInt8) (z : DataW Unit) : (mapN f l).atKey (.string n) z = (match nfind l n with | some b => f b | none => z) := by
  unfold mapN DataW.atKey
  simp only
  rw [List.find?_map]
  have : (fun x => (x : Lit × DataW Unit).1.sameKey (.string n)) ∘ (fun x : List UInt8 × β => (Lit.string x.1, f x.2)) = fun x => x.1 == n := rfl
  rw [this]
  unfold nfind
  cases l.find? fun x => x.1 == n <;> rfl

theorem mapN_size (f : β → DataW Unit) (l : List (List UInt8 × β)) : Maps.size (mapN f l) = l.length := by simp [mapN, Maps.size]
theorem mapN_keys (f : β → DataW Unit) (l : List (List UInt8 × β)) : strKeys (mapN f l) = l.map (·.1) := by
  simp only [mapN, strKeys, List.map_map]
  rfl
end
end Go.Proofs.Ytfeogoihkpclcaa
