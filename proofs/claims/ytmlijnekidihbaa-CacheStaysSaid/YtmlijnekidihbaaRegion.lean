/-
  A region whose order is open, of which some operations yield the same in every world of a class, and the others come up in one order: the former first, then the latter.
-/
import Derived.Deep.RegionHeld3
import Derived.Deep.DeepCutAuto
import Derived.WalkKit
import Derived.WalkSmall
import Derived.ProofKit
namespace Go.Proofs.Ytmlijnekidihbaa
open Go.RowKit
section
variable {P : Program} {ops : Array Oper} {Q : Exit → Act → World → Prop} {S : World → Prop}

/-- Taken first, in this order: each yields its value in every world of the class. -/
def TakesL (P : Program) (ops : Array Oper) (S : World → Prop) : List Nat → Act → (Act → Prop) → Prop
  | [], a, K => K a
  | i :: r, a, K => ∃ (o : Oper) (v : Value), ops[i]? = some o ∧ YieldsIf P ops S o v a ∧ TakesL P ops S r (a.put o.dst v) K

/-- Carried out, in this order; behind each the world is one of the class. -/
def TailL (P : Program) (ops : Array Oper) (Q : Exit → Act → World → Prop) (S : World → Prop) : List Nat → Act → World → Prop
  | [], a, w => Q .normal a w
  | i :: r, a, w => wpOp P ops Q i (fun a' w' => S w' ∧ TailL P ops Q S r a' w') a w

/-- The others come up in this one order. -/
def tailB (ops : Array Oper) : List Nat → Array Bool → Bool
  | [], listed => (Region.ready .any ops listed).isEmpty
  | i :: r, listed => Region.ready .any ops listed == [i] && tailB ops r (listed.setIfInBounds i true)

/-- The first ones may be taken first, in this order. -/
def takesB (ops : Array Oper) (F : List Nat) : List Nat → Array Bool → Bool
  | [], listed => tailB ops F listed
  | i :: r, listed => Region.free .any ops listed i && (Region.ready .any ops listed).contains i && takesB ops F r (listed.setIfInBounds i true)

theorem tail_sound : ∀ (F : List Nat) (listed : Array Bool) (a : Act) (w : World), tailB ops F listed = true → TailL P ops Q S F a w → wpAnyH P .any ops Q S F.length listed a w
  | [], listed, a, w, hb, h => by
    refine wpAnyH_done ?_ h 0
    simpa [tailB] using hb
  | i :: r, listed, a, w, hb, h => by
    simp only [tailB, Bool.and_eq_true, beq_iff_eq] at hb
    refine wpAnyH_all hb.1 (by simp) ?_
    intro j hj
    obtain rfl : j = i := by simpa using hj
    exact wpOp_mono (fun a' w' h' => ⟨h'.1, tail_sound r _ a' w' hb.2 h'.2⟩) h

theorem takes_sound (hs : Region.noSelect ops = true) (hQ : ∀ (c : List PanicEntry) (a a' : Act) (w : World), Q (.panic c) a' w → Q (.panic c) a w) (F : List Nat) :
    ∀ (T : List Nat) (listed : Array Bool) (a : Act) (w : World), takesB ops F T listed = true → S w → TakesL P ops S T a (fun a' => TailL P ops Q S F a' w) → wpAnyH P .any ops Q S (T.length + F.length) listed a w
  | [], listed, a, w, hb, _, h => by
    rw [List.length_nil, Nat.zero_add]
    exact tail_sound F listed a w hb h
  | i :: r, listed, a, w, hb, hS, h => by
    simp only [takesB, Bool.and_eq_true] at hb
    obtain ⟨o, v, ho, hy, h⟩ := h
    rw [List.length_cons, Nat.add_right_comm]
    exact wpAnyH_take ho hs hb.1.1 hb.1.2 (fun c a w h => hQ c _ _ w h) hy hS (takes_sound hs hQ F r _ _ w hb.2 hS h)

/-- **The region**: those of 'T' first, those of 'F' then. (It must be shown not to panic.) -/
theorem wp_region_TF {id : Nat} {a : Act} {w : World} (T F : List Nat) (hm : P.follows .mixedOrders = true) (hs : Region.noSelect ops = true) (hn : (T.length + F.length == ops.size) = true)
    (hb : takesB ops F T (Array.replicate ops.size false) = true) (hS : S w.drew) (h : TakesL P ops S T a (fun a' => TailL P ops (NoPanic Q) S F a' w.drew)) : (Code.region id ops true).wp P Q a w := by
  refine wp_region_noPanic ?_
  refine wp_region_held_drew hm hS fun _ => ?_
  have h1 := takes_sound hs (Q := NoPanic Q) (fun _ _ _ _ h => h) F T _ a w.drew hb hS h
  rw [beq_iff_eq.1 hn] at h1
  exact h1

/-- The operations of these numbers, written out. -/
def pickO (l : List Oper) : List Nat → List Oper
  | [] => []
  | i :: r => match l.drop i with
    | o :: _ => o :: pickO l r
    | [] => pickO l r

/-- As 'TakesL', over the operations written out. -/
def TakesO (P : Program) (ops : Array Oper) (S : World → Prop) : List Oper → Act → (Act → Prop) → Prop
  | [], a, K => K a
  | o :: r, a, K => ∃ v : Value, YieldsIf P ops S o v a ∧ TakesO P ops S r (a.put o.dst v) K

/-- As 'TailL', over the operations written out. -/
def TailO (P : Program) (ops : Array Oper) (Q : Exit → Act → World → Prop) (S : World → Prop) : List Oper → Act → World → Prop
  | [], a, w => Q .normal a w
  | o :: r, a, w => if Region.wanted o (yielded ops a.tmps) then o.wp P a w (fun a' w' => S w' ∧ TailO P ops Q S r a' w') Q ∨ (o.asks P a w ∧ LetsOut Q) else S w ∧ TailO P ops Q S r (a.put o.dst undef) w

theorem drop_head {l : List Oper} {i : Nat} {o : Oper} {t : List Oper} (h : l.drop i = o :: t) : l.toArray[i]? = some o := by
  have : (l.drop i)[0]? = some o := by rw [h]; rfl
  simpa using this

theorem TakesO.sound {l : List Oper} : ∀ (T : List Nat) (a : Act) (K : Act → Prop), (T.all fun i => decide (i < l.length)) = true → TakesO P l.toArray S (pickO l T) a K → TakesL P l.toArray S T a K
  | [], _, _, _, h => h
  | i :: r, a, K, hi, h => by
    simp only [List.all_cons, Bool.and_eq_true, decide_eq_true_eq] at hi
    unfold pickO at h
    split at h
    · rename_i o t hd
      obtain ⟨v, hy, h⟩ := h
      exact ⟨o, v, drop_head hd, hy, TakesO.sound r _ K hi.2 h⟩
    · rename_i hd
      have := congrArg List.length hd
      simp at this
      omega

theorem TailO.sound {l : List Oper} : ∀ (F : List Nat) (a : Act) (w : World), (F.all fun i => decide (i < l.length)) = true → TailO P l.toArray Q S (pickO l F) a w → TailL P l.toArray Q S F a w
  | [], _, _, _, h => h
  | i :: r, a, w, hi, h => by
    simp only [List.all_cons, Bool.and_eq_true, decide_eq_true_eq] at hi
    unfold pickO at h
    split at h
    · rename_i o t hd
      unfold TailL wpOp
      rw [drop_head hd]
      unfold TailO at h
      simp only
      split at h
      · rename_i hw
        rw [if_pos hw]
        exact h.imp (fun h => Oper.wp_mono (fun a' w' h' => ⟨h'.1, TailO.sound r a' w' hi.2 h'.2⟩) h) id
      · rename_i hw
        rw [if_neg hw]
        exact ⟨h.1, TailO.sound r _ w hi.2 h.2⟩
    · rename_i hd
      have := congrArg List.length hd
      simp at this
      omega

/-- **The region**: those of 'T' first, those of 'F' then. (It must be shown not to panic.) -/
theorem wp_region_TFO {l : List Oper} {id : Nat} {a : Act} {w : World} (T F : List Nat) (hm : P.follows .mixedOrders = true) (hs : Region.noSelect l.toArray = true) (hn : (T.length + F.length == l.toArray.size) = true)
    (hb : takesB l.toArray F T (Array.replicate l.toArray.size false) = true) (hT : (T.all fun i => decide (i < l.length)) = true) (hF : (F.all fun i => decide (i < l.length)) = true) (hS : S w.drew)
    (h : TakesO P l.toArray S (pickO l T) a (fun a' => TailO P l.toArray (NoPanic Q) S (pickO l F) a' w.drew)) : (Code.region id l.toArray true).wp P Q a w := by
  refine wp_region_TF T F hm hs hn hb hS (TakesO.sound T a _ hT ?_)
  have key : ∀ (L : List Oper) (a : Act) (K K' : Act → Prop), (∀ a, K a → K' a) → TakesO P l.toArray S L a K → TakesO P l.toArray S L a K' := by
    intro L
    induction L with
    | nil => intro a K K' hk h; exact hk _ h
    | cons o r ih => intro a K K' hk h; obtain ⟨v, hy, h⟩ := h; exact ⟨v, hy, ih _ _ _ hk h⟩
  exact key _ _ _ _ (fun a' h' => TailO.sound F a' _ hF h') h

theorem TakesO.cons {o : Oper} {r : List Oper} {a : Act} {K : Act → Prop} {v : Value} (hw : Region.wanted o (yielded ops a.tmps) = true)
    (hy : ∀ w, S w → (execOp a.eval o).run P w = .ok (.value v) w) (h : TakesO P ops S r (a.put o.dst v) K) : TakesO P ops S (o :: r) a K :=
  ⟨v, .inl ⟨hw, hy⟩, h⟩

theorem TakesO.nil {a : Act} {K : Act → Prop} (h : K a) : TakesO P ops S [] a K := h

theorem TakesO.skip {o : Oper} {r : List Oper} {a : Act} {K : Act → Prop} (hw : Region.wanted o (yielded ops a.tmps) = false)
    (h : TakesO P ops S r (a.put o.dst undef) K) : TakesO P ops S (o :: r) a K :=
  ⟨undef, .inr ⟨hw, rfl⟩, h⟩

theorem TailO.cons {o : Oper} {r : List Oper} {a : Act} {w : World}
    (h : ∀ K : Act → World → Prop, Shut (∀ a w, S w → TailO P ops Q S r a w → K a w) → if Region.wanted o (yielded ops a.tmps) = true then Oper.wp P o a w K Q else K (a.put o.dst undef) w) : TailO P ops Q S (o :: r) a w := by
  have := h (fun a w => S w ∧ TailO P ops Q S r a w) (fun a w hS hT => ⟨hS, hT⟩)
  unfold TailO
  split
  · rename_i hw; rw [if_pos hw] at this; exact .inl this
  · rename_i hw; rw [if_neg hw] at this; exact this

theorem TailO.nil {a : Act} {w : World} (h : Q .normal a w) : TailO P ops Q S [] a w := h

/-! ### A plan: some operations are taken first, others are carried out where nothing else can come up; behind each of these the world has grown. -/

/-- The worlds that have grown out of 'w': what was there is there as it was. -/
def Ext (w w' : World) : Prop := Below w.heap.size w w'

theorem Ext.refl (w : World) : Ext w w := Below.refl _ _
theorem Ext.trans {a b c : World} (h : Ext a b) (k : Ext b c) : Ext a c := Below.trans h (Below.mono k (Below.size h))

/-- A cell that is there is there in every world that has grown out of this one. -/
theorem Ext.at_ {w w' : World} (h : Ext w w') {b o : Nat} {v : Value} (hc : w.cell? ⟨b, o, none⟩ = some v) : w'.cell? ⟨b, o, none⟩ = some v :=
  (Below.cell (p := ⟨b, o, none⟩) h (World.block_lt_of_cell? w _ hc)).trans hc

/-- The plan, from the world 'w' on; blocks below 'B' stay as they are. -/
def PlanO (P : Program) (ops : Array Oper) (Q : Exit → Act → World → Prop) : Nat → List (Bool × Oper) → Act → World → Prop
  | _, [], a, w => Q .normal a w
  | B, (true, o) :: r, a, w => ∃ v : Value, YieldsIf P ops (Below B w) o v a ∧ PlanO P ops Q B r (a.put o.dst v) w
  | B, (false, o) :: r, a, w => if Region.wanted o (yielded ops a.tmps) then o.wp P a w (fun a' w' => ∃ B', B ≤ B' ∧ Below B w w' ∧ PlanO P ops Q B' r a' w') Q ∨ (o.asks P a w ∧ LetsOut Q) else PlanO P ops Q B r (a.put o.dst undef) w

/-- May it go so? -/
def planB (ops : Array Oper) : List (Bool × Nat) → Array Bool → Bool
  | [], listed => (Region.ready .any ops listed).isEmpty
  | (true, i) :: r, listed => Region.free .any ops listed i && (Region.ready .any ops listed).contains i && planB ops r (listed.setIfInBounds i true)
  | (false, i) :: r, listed => Region.ready .any ops listed == [i] && planB ops r (listed.setIfInBounds i true)

def planO (l : List Oper) : List (Bool × Nat) → List (Bool × Oper)
  | [] => []
  | (b, i) :: r => match l.drop i with
    | o :: _ => (b, o) :: planO l r
    | [] => planO l r

theorem wpAnyH_mono {S S' : World → Prop} (hS : ∀ w, S w → S' w) : ∀ (fuel : Nat) (listed : Array Bool) (a : Act) (w : World), wpAnyH P .any ops Q S fuel listed a w → wpAnyH P .any ops Q S' fuel listed a w
  | 0, _, _, _, h => h
  | fuel + 1, _, _, _, h => ⟨h.1, fun i hi => wpOp_mono (fun a' w' h' => ⟨hS _ h'.1, wpAnyH_mono hS fuel _ a' w' h'.2⟩) (h.2 i hi)⟩

theorem plan_sound {l : List Oper} (hs : Region.noSelect l.toArray = true) (hQ : ∀ (c : List PanicEntry) (a a' : Act) (w : World), Q (.panic c) a' w → Q (.panic c) a w) :
    ∀ (p : List (Bool × Nat)) (listed : Array Bool) (B : Nat) (a : Act) (w : World), (p.all fun x => decide (x.2 < l.length)) = true → planB l.toArray p listed = true → PlanO P l.toArray Q B (planO l p) a w → wpAnyH P .any l.toArray Q (Below B w) p.length listed a w
  | [], listed, B, a, w, _, hb, h => by
    refine wpAnyH_done ?_ h 0
    simpa [planB] using hb
  | (true, i) :: r, listed, B, a, w, hi, hb, h => by
    simp only [List.all_cons, Bool.and_eq_true, decide_eq_true_eq] at hi
    simp only [planB, Bool.and_eq_true] at hb
    unfold planO at h
    split at h
    · rename_i o t hd
      obtain ⟨v, hy, h⟩ := h
      exact wpAnyH_take (drop_head hd) hs hb.1.1 hb.1.2 (fun c a w h => hQ c _ _ w h) hy (Below.refl _ w) (plan_sound hs hQ r _ _ _ w hi.2 hb.2 h)
    · rename_i hd
      have := congrArg List.length hd
      simp at this
      omega
  | (false, i) :: r, listed, B, a, w, hi, hb, h => by
    simp only [List.all_cons, Bool.and_eq_true, decide_eq_true_eq] at hi
    simp only [planB, Bool.and_eq_true, beq_iff_eq] at hb
    unfold planO at h
    split at h
    · rename_i o t hd
      unfold PlanO at h
      refine wpAnyH_all hb.1 (by simp) ?_
      intro j hj
      obtain rfl : j = i := by simpa using hj
      unfold wpOp
      rw [drop_head hd]
      simp only
      split at h
      · rename_i hw
        rw [if_pos hw]
        exact h.imp (fun h => Oper.wp_mono (fun a' w' ⟨B', hle, hbel, hp⟩ => ⟨hbel, wpAnyH_mono (fun _ he => hbel.trans (he.mono hle)) _ _ _ _ (plan_sound hs hQ r _ B' a' w' hi.2 hb.2 hp)⟩) h) id
      · rename_i hw
        rw [if_neg hw]
        exact ⟨Below.refl _ w, plan_sound hs hQ r _ _ _ w hi.2 hb.2 h⟩
    · rename_i hd
      have := congrArg List.length hd
      simp at this
      omega

/-- **The region**, by a plan. (It must be shown not to panic.) -/
theorem wp_region_plan {l : List Oper} {id : Nat} {a : Act} {w : World} (p : List (Bool × Nat)) (hm : P.follows .mixedOrders = true) (hs : Region.noSelect l.toArray = true) (hn : (p.length == l.toArray.size) = true)
    (hi : (p.all fun x => decide (x.2 < l.length)) = true) (hb : planB l.toArray p (Array.replicate l.toArray.size false) = true)
    (h : PlanO P l.toArray (NoPanic Q) w.drew.heap.size (planO l p) a w.drew) : (Code.region id l.toArray true).wp P Q a w := by
  refine wp_region_noPanic ?_
  refine wp_region_held_drew (S := Below w.drew.heap.size w.drew) hm (Below.refl _ _) fun _ => ?_
  have h1 := plan_sound hs (Q := NoPanic Q) (fun _ _ _ _ h => h) p _ _ a w.drew hi hb h
  rw [beq_iff_eq.1 hn] at h1
  exact h1

/-- .. of which what lies below a bound stays as it is (the call's own memory may be written). -/
theorem wp_region_planB {l : List Oper} {id : Nat} {a : Act} {w : World} (B : Nat) (p : List (Bool × Nat)) (hm : P.follows .mixedOrders = true) (hs : Region.noSelect l.toArray = true) (hn : (p.length == l.toArray.size) = true)
    (hi : (p.all fun x => decide (x.2 < l.length)) = true) (hb : planB l.toArray p (Array.replicate l.toArray.size false) = true)
    (h : PlanO P l.toArray (NoPanic Q) B (planO l p) a w.drew) : (Code.region id l.toArray true).wp P Q a w := by
  refine wp_region_noPanic ?_
  refine wp_region_held_drew (S := Below B w.drew) hm (Below.refl _ _) fun _ => ?_
  have h1 := plan_sound hs (Q := NoPanic Q) (fun _ _ _ _ h => h) p _ _ a w.drew hi hb h
  rw [beq_iff_eq.1 hn] at h1
  exact h1

theorem PlanO.take {B : Nat} {o : Oper} {r : List (Bool × Oper)} {a : Act} {w : World} {v : Value} (hw : Region.wanted o (yielded ops a.tmps) = true)
    (hy : ∀ w', Below B w w' → (execOp a.eval o).run P w' = .ok (.value v) w') (h : PlanO P ops Q B r (a.put o.dst v) w) : PlanO P ops Q B ((true, o) :: r) a w :=
  ⟨v, .inl ⟨hw, hy⟩, h⟩

theorem PlanO.skip {B : Nat} {b : Bool} {o : Oper} {r : List (Bool × Oper)} {a : Act} {w : World} (hw : Region.wanted o (yielded ops a.tmps) = false)
    (h : PlanO P ops Q B r (a.put o.dst undef) w) : PlanO P ops Q B ((b, o) :: r) a w := by
  cases b with
  | true => exact ⟨undef, .inr ⟨hw, rfl⟩, h⟩
  | false => unfold PlanO; rw [if_neg (by rw [hw]; simp)]; exact h

/-- Carried out; from there on all that there is then stays as it is. -/
theorem PlanO.exec {o : Oper} {r : List (Bool × Oper)} {a : Act} {w : World}
    (h : ∀ K : Act → World → Prop, Shut (∀ a w', Ext w w' → PlanO P ops Q w'.heap.size r a w' → K a w') → if Region.wanted o (yielded ops a.tmps) = true then Oper.wp P o a w K Q else K (a.put o.dst undef) w) : PlanO P ops Q w.heap.size ((false, o) :: r) a w := by
  unfold PlanO
  split
  · rename_i hw
    have := h (fun a' w' => ∃ B', w.heap.size ≤ B' ∧ Below w.heap.size w w' ∧ PlanO P ops Q B' r a' w') (fun a w' hS hT => ⟨_, Below.size hS, hS, hT⟩)
    rw [if_pos hw] at this
    exact .inl this
  · rename_i hw
    have := h (fun a' w' => PlanO P ops Q w'.heap.size r a' w') (fun a w' _ hT => hT)
    rw [if_neg hw] at this
    exact this

/-- Carried out; from there on still just the blocks below 'B' stay as they are. -/
theorem PlanO.keep {B : Nat} {o : Oper} {r : List (Bool × Oper)} {a : Act} {w : World}
    (h : ∀ K : Act → World → Prop, Shut (∀ a w', Below B w w' → PlanO P ops Q B r a w' → K a w') → if Region.wanted o (yielded ops a.tmps) = true then Oper.wp P o a w K Q else K (a.put o.dst undef) w) : PlanO P ops Q B ((false, o) :: r) a w := by
  unfold PlanO
  split
  · rename_i hw
    have := h (fun a' w' => ∃ B', B ≤ B' ∧ Below B w w' ∧ PlanO P ops Q B' r a' w') (fun a w' hS hT => ⟨_, Nat.le_refl _, hS, hT⟩)
    rw [if_pos hw] at this
    exact .inl this
  · rename_i hw
    have := h (fun a' w' => PlanO P ops Q B r a' w') (fun a w' _ hT => hT)
    rw [if_neg hw] at this
    exact this

/-- Carried out; from there on all that there is then stays as it is. -/
theorem PlanO.lift {B : Nat} {o : Oper} {r : List (Bool × Oper)} {a : Act} {w : World}
    (h : ∀ K : Act → World → Prop, Shut (∀ a w', Below B w w' → B ≤ w'.heap.size → PlanO P ops Q w'.heap.size r a w' → K a w') → Region.wanted o (yielded ops a.tmps) = true ∧ Oper.wp P o a w K Q) : PlanO P ops Q B ((false, o) :: r) a w := by
  unfold PlanO
  have := h (fun a' w' => ∃ B', B ≤ B' ∧ Below B w w' ∧ PlanO P ops Q B' r a' w') (fun a w' hS hle hT => ⟨_, hle, hS, hT⟩)
  rw [if_pos this.1]
  exact .inl this.2

/-- What an operation under a guard leaves: nothing, where the guard says so. -/
def gv (c : Bool) (v : Value) : Value := bif c then v else undef

theorem gv_true (v : Value) : gv true v = v := rfl
theorem gv_false (v : Value) : gv false v = undef := rfl

theorem PlanO.takeIf {B : Nat} {o : Oper} {r : List (Bool × Oper)} {a : Act} {w : World} {v : Value} (c : Bool) (hw : Region.wanted o (yielded ops a.tmps) = c)
    (hy : c = true → ∀ w', Below B w w' → (execOp a.eval o).run P w' = .ok (.value v) w') (h : PlanO P ops Q B r (a.put o.dst (gv c v)) w) : PlanO P ops Q B ((true, o) :: r) a w := by
  refine ⟨gv c v, ?_, h⟩
  cases c with
  | true => exact .inl ⟨hw, hy rfl⟩
  | false => exact .inr ⟨hw, rfl⟩

theorem PlanO.done {B : Nat} {a : Act} {w : World} (h : Q .normal a w) : PlanO P ops Q B [] a w := h

/-! ### A region in the order of the text, operation by operation, with guards that are not known. -/

theorem wpList_take {o : Oper} {rest : List Oper} {a : Act} {w : World} {v : Value} (hw : Region.wanted o (yielded ops a.tmps) = true)
    (hy : (execOp a.eval o).run P w = .ok (.value v) w) (h : wpList P ops Q rest (a.put o.dst v) w) : wpList P ops Q (o :: rest) a w := by
  unfold wpList
  rw [if_pos hw]
  left
  unfold Oper.wp
  rw [hy]
  exact h

theorem wpList_skip {o : Oper} {rest : List Oper} {a : Act} {w : World} (hw : Region.wanted o (yielded ops a.tmps) = false) (h : wpList P ops Q rest (a.put o.dst undef) w) : wpList P ops Q (o :: rest) a w := by
  unfold wpList
  rw [if_neg (by rw [hw]; simp)]
  exact h

theorem wpList_exec {o : Oper} {rest : List Oper} {a : Act} {w : World}
    (h : ∀ K : Act → World → Prop, Shut (∀ a w, wpList P ops Q rest a w → K a w) → if Region.wanted o (yielded ops a.tmps) = true then o.wp P a w K Q else K (a.put o.dst undef) w) : wpList P ops Q (o :: rest) a w :=
  wpList_step fun K hK => h K hK

theorem wpList_takeIf {o : Oper} {rest : List Oper} {a : Act} {w : World} {v : Value} (c : Bool) (hw : Region.wanted o (yielded ops a.tmps) = c)
    (hy : c = true → (execOp a.eval o).run P w = .ok (.value v) w) (h : wpList P ops Q rest (a.put o.dst (gv c v)) w) : wpList P ops Q (o :: rest) a w := by
  cases c with
  | true => exact wpList_take hw (hy rfl) h
  | false => exact wpList_skip hw h
end
end Go.Proofs.Ytmlijnekidihbaa
