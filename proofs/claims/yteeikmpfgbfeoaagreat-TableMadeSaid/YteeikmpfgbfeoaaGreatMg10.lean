import Derived.Test.YteeikmpfgbfeoaaGreatMg04
import Derived.Test.YteeikmpfgbfeoaaGreatRegion
import Derived.Test.YteeikmpfgbfeoaaGreatKept
import Derived.Test.YteeikmpfgbfeoaaGreatCells
import Derived.Test.YteeikmpfgbfeoaaGreatOwnEnt
import Derived.Shelf.Abstract
import Derived.Test.YteeikmpfgbfeoaaGreatMg09
import Derived.Test.YteeikmpfgbfeoaaGreatMg08
import Derived.Test.YteeikmpfgbfeoaaGreatFixedOut
import Derived.Test.YteeikmpfgbfeoaaGreatMg06
import Derived.RangeFuncBox
import Derived.RangeFuncLeaves
import Derived.Shelf.RegionOpen
import Derived.WalkKit
import Derived.OwnWalkIn
import Derived.TacticsInMore
import Derived.LoopNIn
import Derived.LoopIn

/-
  As XTwo, but the class of worlds that holds till the last ones come up may be made smaller by a call.
-/
namespace Go.Proofs.YteeikmpfgbfeoaaGreat
open Go.RowKit
section
variable {P : Program} {ops : Array Oper} {Q : Exit → Act → World → Prop} {S1 S2 : World → Prop} {E : Nat → Bool}

theorem wpAny2_mono {S1' : World → Prop} (hle : ∀ z, S1' z → S1 z) : ∀ (fuel : Nat) (listed : Array Bool) (a : Act) (w : World), wpAny2 P ops Q S1' S2 E fuel listed a w → wpAny2 P ops Q S1 S2 E fuel listed a w
  | 0, _, _, _, h => h
  | fuel + 1, _, _, _, h => ⟨h.1, fun i hi => wpOp_mono (fun a' w' h' => ⟨⟨h'.1.1, fun hn => hle _ (h'.1.2 hn)⟩, wpAny2_mono hle fuel _ a' w' h'.2⟩) (h.2 i hi)⟩

def PlanV (P : Program) (ops : Array Oper) (Q : Exit → Act → World → Prop) (S2 : World → Prop) : (World → Prop) → List (Nat × Oper) → Act → World → Prop
  | _, [], a, w => Q .normal a w
  | S1, (0, o) :: r, a, w => ∃ v : Value, YieldsIf P ops S1 o v a ∧ PlanV P ops Q S2 S1 r (a.put o.dst v) w
  | S1, (1, o) :: r, a, w => ∃ v : Value, YieldsIf P ops S2 o v a ∧ PlanV P ops Q S2 S1 r (a.put o.dst v) w
  | S1, (2, o) :: r, a, w => if Region.wanted o (yielded ops a.tmps) then o.wp P a w (fun a' w' => ∃ S1' : World → Prop, (∀ z, S1' z → S1 z) ∧ (S2 w' ∧ S1' w') ∧ PlanV P ops Q S2 S1' r a' w') Q ∨ (o.asks P a w ∧ LetsOut Q) else PlanV P ops Q S2 S1 r (a.put o.dst undef) w
  | S1, (_ + 3, o) :: r, a, w => if Region.wanted o (yielded ops a.tmps) then o.wp P a w (fun a' w' => S2 w' ∧ PlanV P ops Q S2 S1 r a' w') Q ∨ (o.asks P a w ∧ LetsOut Q) else PlanV P ops Q S2 S1 r (a.put o.dst undef) w

theorem planV_sound {l : List Oper} {EL : List Nat} (hs : Region.noSelect l.toArray = true) (hQ : ∀ (c : List PanicEntry) (a a' : Act) (w : World), Q (.panic c) a' w → Q (.panic c) a w) :
    ∀ (p : List (Nat × Nat)) (S1 : World → Prop) (b : Bool) (listed : Array Bool) (a : Act) (w : World), Closed l.toArray listed → S2 w → (b = false → S1 w) → (b = true → ∃ j, EL.contains j = true ∧ listed.getD j false = true) → (p.all fun x => decide (x.2 < l.length)) = true → planTB l.toArray EL b p listed = true → (listed.size = l.length) →
      PlanV P l.toArray Q S2 S1 (planT l p) a w → wpAny2 P l.toArray Q S1 S2 (fun j => EL.contains j) p.length listed a w
  | [], _, b, listed, a, w, _, _, _, _, _, hb, _, h => by
    have hb' : Region.ready .any l.toArray listed = [] := by simpa [planTB] using hb
    exact ⟨hb', h⟩
  | (k, i) :: r, S1, b, listed, a, w, hc, hS2, hS1, hE, hi, hb, hz, h => by
    simp only [List.all_cons, Bool.and_eq_true, decide_eq_true_eq] at hi
    have hz' : (listed.setIfInBounds i true).size = l.length := by simpa using hz
    have hset : (listed.setIfInBounds i true).getD i false = true := by simp [hz, hi.1]
    have hS1' : NoE (fun j => EL.contains j) listed → S1 w := fun hn => by
      cases b with
      | false => exact hS1 rfl
      | true =>
        obtain ⟨j, h1, h2⟩ := hE rfl
        rw [hn j h1] at h2
        cases h2
    unfold planT at h
    split at h
    case h_2 hd =>
      have := congrArg List.length hd
      simp at this
      omega
    case h_1 o t hd =>
      match k, h, hb with
      | 0, h, hb =>
        simp only [planTB, Bool.and_eq_true, Bool.not_eq_true', List.all_eq_true] at hb
        obtain ⟨v, hy, h⟩ := h
        obtain ⟨⟨⟨⟨⟨hb0, hb1⟩, hb2⟩, hb3⟩, hb4⟩, hb5⟩ := hb
        subst hb0
        have hr : i ∈ Region.ready .any l.toArray listed := by simpa using hb2
        exact first1 (drop_head hd) (Region.noSelect_spec hs) (fun c a w h => hQ c _ _ w h) hb3 (fun j hj => hb4 j (by simpa using hj)) _ listed a w hc (Region.free_spec (drop_head hd) hb1) hr hy hS2 (hS1 rfl)
          (planV_sound hs hQ r S1 _ _ _ w (hc.set hr) hS2 hS1 (fun h => by cases h) hi.2 hb5 hz' h)
      | 1, h, hb =>
        simp only [planTB, Bool.and_eq_true, Bool.not_eq_true'] at hb
        obtain ⟨v, hy, h⟩ := h
        obtain ⟨⟨⟨hb1, hb2⟩, hb3⟩, hb5⟩ := hb
        have hr : i ∈ Region.ready .any l.toArray listed := by simpa using hb2
        exact first2 (drop_head hd) (Region.noSelect_spec hs) (fun c a w h => hQ c _ _ w h) hb3 _ listed a w hc (Region.free_spec (drop_head hd) hb1) hr hy hS2 hS1'
          (planV_sound hs hQ r S1 b _ _ w (hc.set hr) hS2 hS1 (fun h => by obtain ⟨j, h1, h2⟩ := hE h; exact ⟨j, h1, getD_set_true h2⟩) hi.2 hb5 hz' h)
      | 2, h, hb =>
        simp only [planTB, Bool.and_eq_true, Bool.not_eq_true', beq_iff_eq] at hb
        obtain ⟨⟨⟨hb0, hb3⟩, hb2⟩, hb5⟩ := hb
        subst hb0
        have hr : i ∈ Region.ready .any l.toArray listed := by rw [hb2]; simp
        refine ⟨fun h0 => by (rw [h0] at hr; cases hr), fun j hj => ?_⟩
        obtain rfl : j = i := by rw [hb2] at hj; simpa using hj
        unfold wpOp
        rw [drop_head hd]
        simp only
        unfold PlanV at h
        split at h
        · rename_i hw
          rw [if_pos hw]
          exact h.imp (fun h => Oper.wp_mono (fun a' w' ⟨S1', hle, ⟨h2, h1⟩, hp⟩ => ⟨⟨h2, fun _ => hle _ h1⟩, wpAny2_mono hle _ _ _ _ (planV_sound hs hQ r S1' _ _ a' w' (hc.set hr) h2 (fun _ => h1) (fun h => by cases h) hi.2 hb5 hz' hp)⟩) h) id
        · rename_i hw
          rw [if_neg hw]
          exact ⟨⟨hS2, fun _ => hS1 rfl⟩, planV_sound hs hQ r S1 _ _ _ w (hc.set hr) hS2 hS1 (fun h => by cases h) hi.2 hb5 hz' h⟩
      | k + 3, h, hb =>
        simp only [planTB, Bool.and_eq_true, beq_iff_eq] at hb
        obtain ⟨⟨hb3, hb2⟩, hb5⟩ := hb
        have hr : i ∈ Region.ready .any l.toArray listed := by rw [hb2]; simp
        have hno : ¬ NoE (fun j => EL.contains j) (listed.setIfInBounds i true) := fun hn => by
          have := hn i hb3
          rw [hset] at this
          cases this
        refine ⟨fun h0 => by (rw [h0] at hr; cases hr), fun j hj => ?_⟩
        obtain rfl : j = i := by rw [hb2] at hj; simpa using hj
        unfold wpOp
        rw [drop_head hd]
        simp only
        unfold PlanV at h
        split at h
        · rename_i hw
          rw [if_pos hw]
          exact h.imp (fun h => Oper.wp_mono (fun a' w' ⟨h2, hp⟩ => ⟨⟨h2, fun hn => absurd hn hno⟩, planV_sound hs hQ r S1 true _ a' w' (hc.set hr) h2 (fun h => by cases h) (fun _ => ⟨j, hb3, hset⟩) hi.2 hb5 hz' hp⟩) h) id
        · rename_i hw
          rw [if_neg hw]
          exact ⟨⟨hS2, fun hn => absurd hn hno⟩, planV_sound hs hQ r S1 true _ _ w (hc.set hr) hS2 (fun h => by cases h) (fun _ => ⟨j, hb3, hset⟩) hi.2 hb5 hz' h⟩

/-- **The region**, by a plan; 'EL': the last ones. (It must be shown not to panic.) -/
theorem wp_region_three {l : List Oper} {id : Nat} {a : Act} {w : World} (S1 S2 : World → Prop) (p : List (Nat × Nat)) (EL : List Nat) (hm : P.follows .mixedOrders = true) (hs : Region.noSelect l.toArray = true) (hn : (p.length == l.toArray.size) = true)
    (hi : (p.all fun x => decide (x.2 < l.length)) = true) (hb : planTB l.toArray EL false p (Array.replicate l.toArray.size false) = true) (h1 : S1 w.drew) (h2 : S2 w.drew)
    (h : PlanV P l.toArray (NoPanic Q) S2 S1 (planT l p) a w.drew) : (Code.region id l.toArray true).wp P Q a w := by
  refine wp_region_noPanic ?_
  refine wp_region_any hm ?_
  have h1 := planV_sound (S2 := S2) (EL := EL) hs (Q := NoPanic Q) (fun _ _ _ _ h => h) p S1 false _ a w.drew (Closed.start _) h2 (fun _ => h1) (fun h => by cases h) hi hb (by simp) h
  rw [beq_iff_eq.1 hn] at h1
  exact wpAny_of_two _ _ _ _ h1

theorem PlanV.take0 {o : Oper} {r : List (Nat × Oper)} {a : Act} {w : World} {v : Value} (hw : Region.wanted o (yielded ops a.tmps) = true)
    (hy : ∀ w', S1 w' → (execOp a.eval o).run P w' = .ok (.value v) w') (h : PlanV P ops Q S2 S1 r (a.put o.dst v) w) : PlanV P ops Q S2 S1 ((0, o) :: r) a w :=
  ⟨v, .inl ⟨hw, hy⟩, h⟩
theorem PlanV.take1 {o : Oper} {r : List (Nat × Oper)} {a : Act} {w : World} {v : Value} (hw : Region.wanted o (yielded ops a.tmps) = true)
    (hy : ∀ w', S2 w' → (execOp a.eval o).run P w' = .ok (.value v) w') (h : PlanV P ops Q S2 S1 r (a.put o.dst v) w) : PlanV P ops Q S2 S1 ((1, o) :: r) a w :=
  ⟨v, .inl ⟨hw, hy⟩, h⟩
/-- Carried out; from there on the class is 'T' as well. -/
theorem PlanV.exec2 {o : Oper} {r : List (Nat × Oper)} {a : Act} {w : World}
    (h : ∀ K : Act → World → Prop, Shut (∀ a w' (T : World → Prop), S1 w' → T w' → S2 w' → PlanV P ops Q S2 (fun z => S1 z ∧ T z) r a w' → K a w') → Region.wanted o (yielded ops a.tmps) = true ∧ Oper.wp P o a w K Q) : PlanV P ops Q S2 S1 ((2, o) :: r) a w := by
  have := h (fun a' w' => ∃ S1' : World → Prop, (∀ z, S1' z → S1 z) ∧ (S2 w' ∧ S1' w') ∧ PlanV P ops Q S2 S1' r a' w') (fun a w' T h1 hT h2 hP => ⟨fun z => S1 z ∧ T z, fun z h => h.1, ⟨h2, h1, hT⟩, hP⟩)
  unfold PlanV
  rw [if_pos this.1]
  exact .inl this.2
theorem PlanV.exec3 {o : Oper} {r : List (Nat × Oper)} {a : Act} {w : World}
    (h : ∀ K : Act → World → Prop, Shut (∀ a w', S2 w' → PlanV P ops Q S2 S1 r a w' → K a w') → Region.wanted o (yielded ops a.tmps) = true ∧ Oper.wp P o a w K Q) : PlanV P ops Q S2 S1 ((3, o) :: r) a w := by
  have := h (fun a' w' => S2 w' ∧ PlanV P ops Q S2 S1 r a' w') (fun a w' h2 hT => ⟨h2, hT⟩)
  unfold PlanV
  rw [if_pos this.1]
  exact .inl this.2
theorem PlanV.done {a : Act} {w : World} (h : Q .normal a w) : PlanV P ops Q S2 S1 [] a w := h
end
end Go.Proofs.YteeikmpfgbfeoaaGreat

/-
  A region whose order is open, by a plan that is a tree: where one of two comes up next, there is a plan for either.
-/
namespace Go.Proofs.YteeikmpfgbfeoaaGreat
open Go.RowKit
section
variable {P : Program} {ops : Array Oper} {Q : Exit → Act → World → Prop} {S1 S2 : World → Prop} {E : Nat → Bool}

/-- A plan: 'op k i': the i-th operation (k: 0, 1: taken, 2: carried out, 3: one of the last ones); 'fork i j': either of two is carried out next. -/
inductive PT where
  | fin : PT
  | op : Nat → Nat → PT → PT
  | fork : Nat → Nat → PT → PT → PT
def PT.len : PT → Nat
  | .fin => 0
  | .op _ _ r => r.len + 1
  | .fork _ _ p _ => p.len + 1
def PT.lt (n : Nat) : PT → Bool
  | .fin => true
  | .op _ i r => decide (i < n) && r.lt n
  | .fork i j p q => decide (i < n) && (decide (j < n) && (p.lt n && (q.lt n && p.len == q.len)))
/-- .. of operations. -/
inductive PO where
  | fin : PO
  | op : Nat → Oper → PO → PO
  | fork : Oper → Oper → PO → PO → PO
def planX (l : List Oper) : PT → PO
  | .fin => .fin
  | .op k i r => match l.drop i with
    | o :: _ => .op k o (planX l r)
    | [] => .fin
  | .fork i j p q => match l.drop i with
    | o :: _ => (match l.drop j with
      | o' :: _ => .fork o o' (planX l p) (planX l q)
      | [] => .fin)
    | [] => .fin
/-- May it go so? ('b': the last ones have begun.) -/
def planXB (ops : Array Oper) (E : List Nat) : Bool → PT → Array Bool → Bool
  | _, .fin, listed => (Region.ready .any ops listed).isEmpty
  | b, .op 0 i r, listed => !b && Region.free .any ops listed i && (Region.ready .any ops listed).contains i && !E.contains i && E.all (fun j => needs ops ops.size j i) && planXB ops E b r (listed.setIfInBounds i true)
  | b, .op 1 i r, listed => Region.free .any ops listed i && (Region.ready .any ops listed).contains i && !E.contains i && planXB ops E b r (listed.setIfInBounds i true)
  | b, .op 2 i r, listed => !b && !E.contains i && (Region.ready .any ops listed == [i]) && planXB ops E b r (listed.setIfInBounds i true)
  | _, .op (_ + 3) i r, listed => E.contains i && (Region.ready .any ops listed == [i]) && planXB ops E true r (listed.setIfInBounds i true)
  | b, .fork i j p q, listed => !b && (!E.contains i && (!E.contains j && ((Region.ready .any ops listed == [i, j]) && (planXB ops E b p (listed.setIfInBounds i true) && planXB ops E b q (listed.setIfInBounds j true)))))

def PlanX (P : Program) (ops : Array Oper) (Q : Exit → Act → World → Prop) (S2 : World → Prop) : (World → Prop) → PO → Act → World → Prop
  | _, .fin, a, w => Q .normal a w
  | S1, .op 0 o r, a, w => ∃ v : Value, YieldsIf P ops S1 o v a ∧ PlanX P ops Q S2 S1 r (a.put o.dst v) w
  | S1, .op 1 o r, a, w => ∃ v : Value, YieldsIf P ops S2 o v a ∧ PlanX P ops Q S2 S1 r (a.put o.dst v) w
  | S1, .op 2 o r, a, w => if Region.wanted o (yielded ops a.tmps) then o.wp P a w (fun a' w' => ∃ S1' : World → Prop, (∀ z, S1' z → S1 z) ∧ (S2 w' ∧ S1' w') ∧ PlanX P ops Q S2 S1' r a' w') Q ∨ (o.asks P a w ∧ LetsOut Q) else PlanX P ops Q S2 S1 r (a.put o.dst undef) w
  | S1, .op (_ + 3) o r, a, w => if Region.wanted o (yielded ops a.tmps) then o.wp P a w (fun a' w' => S2 w' ∧ PlanX P ops Q S2 S1 r a' w') Q ∨ (o.asks P a w ∧ LetsOut Q) else PlanX P ops Q S2 S1 r (a.put o.dst undef) w
  | S1, .fork o1 o2 p q, a, w =>
    (if Region.wanted o1 (yielded ops a.tmps) then o1.wp P a w (fun a' w' => ∃ S1' : World → Prop, (∀ z, S1' z → S1 z) ∧ (S2 w' ∧ S1' w') ∧ PlanX P ops Q S2 S1' p a' w') Q ∨ (o1.asks P a w ∧ LetsOut Q) else PlanX P ops Q S2 S1 p (a.put o1.dst undef) w) ∧
    (if Region.wanted o2 (yielded ops a.tmps) then o2.wp P a w (fun a' w' => ∃ S1' : World → Prop, (∀ z, S1' z → S1 z) ∧ (S2 w' ∧ S1' w') ∧ PlanX P ops Q S2 S1' q a' w') Q ∨ (o2.asks P a w ∧ LetsOut Q) else PlanX P ops Q S2 S1 q (a.put o2.dst undef) w)

theorem planX_sound {l : List Oper} {EL : List Nat} (hs : Region.noSelect l.toArray = true) (hQ : ∀ (c : List PanicEntry) (a a' : Act) (w : World), Q (.panic c) a' w → Q (.panic c) a w) :
    ∀ (p : PT) (S1 : World → Prop) (b : Bool) (listed : Array Bool) (a : Act) (w : World), Closed l.toArray listed → S2 w → (b = false → S1 w) → (b = true → ∃ j, EL.contains j = true ∧ listed.getD j false = true) → p.lt l.length = true → planXB l.toArray EL b p listed = true → (listed.size = l.length) →
      PlanX P l.toArray Q S2 S1 (planX l p) a w → wpAny2 P l.toArray Q S1 S2 (fun j => EL.contains j) p.len listed a w
  | .fin, _, b, listed, a, w, _, _, _, _, _, hb, _, h => by
    have hb' : Region.ready .any l.toArray listed = [] := by simpa [planXB] using hb
    exact ⟨hb', h⟩
  | .fork i j p q, S1, b, listed, a, w, hc, hS2, hS1, hE, hi, hb, hz, h => by
    simp only [PT.lt, Bool.and_eq_true, decide_eq_true_eq, beq_iff_eq] at hi
    obtain ⟨hi1, hi2, hip, hiq, hpq⟩ := hi
    simp only [planXB, Bool.and_eq_true, Bool.not_eq_true', beq_iff_eq] at hb
    obtain ⟨hb0, _, _, hb2, hbp, hbq⟩ := hb
    subst hb0
    unfold planX at h
    split at h
    case h_2 hd =>
      have := congrArg List.length hd
      simp at this
      omega
    case h_1 o t hd =>
      split at h
      case h_2 hd2 =>
        have := congrArg List.length hd2
        simp at this
        omega
      case h_1 o2 t2 hd2 =>
        obtain ⟨h1, h2⟩ := h
        refine ⟨fun h0 => by (rw [hb2] at h0; cases h0), fun k hk => ?_⟩
        have hr : k ∈ Region.ready .any l.toArray listed := hk
        rw [hb2] at hk
        have hk' : k = i ∨ k = j := by simpa using hk
        rcases hk' with rfl | rfl
        · unfold wpOp
          rw [drop_head hd]
          simp only
          split at h1
          · rename_i hw
            rw [if_pos hw]
            exact h1.imp (fun h => Oper.wp_mono (fun a' w' ⟨S1', hle, ⟨h2, h1⟩, hp⟩ => ⟨⟨h2, fun _ => hle _ h1⟩, wpAny2_mono hle _ _ _ _ (planX_sound hs hQ p S1' _ _ a' w' (hc.set hr) h2 (fun _ => h1) (fun h => by cases h) hip hbp (by simpa using hz) hp)⟩) h) id
          · rename_i hw
            rw [if_neg hw]
            exact ⟨⟨hS2, fun _ => hS1 rfl⟩, planX_sound hs hQ p S1 _ _ _ w (hc.set hr) hS2 hS1 (fun h => by cases h) hip hbp (by simpa using hz) h1⟩
        · unfold wpOp
          rw [drop_head hd2]
          simp only
          show (if _ then _ else _)
          rw [show PT.len p = PT.len q from hpq]
          split at h2
          · rename_i hw
            rw [if_pos hw]
            exact h2.imp (fun h => Oper.wp_mono (fun a' w' ⟨S1', hle, ⟨h2, h1⟩, hp⟩ => ⟨⟨h2, fun _ => hle _ h1⟩, wpAny2_mono hle _ _ _ _ (planX_sound hs hQ q S1' _ _ a' w' (hc.set hr) h2 (fun _ => h1) (fun h => by cases h) hiq hbq (by simpa using hz) hp)⟩) h) id
          · rename_i hw
            rw [if_neg hw]
            exact ⟨⟨hS2, fun _ => hS1 rfl⟩, planX_sound hs hQ q S1 _ _ _ w (hc.set hr) hS2 hS1 (fun h => by cases h) hiq hbq (by simpa using hz) h2⟩
  | .op k i r, S1, b, listed, a, w, hc, hS2, hS1, hE, hi, hb, hz, h => by
    simp only [PT.lt, Bool.and_eq_true, decide_eq_true_eq] at hi
    have hz' : (listed.setIfInBounds i true).size = l.length := by simpa using hz
    have hset : (listed.setIfInBounds i true).getD i false = true := by simp [hz, hi.1]
    have hS1' : NoE (fun j => EL.contains j) listed → S1 w := fun hn => by
      cases b with
      | false => exact hS1 rfl
      | true =>
        obtain ⟨j, h1, h2⟩ := hE rfl
        rw [hn j h1] at h2
        cases h2
    unfold planX at h
    split at h
    case h_2 hd =>
      have := congrArg List.length hd
      simp at this
      omega
    case h_1 o t hd =>
      match k, h, hb with
      | 0, h, hb =>
        simp only [planXB, Bool.and_eq_true, Bool.not_eq_true', List.all_eq_true] at hb
        obtain ⟨v, hy, h⟩ := h
        obtain ⟨⟨⟨⟨⟨hb0, hb1⟩, hb2⟩, hb3⟩, hb4⟩, hb5⟩ := hb
        subst hb0
        have hr : i ∈ Region.ready .any l.toArray listed := by simpa using hb2
        exact first1 (drop_head hd) (Region.noSelect_spec hs) (fun c a w h => hQ c _ _ w h) hb3 (fun j hj => hb4 j (by simpa using hj)) _ listed a w hc (Region.free_spec (drop_head hd) hb1) hr hy hS2 (hS1 rfl)
          (planX_sound hs hQ r S1 _ _ _ w (hc.set hr) hS2 hS1 (fun h => by cases h) hi.2 hb5 hz' h)
      | 1, h, hb =>
        simp only [planXB, Bool.and_eq_true, Bool.not_eq_true'] at hb
        obtain ⟨v, hy, h⟩ := h
        obtain ⟨⟨⟨hb1, hb2⟩, hb3⟩, hb5⟩ := hb
        have hr : i ∈ Region.ready .any l.toArray listed := by simpa using hb2
        exact first2 (drop_head hd) (Region.noSelect_spec hs) (fun c a w h => hQ c _ _ w h) hb3 _ listed a w hc (Region.free_spec (drop_head hd) hb1) hr hy hS2 hS1'
          (planX_sound hs hQ r S1 b _ _ w (hc.set hr) hS2 hS1 (fun h => by obtain ⟨j, h1, h2⟩ := hE h; exact ⟨j, h1, getD_set_true h2⟩) hi.2 hb5 hz' h)
      | 2, h, hb =>
        simp only [planXB, Bool.and_eq_true, Bool.not_eq_true', beq_iff_eq] at hb
        obtain ⟨⟨⟨hb0, hb3⟩, hb2⟩, hb5⟩ := hb
        subst hb0
        have hr : i ∈ Region.ready .any l.toArray listed := by rw [hb2]; simp
        refine ⟨fun h0 => by (rw [h0] at hr; cases hr), fun j hj => ?_⟩
        obtain rfl : j = i := by rw [hb2] at hj; simpa using hj
        unfold wpOp
        rw [drop_head hd]
        simp only
        unfold PlanX at h
        split at h
        · rename_i hw
          rw [if_pos hw]
          exact h.imp (fun h => Oper.wp_mono (fun a' w' ⟨S1', hle, ⟨h2, h1⟩, hp⟩ => ⟨⟨h2, fun _ => hle _ h1⟩, wpAny2_mono hle _ _ _ _ (planX_sound hs hQ r S1' _ _ a' w' (hc.set hr) h2 (fun _ => h1) (fun h => by cases h) hi.2 hb5 hz' hp)⟩) h) id
        · rename_i hw
          rw [if_neg hw]
          exact ⟨⟨hS2, fun _ => hS1 rfl⟩, planX_sound hs hQ r S1 _ _ _ w (hc.set hr) hS2 hS1 (fun h => by cases h) hi.2 hb5 hz' h⟩
      | k + 3, h, hb =>
        simp only [planXB, Bool.and_eq_true, beq_iff_eq] at hb
        obtain ⟨⟨hb3, hb2⟩, hb5⟩ := hb
        have hr : i ∈ Region.ready .any l.toArray listed := by rw [hb2]; simp
        have hno : ¬ NoE (fun j => EL.contains j) (listed.setIfInBounds i true) := fun hn => by
          have := hn i hb3
          rw [hset] at this
          cases this
        refine ⟨fun h0 => by (rw [h0] at hr; cases hr), fun j hj => ?_⟩
        obtain rfl : j = i := by rw [hb2] at hj; simpa using hj
        unfold wpOp
        rw [drop_head hd]
        simp only
        unfold PlanX at h
        split at h
        · rename_i hw
          rw [if_pos hw]
          exact h.imp (fun h => Oper.wp_mono (fun a' w' ⟨h2, hp⟩ => ⟨⟨h2, fun hn => absurd hn hno⟩, planX_sound hs hQ r S1 true _ a' w' (hc.set hr) h2 (fun h => by cases h) (fun _ => ⟨j, hb3, hset⟩) hi.2 hb5 hz' hp⟩) h) id
        · rename_i hw
          rw [if_neg hw]
          exact ⟨⟨hS2, fun hn => absurd hn hno⟩, planX_sound hs hQ r S1 true _ _ w (hc.set hr) hS2 (fun h => by cases h) (fun _ => ⟨j, hb3, hset⟩) hi.2 hb5 hz' h⟩

/-- **The region**, by a plan that is a tree; 'EL': the last ones. (It must be shown not to panic.) -/
theorem wp_region_tree {l : List Oper} {id : Nat} {a : Act} {w : World} (S1 S2 : World → Prop) (p : PT) (EL : List Nat) (hm : P.follows .mixedOrders = true) (hs : Region.noSelect l.toArray = true) (hn : (p.len == l.toArray.size) = true)
    (hi : p.lt l.length = true) (hb : planXB l.toArray EL false p (Array.replicate l.toArray.size false) = true) (h1 : S1 w.drew) (h2 : S2 w.drew)
    (h : PlanX P l.toArray (NoPanic Q) S2 S1 (planX l p) a w.drew) : (Code.region id l.toArray true).wp P Q a w := by
  refine wp_region_noPanic ?_
  refine wp_region_any hm ?_
  have h1 := planX_sound (S2 := S2) (EL := EL) hs (Q := NoPanic Q) (fun _ _ _ _ h => h) p S1 false _ a w.drew (Closed.start _) h2 (fun _ => h1) (fun h => by cases h) hi hb (by simp) h
  rw [beq_iff_eq.1 hn] at h1
  exact wpAny_of_two _ _ _ _ h1

theorem PlanX.take0 {o : Oper} {r : PO} {a : Act} {w : World} {v : Value} (hw : Region.wanted o (yielded ops a.tmps) = true)
    (hy : ∀ w', S1 w' → (execOp a.eval o).run P w' = .ok (.value v) w') (h : PlanX P ops Q S2 S1 r (a.put o.dst v) w) : PlanX P ops Q S2 S1 (.op 0 o r) a w :=
  ⟨v, .inl ⟨hw, hy⟩, h⟩
theorem PlanX.take1 {o : Oper} {r : PO} {a : Act} {w : World} {v : Value} (hw : Region.wanted o (yielded ops a.tmps) = true)
    (hy : ∀ w', S2 w' → (execOp a.eval o).run P w' = .ok (.value v) w') (h : PlanX P ops Q S2 S1 r (a.put o.dst v) w) : PlanX P ops Q S2 S1 (.op 1 o r) a w :=
  ⟨v, .inl ⟨hw, hy⟩, h⟩
/-- Carried out; from there on the class is 'T' as well. -/
theorem PlanX.exec2 {o : Oper} {r : PO} {a : Act} {w : World}
    (h : ∀ K : Act → World → Prop, Shut (∀ a w' (T : World → Prop), S1 w' → T w' → S2 w' → PlanX P ops Q S2 (fun z => S1 z ∧ T z) r a w' → K a w') → Region.wanted o (yielded ops a.tmps) = true ∧ Oper.wp P o a w K Q) : PlanX P ops Q S2 S1 (.op 2 o r) a w := by
  have := h (fun a' w' => ∃ S1' : World → Prop, (∀ z, S1' z → S1 z) ∧ (S2 w' ∧ S1' w') ∧ PlanX P ops Q S2 S1' r a' w') (fun a w' T h1 hT h2 hP => ⟨fun z => S1 z ∧ T z, fun z h => h.1, ⟨h2, h1, hT⟩, hP⟩)
  unfold PlanX
  rw [if_pos this.1]
  exact .inl this.2
theorem PlanX.exec3 {o : Oper} {r : PO} {a : Act} {w : World}
    (h : ∀ K : Act → World → Prop, Shut (∀ a w', S2 w' → PlanX P ops Q S2 S1 r a w' → K a w') → Region.wanted o (yielded ops a.tmps) = true ∧ Oper.wp P o a w K Q) : PlanX P ops Q S2 S1 (.op 3 o r) a w := by
  have := h (fun a' w' => S2 w' ∧ PlanX P ops Q S2 S1 r a' w') (fun a w' h2 hT => ⟨h2, hT⟩)
  unfold PlanX
  rw [if_pos this.1]
  exact .inl this.2
theorem PlanX.both {o1 o2 : Oper} {p q : PO} {a : Act} {w : World} (h1 : PlanX P ops Q S2 S1 (.op 2 o1 p) a w) (h2 : PlanX P ops Q S2 S1 (.op 2 o2 q) a w) : PlanX P ops Q S2 S1 (.fork o1 o2 p q) a w := by
  unfold PlanX at h1 h2
  unfold PlanX
  exact ⟨h1, h2⟩
theorem PlanX.skip {k : Nat} {o : Oper} {r : PO} {a : Act} {w : World} (hw : Region.wanted o (yielded ops a.tmps) = false) (hk : 2 ≤ k) (h : PlanX P ops Q S2 S1 r (a.put o.dst undef) w) : PlanX P ops Q S2 S1 (.op k o r) a w := by
  match k, hk with
  | 2, _ => unfold PlanX; rw [if_neg (by rw [hw]; simp)]; exact h
  | k + 3, _ => unfold PlanX; rw [if_neg (by rw [hw]; simp)]; exact h
theorem PlanX.done {a : Act} {w : World} (h : Q .normal a w) : PlanX P ops Q S2 S1 .fin a w := h
end
end Go.Proofs.YteeikmpfgbfeoaaGreat

/-
  sort.Search: of any question that a closure answers.
-/
namespace Go.Proofs.YteeikmpfgbfeoaaGreat
open Go.RowKit

set_option maxRecDepth 100000 in
set_option maxHeartbeats 400000 in
theorem search_any (n : Nat) (hn : n ≤ 1000000000) (p : Nat → Bool) (k : Nat) (caps : Array Value) (hen : Enters Tryz.prog k) (w : World)
    (hf : ∀ (i : Nat) wz, i < n → Below w.heap.size w wz → Calls Tryz.prog k (#[.int .i64 (i : Int)] ++ caps) wz fun e w' => e = .returned (.bool (p i)) ∧ Below wz.heap.size wz w') :
    Calls Tryz.prog 71 #[.int .i64 (n : Int), .func (.func k) #[] caps] w fun e w' => ∃ m : Nat, m ≤ n ∧ e = .returned (.int .i64 (m : Int)) ∧ (0 < m → p (m - 1) = false) ∧ (m < n → p m = true) ∧ Below w.heap.size w w' := by
  have HF := Lib.hid hf
  unfold Enters at hen
  clear hf
  go_enter Tryz.func71, Tryz.ntmps71
  go_wp2
  go_loopw [5, 6] (fun x y wr => ∃ i j : Nat, i ≤ j ∧ j ≤ n ∧ x = .int .i64 (i : Int) ∧ y = .int .i64 (j : Int) ∧ Hid (0 < i → p (i - 1) = false) ∧ Hid (j < n → p j = true) ∧ Hid (Below w.heap.size w wr)) (fun x y _ => (intOf y).toNat - (intOf x).toNat)
  case atStart => exact ⟨0, n, Nat.zero_le _, Nat.le_refl _, rfl, rfl, Lib.hid (fun h => by omega), Lib.hid (fun h => by omega), Lib.hid (Below.refl _ _)⟩
  case round =>
    obtain ⟨i, j, hij, hjn, rfl, rfl, HI, HJ, HB⟩ := hrel
    by_cases hlt : i < j
    · obtain ⟨h, hh⟩ : ∃ h : Nat, h = (i + j) / 2 := ⟨_, rfl⟩
      have h1 : i ≤ h := by omega
      have h2 : h < j := by omega
      have hin : h < n := by omega
      have HFH := HF.out h wr hin HB.out
      rw [show (h : Int) = ((i : Int) + (j : Int)) / 2 by omega] at HFH
      replace HFH := Lib.hid HFH
      cases hp : p h with
      | false =>
        rw [hp] at HFH
        have HP := Lib.hid hp
        clear hp
        go_wp2_with (go_at_fn k; (refine HFH.out.mono ?_); rintro e w' ⟨rfl, hb⟩; have HBN := Lib.hid hb; clear hb)
        refine ⟨⟨h + 1, j, h2, hjn, by go_num, rfl, Lib.hid (fun _ => HP.out), HJ, Lib.hid (HB.out.trans (HBN.out.mono HB.out.size))⟩, by simp [intOf]; omega⟩
      | true =>
        rw [hp] at HFH
        have HP := Lib.hid hp
        clear hp
        go_wp2_with (go_at_fn k; (refine HFH.out.mono ?_); rintro e w' ⟨rfl, hb⟩; have HBN := Lib.hid hb; clear hb)
        refine ⟨⟨i, h, h1, by omega, rfl, congrArg (Value.int .i64) (by omega), HI, Lib.hid (fun _ => HP.out), Lib.hid (HB.out.trans (HBN.out.mono HB.out.size))⟩, by simp [intOf]; omega⟩
    · have : i = j := by omega
      subst this
      go_wp2
      go_ret
      exact ⟨i, hjn, rfl, HI.out, HJ.out, HB.out⟩
end Go.Proofs.YteeikmpfgbfeoaaGreat

/-
  Blocks: where Seek begins: the closures that halving asks.
-/
namespace Go.Proofs.YteeikmpfgbfeoaaGreat
open Go.RowKit

theorem enters_whole : Enters Tryz.prog 102 := enters_of Tryz.func102 (by kernel_rfl) rfl
theorem enters_low : Enters Tryz.prog 103 := enters_of Tryz.func103 (by kernel_rfl) rfl

set_option maxRecDepth 100000 in
set_option maxHeartbeats 400000 in
theorem whole_any (t : List UInt8) (ya : Option Addr) (yc q i : Nat) (w : World) (hq : w.heap[q]? = some (.cells #[.slice ya t.length yc] 24 (0, 0))) (hy : RdB w (.slice ya t.length yc) t) (hi : 4 * i + 4 ≤ t.length) :
    Calls Tryz.prog 102 #[.int .i64 (i : Int), .pointer (some ⟨q, 0, none⟩)] w fun e w' => e = .returned (.int .i64 (valL ((t.drop (4 * i)).take 4) : Int)) ∧ Below w.heap.size w w' := by
  obtain ⟨_, _, hv, hc1, hc2⟩ := hy.form
  cases hv
  unfold maxLen at hc2
  have HF := Lib.hid (getFixed_yes (.slice ya t.length yc) t (4 * i) 4 (by omega) (by omega) w hy)
  have c0 := blk_cell (i := 0) hq
  replace c0 : w.cell? ⟨q, 0, none⟩ = some (.slice ya t.length yc) := c0
  have e1 : IntKind.i64.wrap (4 * (i : Int)) = ((4 * i : Nat) : Int) := by rw [IntWalk.i64_in _ (by omega)]; omega
  clear hy hq hc1
  generalize valL ((t.drop (4 * i)).take 4) = n at *
  generalize 4 * i = m at *
  go_enter Tryz.func102, Tryz.ntmps102
  go_wp2_with (go_at_call 64; (refine HF.out.mono ?_); rintro e w1 ⟨rfl, rfl⟩)
  go_ret
  exact ⟨rfl, Below.refl _ _⟩

set_option maxRecDepth 100000 in
set_option maxHeartbeats 400000 in
theorem low_any (c t : List UInt8) (xa ya : Option Addr) (tf : TypeId) (xc yc qx qy qf qk i : Nat) (u : ByteArray) (s k : Int) (w : World) (hu : u.size ≤ maxLen)
    (hx : w.heap[qx]? = some (.cells #[.slice xa c.length xc] 24 (0, 0))) (hf : w.heap[qf]? = some (.cells #[.func (.func 102) #[] #[.pointer (some ⟨qy, 0, none⟩)]] tf (0, 0)))
    (hy : w.heap[qy]? = some (.cells #[.slice ya t.length yc] 24 (0, 0))) (hk : w.heap[qk]? = some (.cells #[.string u, .int .i64 s, .int .i64 k] 37 (0, 0)))
    (rx : RdB w (.slice xa c.length xc) c) (ry : RdB w (.slice ya t.length yc) t) (hi : 4 * i + 4 ≤ t.length) (X : Ent) (g : Nat) (hX : X.u.size ≤ maxLen) (hr : readP c [] (valL ((t.drop (4 * i)).take 4)) = some (X, g)) :
    Calls Tryz.prog 103 #[.int .i64 (i : Int), .pointer (some ⟨qx, 0, none⟩), .pointer (some ⟨qf, 0, none⟩), .pointer (some ⟨qk, 0, none⟩)] w fun e w' => e = .returned (.bool (decide (0 ≤ X.cmp ⟨u, s, k, ⟨#[]⟩⟩))) ∧ Below w.heap.size w w' := by
  have HW : Hid (∀ wz, Below w.heap.size w wz → Calls Tryz.prog 102 #[.int .i64 (i : Int), .pointer (some ⟨qy, 0, none⟩)] wz fun e w' => e = .returned (.int .i64 (valL ((t.drop (4 * i)).take 4) : Int)) ∧ Below wz.heap.size wz w') := Lib.hid fun wz hz =>
    whole_any t ya yc qy i wz ((hz.block _ (blk_lt hy)).trans hy) (ry.below hz (Nat.le_refl _)) hi
  obtain ⟨xu, xs, xk, xv⟩ := X
  generalize valL ((t.drop (4 * i)).take 4) = p at *
  have HRD : Hid (∀ wz, Below w.heap.size w wz → Calls Tryz.prog 94 #[.slice xa c.length xc, .int .i64 (p : Int), .string ⟨#[]⟩] wz fun e w' => e = .returned (.tuple #[.agg #[.string xu, .int .i64 xs, .int .i64 xk, .string xv], .int .i64 (g : Int), .bool true]) ∧ Below wz.heap.size wz w') := Lib.hid fun wz hz => by
    have h := read_any (.slice xa c.length xc) c ⟨#[]⟩ p wz (rx.below hz (Nat.le_refl _)) (by simp [ByteArray.size])
    rw [show (⟨#[]⟩ : ByteArray).data.toList = [] from rfl, hr] at h
    exact h
  have HCM : Hid (∀ wz, Calls Tryz.prog 40 #[.agg #[.string xu, .int .i64 xs, .int .i64 xk], .agg #[.string u, .int .i64 s, .int .i64 k]] wz fun e w' => e = .returned (.int .i64 ((⟨xu, xs, xk, xv⟩ : Ent).cmp ⟨u, s, k, ⟨#[]⟩⟩)) ∧ Below wz.heap.size wz w') := Lib.hid fun wz => cmp_any xu xs xk u s k hX hu wz
  generalize (⟨xu, xs, xk, xv⟩ : Ent).cmp ⟨u, s, k, ⟨#[]⟩⟩ = cm at *
  have cx := blk_cell (i := 0) hx
  replace cx : w.cell? ⟨qx, 0, none⟩ = some (.slice xa c.length xc) := cx
  have cf := blk_cell (i := 0) hf
  replace cf : w.cell? ⟨qf, 0, none⟩ = some (.func (.func 102) #[] #[.pointer (some ⟨qy, 0, none⟩)]) := cf
  have HQX := Lib.hid (blk_lt hx)
  have HQF := Lib.hid (blk_lt hf)
  have HQK := Lib.hid (blk_lt hk)
  have HK := Lib.hid hk
  have hen := enters_whole
  unfold Enters at hen
  clear hx hf hy hk rx ry hi hr hu hX
  go_enter Tryz.func103, Tryz.ntmps103
  go_upto_region 1 with (fail)
  refine wp_region_tree (fun wz => Below w.heap.size w wz) (fun wz => Below w.heap.size w wz) (.op 0 0 (.op 0 1 (.op 0 2 (.fork 3 9 (.fork 4 9 (.op 0 5 (.op 0 6 (.op 1 7 (.op 1 8 (.op 2 9 (.op 3 10 (.op 1 11 (.op 1 12 .fin)))))))) (.op 2 4 (.op 0 5 (.op 0 6 (.op 1 7 (.op 1 8 (.op 3 10 (.op 1 11 (.op 1 12 .fin))))))))) (.op 2 3 (.op 2 4 (.op 0 5 (.op 0 6 (.op 1 7 (.op 1 8 (.op 3 10 (.op 1 11 (.op 1 12 .fin))))))))))))) [10] (by kernel_rfl) (by kernel_rfl) (by kernel_rfl) (by kernel_rfl) (by kernel_rfl) (Below.refl _ _).drew (Below.refl _ _).drew ?_
  simp only [planX, List.drop_succ_cons, List.drop_zero]
  refine PlanX.take0 (v := .slice xa c.length xc) (by kernel_rfl) ?yT0 ?rT0
  case yT0 => (intro wz hz; have c0 := (hz.cell (p := ⟨qx, 0, none⟩) HQX.out).trans cx; go_simp; try with_reducible rfl)
  (try simp only [Act.put, List.setIfInBounds_toArray, List.set_cons_zero, List.set_cons_succ])
  refine PlanX.take0 (v := .func (.func 102) #[] #[.pointer (some ⟨qy, 0, none⟩)]) (by kernel_rfl) ?yT1 ?rT1
  case yT1 => (intro wz hz; have c0 := (hz.cell (p := ⟨qf, 0, none⟩) HQF.out).trans cf; go_simp; try with_reducible rfl)
  (try simp only [Act.put, List.setIfInBounds_toArray, List.set_cons_zero, List.set_cons_succ])
  refine PlanX.take0 (v := ?vT2) (by kernel_rfl) ?yT2 ?rT2
  case yT2 => (intro wz hz; go_simp; try with_reducible rfl)
  (try simp only [Act.put, List.setIfInBounds_toArray, List.set_cons_zero, List.set_cons_succ])
  refine PlanX.both ?_ ?_
  · skip
    refine PlanX.exec2 (fun K hK => ⟨by kernel_rfl, ?_⟩)
    go_simp
    go_at_fn 102
    refine (HW.out _ (show Below w.heap.size w w.drew from (Below.refl _ _).drew)).mono ?_
    rintro e u3 ⟨rfl, hbc⟩
    have HB3 : Hid (Below w.heap.size w u3) := Lib.hid (((show Below w.heap.size w w.drew from (Below.refl _ _).drew)).trans (hbc.mono ((show Below w.heap.size w w.drew from (Below.refl _ _).drew)).size))
    clear hbc
    go_wp2_with fail
    refine hK.out _ _ (fun _ => True) HB3.out trivial HB3.out ?_
    clear hK K
    (try simp only [Act.put, List.setIfInBounds_toArray, List.set_cons_zero, List.set_cons_succ])
    refine PlanX.both ?_ ?_
    · skip
      refine PlanX.exec2 (fun K hK => ⟨by kernel_rfl, ?_⟩)
      go_simp
      go_at_call 94
      refine (HRD.out _ HB3.out).mono ?_
      rintro e u3_4 ⟨rfl, hbc⟩
      have HB3_4 : Hid (Below w.heap.size w u3_4) := Lib.hid ((HB3.out).trans (hbc.mono (HB3.out).size))
      clear hbc
      go_wp2_with fail
      refine hK.out _ _ (fun _ => True) ⟨HB3_4.out, trivial⟩ trivial HB3_4.out ?_
      clear hK K
      (try simp only [Act.put, List.setIfInBounds_toArray, List.set_cons_zero, List.set_cons_succ])
      refine PlanX.take0 (v := ?v_3_4T5) (by kernel_rfl) ?y_3_4T5 ?r_3_4T5
      case y_3_4T5 => (intro wz hz; go_simp; try with_reducible rfl)
      (try simp only [Act.put, List.setIfInBounds_toArray, List.set_cons_zero, List.set_cons_succ])
      refine PlanX.take0 (v := ?v_3_4T6) (by kernel_rfl) ?y_3_4T6 ?r_3_4T6
      case y_3_4T6 => (intro wz hz; go_simp; try with_reducible rfl)
      (try simp only [Act.put, List.setIfInBounds_toArray, List.set_cons_zero, List.set_cons_succ])
      refine PlanX.take1 (v := ?v_3_4T7) (by kernel_rfl) ?y_3_4T7 ?r_3_4T7
      case y_3_4T7 => (intro wz hz; go_simp; try with_reducible rfl)
      (try simp only [Act.put, List.setIfInBounds_toArray, List.set_cons_zero, List.set_cons_succ])
      refine PlanX.take1 (v := ?v_3_4T8) (by kernel_rfl) ?y_3_4T8 ?r_3_4T8
      case y_3_4T8 => (intro wz hz; go_simp; try with_reducible rfl)
      (try simp only [Act.put, List.setIfInBounds_toArray, List.set_cons_zero, List.set_cons_succ])
      refine PlanX.exec2 (fun K hK => ⟨by kernel_rfl, ?_⟩)
      go_simp
      obtain ⟨u3_4_9, hu⟩ : ∃ u3_4_9, u3_4_9 = (u3_4.alloc (.cells #[.string ⟨#[]⟩, .int .i64 0, .int .i64 0, .string ⟨#[]⟩] 39)) := ⟨_, rfl⟩
      rw [← hu]
      have P3_4_9 := Lib.hid (show u3_4_9.heap[u3_4.heap.size]? = some (.cells #[.string ⟨#[]⟩, .int .i64 0, .int .i64 0, .string ⟨#[]⟩] 39 (0, 0)) by rw [hu]; exact heap_alloc_new u3_4 _)
      have HB3_4_9 : Hid (Below w.heap.size w u3_4_9) := Lib.hid (by rw [hu]; exact HB3_4.out.alloc HB3_4.out.size _)
      clear hu
      refine hK.out _ _ (fun _ => True) ⟨⟨HB3_4_9.out, trivial⟩, trivial⟩ trivial HB3_4_9.out ?_
      clear hK K
      (try simp only [Act.put, List.setIfInBounds_toArray, List.set_cons_zero, List.set_cons_succ])
      refine PlanX.exec3 (fun K hK => ⟨by kernel_rfl, ?_⟩)
      have r0 := blk_cell (i := 0) P3_4_9.out
      have r1 := blk_cell (i := 1) P3_4_9.out
      have r2 := blk_cell (i := 2) P3_4_9.out
      have r3 := blk_cell (i := 3) P3_4_9.out
      have s0 := blk_free (i := 0) P3_4_9.out
      have s1 := blk_free (i := 1) P3_4_9.out
      have s2 := blk_free (i := 2) P3_4_9.out
      have s3 := blk_free (i := 3) P3_4_9.out
      go_simp
      obtain ⟨u9, hu9⟩ : ∃ u9, u9 = (((u3_4_9.setCell ⟨u3_4.heap.size, 0, none⟩ (.string xu)).setCell ⟨u3_4.heap.size, 1, none⟩ (.int .i64 xs)).setCell ⟨u3_4.heap.size, 2, none⟩ (.int .i64 xk)).setCell ⟨u3_4.heap.size, 3, none⟩ (.string xv) := ⟨_, rfl⟩
      rw [← hu9]
      have hst := set4 P3_4_9.out rfl rfl rfl hu9
      have HBX := Lib.hid hst.1
      have HB9 : Hid (Below w.heap.size w u9) := Lib.hid (hst.2 _ (by have := HB3_4.out.size; omega) _ HB3_4_9.out)
      clear hu9 hst r0 r1 r2 r3 s0 s1 s2 s3
      refine hK.out _ _ HB9.out ?_
      clear hK K
      (try simp only [Act.put, List.setIfInBounds_toArray, List.set_cons_zero, List.set_cons_succ])
      refine PlanX.take1 (v := ?v_3_4_9_10T11) (by kernel_rfl) ?y_3_4_9_10T11 ?r_3_4_9_10T11
      case y_3_4_9_10T11 => (intro wz hz; go_simp; try with_reducible rfl)
      (try simp only [Act.put, List.setIfInBounds_toArray, List.set_cons_zero, List.set_cons_succ])
      refine PlanX.take1 (v := ?v_3_4_9_10T12) (by kernel_rfl) ?y_3_4_9_10T12 ?r_3_4_9_10T12
      case y_3_4_9_10T12 => (intro wz hz; go_simp; try with_reducible rfl)
      (try simp only [Act.put, List.setIfInBounds_toArray, List.set_cons_zero, List.set_cons_succ])
      refine PlanX.done (NoPanic.normal ?_)
      obtain ⟨qe, hqe⟩ : ∃ qe, qe = u3_4.heap.size := ⟨_, rfl⟩
      rw [← hqe] at HBX
      rw [← hqe]
      clear hqe
      have r0 := blk_cell (i := 0) HBX.out
      have r1 := blk_cell (i := 1) HBX.out
      have r2 := blk_cell (i := 2) HBX.out
      have k0 := (HB9.out.block _ HQK.out).trans HK.out
      have t0 := blk_cell (i := 0) k0
      have t1 := blk_cell (i := 1) k0
      have t2 := blk_cell (i := 2) k0
      replace r0 : u9.cell? ⟨qe, 0, none⟩ = some (.string xu) := r0
      replace r1 : u9.cell? ⟨qe, 1, none⟩ = some (.int .i64 xs) := r1
      replace r2 : u9.cell? ⟨qe, 2, none⟩ = some (.int .i64 xk) := r2
      replace t0 : u9.cell? ⟨qk, 0, none⟩ = some (.string u) := t0
      replace t1 : u9.cell? ⟨qk, 1, none⟩ = some (.int .i64 s) := t1
      replace t2 : u9.cell? ⟨qk, 2, none⟩ = some (.int .i64 k) := t2
      clear k0
      go_wp2_with (go_at_call 40; (refine (HCM.out _).mono ?_); rintro e w8 ⟨rfl, hb8⟩; have HB8 := Lib.hid (HB9.out.trans (hb8.mono HB9.out.size)); clear hb8)
      go_ret
      exact ⟨rfl, HB8.out⟩
    · skip
      refine PlanX.exec2 (fun K hK => ⟨by kernel_rfl, ?_⟩)
      go_simp
      obtain ⟨u3_9, hu⟩ : ∃ u3_9, u3_9 = (u3.alloc (.cells #[.string ⟨#[]⟩, .int .i64 0, .int .i64 0, .string ⟨#[]⟩] 39)) := ⟨_, rfl⟩
      rw [← hu]
      have P3_9 := Lib.hid (show u3_9.heap[u3.heap.size]? = some (.cells #[.string ⟨#[]⟩, .int .i64 0, .int .i64 0, .string ⟨#[]⟩] 39 (0, 0)) by rw [hu]; exact heap_alloc_new u3 _)
      have HB3_9 : Hid (Below w.heap.size w u3_9) := Lib.hid (by rw [hu]; exact HB3.out.alloc HB3.out.size _)
      clear hu
      refine hK.out _ _ (fun _ => True) ⟨HB3_9.out, trivial⟩ trivial HB3_9.out ?_
      clear hK K
      (try simp only [Act.put, List.setIfInBounds_toArray, List.set_cons_zero, List.set_cons_succ])
      refine PlanX.exec2 (fun K hK => ⟨by kernel_rfl, ?_⟩)
      go_simp
      go_at_call 94
      refine (HRD.out _ HB3_9.out).mono ?_
      rintro e u3_9_4 ⟨rfl, hbc⟩
      have HB3_9_4 : Hid (Below w.heap.size w u3_9_4) := Lib.hid ((HB3_9.out).trans (hbc.mono (HB3_9.out).size))
      have P3_9_4 := Lib.hid ((hbc.block _ (blk_lt P3_9.out)).trans P3_9.out)
      clear hbc
      go_wp2_with fail
      refine hK.out _ _ (fun _ => True) ⟨⟨HB3_9_4.out, trivial⟩, trivial⟩ trivial HB3_9_4.out ?_
      clear hK K
      (try simp only [Act.put, List.setIfInBounds_toArray, List.set_cons_zero, List.set_cons_succ])
      refine PlanX.take0 (v := ?v_3_9_4T5) (by kernel_rfl) ?y_3_9_4T5 ?r_3_9_4T5
      case y_3_9_4T5 => (intro wz hz; go_simp; try with_reducible rfl)
      (try simp only [Act.put, List.setIfInBounds_toArray, List.set_cons_zero, List.set_cons_succ])
      refine PlanX.take0 (v := ?v_3_9_4T6) (by kernel_rfl) ?y_3_9_4T6 ?r_3_9_4T6
      case y_3_9_4T6 => (intro wz hz; go_simp; try with_reducible rfl)
      (try simp only [Act.put, List.setIfInBounds_toArray, List.set_cons_zero, List.set_cons_succ])
      refine PlanX.take1 (v := ?v_3_9_4T7) (by kernel_rfl) ?y_3_9_4T7 ?r_3_9_4T7
      case y_3_9_4T7 => (intro wz hz; go_simp; try with_reducible rfl)
      (try simp only [Act.put, List.setIfInBounds_toArray, List.set_cons_zero, List.set_cons_succ])
      refine PlanX.take1 (v := ?v_3_9_4T8) (by kernel_rfl) ?y_3_9_4T8 ?r_3_9_4T8
      case y_3_9_4T8 => (intro wz hz; go_simp; try with_reducible rfl)
      (try simp only [Act.put, List.setIfInBounds_toArray, List.set_cons_zero, List.set_cons_succ])
      refine PlanX.exec3 (fun K hK => ⟨by kernel_rfl, ?_⟩)
      have r0 := blk_cell (i := 0) P3_9_4.out
      have r1 := blk_cell (i := 1) P3_9_4.out
      have r2 := blk_cell (i := 2) P3_9_4.out
      have r3 := blk_cell (i := 3) P3_9_4.out
      have s0 := blk_free (i := 0) P3_9_4.out
      have s1 := blk_free (i := 1) P3_9_4.out
      have s2 := blk_free (i := 2) P3_9_4.out
      have s3 := blk_free (i := 3) P3_9_4.out
      go_simp
      obtain ⟨u9, hu9⟩ : ∃ u9, u9 = (((u3_9_4.setCell ⟨u3.heap.size, 0, none⟩ (.string xu)).setCell ⟨u3.heap.size, 1, none⟩ (.int .i64 xs)).setCell ⟨u3.heap.size, 2, none⟩ (.int .i64 xk)).setCell ⟨u3.heap.size, 3, none⟩ (.string xv) := ⟨_, rfl⟩
      rw [← hu9]
      have hst := set4 P3_9_4.out rfl rfl rfl hu9
      have HBX := Lib.hid hst.1
      have HB9 : Hid (Below w.heap.size w u9) := Lib.hid (hst.2 _ (by have := HB3.out.size; omega) _ HB3_9_4.out)
      clear hu9 hst r0 r1 r2 r3 s0 s1 s2 s3
      refine hK.out _ _ HB9.out ?_
      clear hK K
      (try simp only [Act.put, List.setIfInBounds_toArray, List.set_cons_zero, List.set_cons_succ])
      refine PlanX.take1 (v := ?v_3_9_4_10T11) (by kernel_rfl) ?y_3_9_4_10T11 ?r_3_9_4_10T11
      case y_3_9_4_10T11 => (intro wz hz; go_simp; try with_reducible rfl)
      (try simp only [Act.put, List.setIfInBounds_toArray, List.set_cons_zero, List.set_cons_succ])
      refine PlanX.take1 (v := ?v_3_9_4_10T12) (by kernel_rfl) ?y_3_9_4_10T12 ?r_3_9_4_10T12
      case y_3_9_4_10T12 => (intro wz hz; go_simp; try with_reducible rfl)
      (try simp only [Act.put, List.setIfInBounds_toArray, List.set_cons_zero, List.set_cons_succ])
      refine PlanX.done (NoPanic.normal ?_)
      obtain ⟨qe, hqe⟩ : ∃ qe, qe = u3.heap.size := ⟨_, rfl⟩
      rw [← hqe] at HBX
      rw [← hqe]
      clear hqe
      have r0 := blk_cell (i := 0) HBX.out
      have r1 := blk_cell (i := 1) HBX.out
      have r2 := blk_cell (i := 2) HBX.out
      have k0 := (HB9.out.block _ HQK.out).trans HK.out
      have t0 := blk_cell (i := 0) k0
      have t1 := blk_cell (i := 1) k0
      have t2 := blk_cell (i := 2) k0
      replace r0 : u9.cell? ⟨qe, 0, none⟩ = some (.string xu) := r0
      replace r1 : u9.cell? ⟨qe, 1, none⟩ = some (.int .i64 xs) := r1
      replace r2 : u9.cell? ⟨qe, 2, none⟩ = some (.int .i64 xk) := r2
      replace t0 : u9.cell? ⟨qk, 0, none⟩ = some (.string u) := t0
      replace t1 : u9.cell? ⟨qk, 1, none⟩ = some (.int .i64 s) := t1
      replace t2 : u9.cell? ⟨qk, 2, none⟩ = some (.int .i64 k) := t2
      clear k0
      go_wp2_with (go_at_call 40; (refine (HCM.out _).mono ?_); rintro e w8 ⟨rfl, hb8⟩; have HB8 := Lib.hid (HB9.out.trans (hb8.mono HB9.out.size)); clear hb8)
      go_ret
      exact ⟨rfl, HB8.out⟩
  · skip
    refine PlanX.exec2 (fun K hK => ⟨by kernel_rfl, ?_⟩)
    go_simp
    obtain ⟨u9, hu⟩ : ∃ u9, u9 = (w.alloc (.cells #[.string ⟨#[]⟩, .int .i64 0, .int .i64 0, .string ⟨#[]⟩] 39)).drew := ⟨_, rfl⟩
    rw [← hu]
    have P9 := Lib.hid (show u9.heap[w.heap.size]? = some (.cells #[.string ⟨#[]⟩, .int .i64 0, .int .i64 0, .string ⟨#[]⟩] 39 (0, 0)) by rw [hu]; exact heap_alloc_new w _)
    have HB9 : Hid (Below w.heap.size w u9) := Lib.hid (by rw [hu]; exact ((Below.refl _ _).alloc (Nat.le_refl _) _).drew)
    clear hu
    refine hK.out _ _ (fun _ => True) HB9.out trivial HB9.out ?_
    clear hK K
    (try simp only [Act.put, List.setIfInBounds_toArray, List.set_cons_zero, List.set_cons_succ])
    refine PlanX.exec2 (fun K hK => ⟨by kernel_rfl, ?_⟩)
    go_simp
    go_at_fn 102
    refine (HW.out _ HB9.out).mono ?_
    rintro e u9_3 ⟨rfl, hbc⟩
    have HB9_3 : Hid (Below w.heap.size w u9_3) := Lib.hid ((HB9.out).trans (hbc.mono (HB9.out).size))
    have P9_3 := Lib.hid ((hbc.block _ (blk_lt P9.out)).trans P9.out)
    clear hbc
    go_wp2_with fail
    refine hK.out _ _ (fun _ => True) ⟨HB9_3.out, trivial⟩ trivial HB9_3.out ?_
    clear hK K
    (try simp only [Act.put, List.setIfInBounds_toArray, List.set_cons_zero, List.set_cons_succ])
    refine PlanX.exec2 (fun K hK => ⟨by kernel_rfl, ?_⟩)
    go_simp
    go_at_call 94
    refine (HRD.out _ HB9_3.out).mono ?_
    rintro e u9_3_4 ⟨rfl, hbc⟩
    have HB9_3_4 : Hid (Below w.heap.size w u9_3_4) := Lib.hid ((HB9_3.out).trans (hbc.mono (HB9_3.out).size))
    have P9_3_4 := Lib.hid ((hbc.block _ (blk_lt P9_3.out)).trans P9_3.out)
    clear hbc
    go_wp2_with fail
    refine hK.out _ _ (fun _ => True) ⟨⟨HB9_3_4.out, trivial⟩, trivial⟩ trivial HB9_3_4.out ?_
    clear hK K
    (try simp only [Act.put, List.setIfInBounds_toArray, List.set_cons_zero, List.set_cons_succ])
    refine PlanX.take0 (v := ?v_9_3_4T5) (by kernel_rfl) ?y_9_3_4T5 ?r_9_3_4T5
    case y_9_3_4T5 => (intro wz hz; go_simp; try with_reducible rfl)
    (try simp only [Act.put, List.setIfInBounds_toArray, List.set_cons_zero, List.set_cons_succ])
    refine PlanX.take0 (v := ?v_9_3_4T6) (by kernel_rfl) ?y_9_3_4T6 ?r_9_3_4T6
    case y_9_3_4T6 => (intro wz hz; go_simp; try with_reducible rfl)
    (try simp only [Act.put, List.setIfInBounds_toArray, List.set_cons_zero, List.set_cons_succ])
    refine PlanX.take1 (v := ?v_9_3_4T7) (by kernel_rfl) ?y_9_3_4T7 ?r_9_3_4T7
    case y_9_3_4T7 => (intro wz hz; go_simp; try with_reducible rfl)
    (try simp only [Act.put, List.setIfInBounds_toArray, List.set_cons_zero, List.set_cons_succ])
    refine PlanX.take1 (v := ?v_9_3_4T8) (by kernel_rfl) ?y_9_3_4T8 ?r_9_3_4T8
    case y_9_3_4T8 => (intro wz hz; go_simp; try with_reducible rfl)
    (try simp only [Act.put, List.setIfInBounds_toArray, List.set_cons_zero, List.set_cons_succ])
    refine PlanX.exec3 (fun K hK => ⟨by kernel_rfl, ?_⟩)
    have r0 := blk_cell (i := 0) P9_3_4.out
    have r1 := blk_cell (i := 1) P9_3_4.out
    have r2 := blk_cell (i := 2) P9_3_4.out
    have r3 := blk_cell (i := 3) P9_3_4.out
    have s0 := blk_free (i := 0) P9_3_4.out
    have s1 := blk_free (i := 1) P9_3_4.out
    have s2 := blk_free (i := 2) P9_3_4.out
    have s3 := blk_free (i := 3) P9_3_4.out
    go_simp
    obtain ⟨u9, hu9⟩ : ∃ u9, u9 = (((u9_3_4.setCell ⟨w.heap.size, 0, none⟩ (.string xu)).setCell ⟨w.heap.size, 1, none⟩ (.int .i64 xs)).setCell ⟨w.heap.size, 2, none⟩ (.int .i64 xk)).setCell ⟨w.heap.size, 3, none⟩ (.string xv) := ⟨_, rfl⟩
    rw [← hu9]
    have hst := set4 P9_3_4.out rfl rfl rfl hu9
    have HBX := Lib.hid hst.1
    have HB9 : Hid (Below w.heap.size w u9) := Lib.hid (hst.2 _ (by omega) _ HB9_3_4.out)
    clear hu9 hst r0 r1 r2 r3 s0 s1 s2 s3
    refine hK.out _ _ HB9.out ?_
    clear hK K
    (try simp only [Act.put, List.setIfInBounds_toArray, List.set_cons_zero, List.set_cons_succ])
    refine PlanX.take1 (v := ?v_9_3_4_10T11) (by kernel_rfl) ?y_9_3_4_10T11 ?r_9_3_4_10T11
    case y_9_3_4_10T11 => (intro wz hz; go_simp; try with_reducible rfl)
    (try simp only [Act.put, List.setIfInBounds_toArray, List.set_cons_zero, List.set_cons_succ])
    refine PlanX.take1 (v := ?v_9_3_4_10T12) (by kernel_rfl) ?y_9_3_4_10T12 ?r_9_3_4_10T12
    case y_9_3_4_10T12 => (intro wz hz; go_simp; try with_reducible rfl)
    (try simp only [Act.put, List.setIfInBounds_toArray, List.set_cons_zero, List.set_cons_succ])
    refine PlanX.done (NoPanic.normal ?_)
    obtain ⟨qe, hqe⟩ : ∃ qe, qe = w.heap.size := ⟨_, rfl⟩
    rw [← hqe] at HBX
    rw [← hqe]
    clear hqe
    have r0 := blk_cell (i := 0) HBX.out
    have r1 := blk_cell (i := 1) HBX.out
    have r2 := blk_cell (i := 2) HBX.out
    have k0 := (HB9.out.block _ HQK.out).trans HK.out
    have t0 := blk_cell (i := 0) k0
    have t1 := blk_cell (i := 1) k0
    have t2 := blk_cell (i := 2) k0
    replace r0 : u9.cell? ⟨qe, 0, none⟩ = some (.string xu) := r0
    replace r1 : u9.cell? ⟨qe, 1, none⟩ = some (.int .i64 xs) := r1
    replace r2 : u9.cell? ⟨qe, 2, none⟩ = some (.int .i64 xk) := r2
    replace t0 : u9.cell? ⟨qk, 0, none⟩ = some (.string u) := t0
    replace t1 : u9.cell? ⟨qk, 1, none⟩ = some (.int .i64 s) := t1
    replace t2 : u9.cell? ⟨qk, 2, none⟩ = some (.int .i64 k) := t2
    clear k0
    go_wp2_with (go_at_call 40; (refine (HCM.out _).mono ?_); rintro e w8 ⟨rfl, hb8⟩; have HB8 := Lib.hid (HB9.out.trans (hb8.mono HB9.out.size)); clear hb8)
    go_ret
    exact ⟨rfl, HB8.out⟩

end Go.Proofs.YteeikmpfgbfeoaaGreat

/-
  Tables: plain facts of blocks in a row: their bytes, their rows in the last frame; a table by its blocks.
-/
namespace Go.Proofs.YteeikmpfgbfeoaaGreat
open Go.RowKit

def lastE (p : List Ent) : Ent := p.getD (p.length - 1) Ent.none_
/-- Blocks, framed, in a row. -/
def tabQ (ps : List (List Ent)) : List UInt8 := ps.flatMap fun p => frRaw (blockL p)
/-- The row of a block whose frame begins at a place. -/
def rowP (p : List Ent) (at_ : Nat) : Rw := ⟨(lastE p).u, (lastE p).s, (lastE p).k, (at_ : Int), ((frRaw (blockL p)).length : Int)⟩
/-- The rows of blocks in a row. -/
def rowsQ (ps : List (List Ent)) : List Rw := (List.range ps.length).map fun i => rowP (ps.getD i []) (tabQ (ps.take i)).length

theorem tabQ_snoc (ps : List (List Ent)) (p : List Ent) : tabQ (ps ++ [p]) = tabQ ps ++ frRaw (blockL p) := by simp [tabQ]
theorem rowsQ_snoc (ps : List (List Ent)) (p : List Ent) : rowsQ (ps ++ [p]) = rowsQ ps ++ [rowP p (tabQ ps).length] := by
  unfold rowsQ
  rw [List.length_append, List.length_singleton, List.range_succ, List.map_append]
  congr 1
  · apply List.map_congr_left
    intro i hi
    have hi := List.mem_range.1 hi
    rw [List.take_append_of_le_length (by omega)]
    simp [List.getD, List.getElem?_append_left hi]
  · simp
theorem rowsQ_len (ps : List (List Ent)) : (rowsQ ps).length = ps.length := by simp [rowsQ]
theorem blk_len {p : List Ent} (h : putErr p = 0) : (blockL p).length ≤ 100000 ∧ (frRaw (blockL p)).length ≤ 100008 := by
  obtain ⟨h1, _, h3⟩ := putErr_ok h
  have := bodyN_len (fun k hk => rising_may h1 hk) p.length (Nat.le_refl _)
  have hl := blockL_len p
  rw [frRaw_length]
  omega
theorem tabQ_len {ps : List (List Ent)} (h : ∀ p ∈ ps, putErr p = 0) : (tabQ ps).length ≤ 100008 * ps.length := by
  induction ps with
  | nil => simp [tabQ]
  | cons p ps ih =>
    unfold tabQ at *
    rw [List.flatMap_cons, List.length_append, List.length_cons]
    have h1 := (blk_len (h p List.mem_cons_self)).2
    have h2 := ih fun x hx => h x (List.mem_cons_of_mem _ hx)
    omega
theorem lastE_may {p : List Ent} (h : putErr p = 0) : (lastE p).may = true := by
  obtain ⟨h1, h2, _⟩ := putErr_ok h
  have := List.length_pos_iff.2 h2
  exact rising_may h1 (k := p.length - 1) (by omega)
theorem rowP_ok {p : List Ent} (h : putErr p = 0) {at_ : Nat} (ha : at_ ≤ 100000000) : RwOk (rowP p at_) := by
  obtain ⟨n1, n2, n3, n4, _⟩ := may_facts (lastE_may h)
  have h2 := (blk_len h).2
  rw [str_len] at n1
  refine ⟨n1, n2, n3, ?_, ?_, ?_, ?_, ?_, ?_⟩
  all_goals (unfold rowP; simp only; omega)
theorem rowsQ_ok {ps : List (List Ent)} (h : ∀ p ∈ ps, putErr p = 0) (hl : ps.length ≤ 256) : ∀ r ∈ rowsQ ps, RwOk r := by
  intro r hr
  obtain ⟨i, hi, rfl⟩ := List.mem_map.1 hr
  have hi := List.mem_range.1 hi
  have h1 := tabQ_len (ps := ps.take i) fun p hp => h p (List.mem_of_mem_take hp)
  rw [List.length_take] at h1
  refine rowP_ok ?_ (by omega)
  have e : ps.getD i [] = ps[i] := by simp [List.getD, hi]
  rw [e]
  exact h _ (List.getElem_mem _)

/-- The first k blocks of entries. -/
def partsE (es : List Ent) (per k : Nat) : List (List Ent) := (List.range k).map (partE es per)
theorem partsE_succ (es : List Ent) (per k : Nat) : partsE es per (k + 1) = partsE es per k ++ [partE es per k] := by simp [partsE, List.range_succ]
theorem partsE_len (es : List Ent) (per k : Nat) : (partsE es per k).length = k := by simp [partsE]
theorem tab_parts (es : List Ent) (per : Nat) : ∀ k, tabQ (partsE es per k) = tabB es per k
  | 0 => rfl
  | k + 1 => by
    rw [partsE_succ, tabQ_snoc, tab_parts es per k]
    rfl
theorem idx_parts (es : List Ent) (per : Nat) : ∀ k, rwsB (rowsQ (partsE es per k)) = idxB es per k
  | 0 => rfl
  | k + 1 => by
    rw [partsE_succ, rowsQ_snoc]
    unfold rwsB
    rw [List.flatMap_append]
    rw [show (rowsQ (partsE es per k)).flatMap rwB = idxB es per k from idx_parts es per k]
    rw [tab_parts]
    show _ = idxB es per k ++ keyB (lastE (partE es per k)) ++ putL (tabB es per k).length ++ putL (blkF es per k).length
    simp only [List.flatMap_cons, List.flatMap_nil, List.append_nil, List.append_assoc]
    congr 1
    unfold rwB rowP keyB blkF numE
    simp only [List.append_assoc, Int.toNat_natCast]
/-- A table, by its blocks. -/
theorem table_parts (es : List Ent) (per : Nat) (f : List UInt8) :
    tableL es per f = tabQ (partsE es per (nBlk es per)) ++ (frRaw f ++ endB (rowsQ (partsE es per (nBlk es per))) (((tabQ (partsE es per (nBlk es per))).length : Nat) : Int) (((tabQ (partsE es per (nBlk es per))).length + (f.length + 8) : Nat) : Int) ((es.length : Nat) : Int)) := by
  unfold endB tableL
  rw [tab_parts, idx_parts]
  simp only [List.append_assoc]

/-! ### Reading -/

theorem val_inj4 : ∀ (n : Nat) (l m : List UInt8), l.length = n → m.length = n → valL l = valL m → l = m
  | 0, l, m, hl, hm, _ => by rw [List.eq_nil_of_length_eq_zero hl, List.eq_nil_of_length_eq_zero hm]
  | n + 1, l, m, hl, hm, h => by
    rcases List.eq_nil_or_concat l with rfl | ⟨l', c, rfl⟩
    · simp at hl
    rcases List.eq_nil_or_concat m with rfl | ⟨m', d, rfl⟩
    · simp at hm
    rw [List.concat_eq_append] at *
    rw [List.concat_eq_append] at *
    rw [valL_snoc, valL_snoc] at h
    have h1 := c.toNat_lt
    have h2 := d.toNat_lt
    simp at hl hm
    have e1 : valL l' = valL m' := by omega
    have e2 : c.toNat = d.toNat := by omega
    rw [val_inj4 n l' m' hl hm e1, UInt8.toNat_inj.1 e2]
theorem fix_val4 {l : List UInt8} (h : l.length = 4) : fixL ((valL l : Nat) : Int) 4 = l := by
  have h1 := valL_lt l
  rw [h] at h1
  exact val_inj4 4 _ _ (fixL_length _ _) h (valL_fixL _ _ h1)
/-- A record that is there, as bytes. -/
theorem fr_back {b : List UInt8} {p : Nat} (h : frOk b p = true) : b.take (p + 8 + frN b p) = b.take p ++ frRaw (frP b p) := by
  unfold frOk at h
  simp only [Bool.and_eq_true, decide_eq_true_eq] at h
  obtain ⟨⟨h1, _⟩, h3⟩ := h
  have e1 : fixL ((frN b p : Nat) : Int) 4 = (b.drop p).take 4 := fix_val4 (by rw [List.length_take, List.length_drop]; omega)
  have e2 : fixL ((valL ((b.drop (p + 4)).take 4) : Nat) : Int) 4 = (b.drop (p + 4)).take 4 := fix_val4 (by rw [List.length_take, List.length_drop]; omega)
  unfold frRaw
  rw [frP_length h1, h3, e1, e2]
  unfold frP
  rw [show p + 8 + frN b p = p + (4 + (4 + frN b p)) by omega, List.take_add, List.take_add (l := b.drop p), List.drop_drop, List.take_add (l := b.drop (p + 4)), List.drop_drop]
  simp only [List.append_assoc]

/-- What has been read so far: blocks, a row of them from the beginning on; all but the last one as long as the first one. -/
structure Seen (b : List UInt8) (ps : List (List Ent)) : Prop where
  ok : ∀ p ∈ ps, putErr p = 0
  bytes : b.take (tabQ ps).length = tabQ ps
  few : ps.flatten.length ≤ 256
  cut : ∃ per, ps = partsE ps.flatten per ps.length ∧ nBlk ps.flatten per = ps.length ∧ 1 ≤ per ∧ per ≤ 64 ∧ (∀ p, ps.head? = some p → p.length = per)
theorem Seen.start (b : List UInt8) : Seen b [] := ⟨fun _ h => (by cases h), rfl, by simp, 1, rfl, by simp [nBlk], by omega, by omega, fun _ h => (by cases h)⟩

/-- The length of the first block. -/
def firstN (ps : List (List Ent)) : Nat := (ps.head?.getD []).length

theorem Seen.len {b : List UInt8} {ps : List (List Ent)} (h : Seen b ps) : ps.length ≤ 256 := by
  obtain ⟨per, h1, h2, h3, _⟩ := h.cut
  rcases Nat.lt_or_ge 256 ps.length with h4 | h4
  · have := (nBlk_lt (es := ps.flatten) h3 256).1 (by omega)
    have := h.few
    have := Nat.mul_le_mul_left 256 h3
    omega
  · exact h4

/-- One block more. -/
theorem Seen.more {b : List UInt8} {ps : List (List Ent)} {x : List Ent} (h : Seen b ps) (ho : frOk b (tabQ ps).length = true) (hx : getB (frP b (tabQ ps).length) = some x)
    (h1 : ps ≠ [] → x.length ≤ firstN ps) (h2 : ps.flatten.length = firstN ps * ps.length) (h3 : ps.flatten.length + x.length ≤ 256) : Seen b (ps ++ [x]) ∧ (tabQ ps).length + 8 + frN b (tabQ ps).length = (tabQ (ps ++ [x])).length := by
  obtain ⟨hxe, hxb⟩ := getB_is hx
  have hf := fr_back ho
  rw [h.bytes, ← hxb] at hf
  have hln : (tabQ ps).length + 8 + frN b (tabQ ps).length = (tabQ (ps ++ [x])).length := by
    have h4 := frP_length (frOk_le ho)
    rw [tabQ_snoc, List.length_append, frRaw_length, hxb]
    omega
  obtain ⟨k1, k2, k3⟩ := putErr_ok hxe
  have hp := List.length_pos_iff.2 k2
  refine ⟨⟨fun p hp => ?_, ?_, by simp only [List.flatten_append, List.flatten_singleton, List.length_append]; exact h3, ?_⟩, hln⟩
  · rcases List.mem_append.1 hp with hp | hp
    · exact h.ok p hp
    · rw [List.mem_singleton.1 hp]; exact hxe
  · rw [← hln, hf, tabQ_snoc]
  · by_cases hps : ps = []
    · subst hps
      refine ⟨x.length, ?_, ?_, by omega, k3, fun p hp => by simp at hp; rw [hp]⟩
      · simp only [List.nil_append, List.flatten_singleton, List.length_singleton]
        rw [partsE_succ]
        simp [partsE, part_same (Nat.le_refl _)]
      · simp only [List.nil_append, List.flatten_singleton, List.length_singleton]
        exact nBlk_one (Nat.le_refl _) k2
    · obtain ⟨per, c1, c2, c3, c4, c5⟩ := h.cut
      have hper : firstN ps = per := by
        unfold firstN
        cases hh : ps.head? with
        | none => exact absurd (List.head?_eq_none_iff.1 hh) hps
        | some p => exact c5 p hh
      rw [hper] at h1 h2
      have h1 := h1 hps
      have hq : per * ps.length = ps.length * per := Nat.mul_comm _ _
      have hs : (ps.length + 1) * per = ps.length * per + per := Nat.succ_mul _ _
      refine ⟨per, ?_, ?_, c3, c4, fun p hp => c5 p (by rw [List.head?_append] at hp; cases hh : ps.head? with | none => exact absurd (List.head?_eq_none_iff.1 hh) hps | some q => rw [hh] at hp; exact hp)⟩
      · simp only [List.flatten_append, List.flatten_singleton, List.length_append, List.length_singleton]
        rw [partsE_succ]
        congr 1
        · refine c1.trans ?_
          unfold partsE
          refine List.map_congr_left fun i hi => ?_
          have hi := List.mem_range.1 hi
          have hm : (i + 1) * per ≤ ps.length * per := Nat.mul_le_mul_right _ hi
          have hsi : (i + 1) * per = i * per + per := Nat.succ_mul _ _
          unfold partE
          rw [List.drop_append_of_le_length (by omega), List.take_append_of_le_length (by rw [List.length_drop]; omega)]
        · unfold partE
          rw [List.drop_left' (by omega), List.take_of_length_le h1]
      · simp only [List.flatten_append, List.flatten_singleton, List.length_append, List.length_singleton]
        have g1 := (nBlk_lt (es := ps.flatten ++ x) c3 ps.length).2 (by rw [List.length_append]; omega)
        have g2 : ¬ ps.length + 1 < nBlk (ps.flatten ++ x) per := fun g => by
          have := (nBlk_lt (es := ps.flatten ++ x) c3 (ps.length + 1)).1 g
          rw [List.length_append] at this
          omega
        omega

/-- What is read is a table. -/
theorem Seen.table {b : List UInt8} {ps : List (List Ent)} (h : Seen b ps) (hne : ps ≠ []) (ho : frOk b (tabQ ps).length = true) (hr : risingB ps.flatten = true)
    (he : b.drop ((tabQ ps).length + 8 + frN b (tabQ ps).length) = endB (rowsQ ps) ((tabQ ps).length : Int) (((tabQ ps).length + 8 + frN b (tabQ ps).length : Nat) : Int) (ps.flatten.length : Int)) : IsTab b ps.flatten (frP b (tabQ ps).length) := by
  obtain ⟨per, c1, c2, c3, c4, _⟩ := h.cut
  have hf := fr_back ho
  have hle := frOk_le ho
  have hpl := frP_length hle
  have hfl : frN b (tabQ ps).length ≤ 1048576 := by
    unfold frOk at ho
    simp only [Bool.and_eq_true, decide_eq_true_eq] at ho
    exact ho.1.2
  have hne' : ps.flatten ≠ [] := fun e => by
    cases ps with
    | nil => exact hne rfl
    | cons p r =>
      have := (putErr_ok (h.ok p List.mem_cons_self)).2.1
      rw [List.flatten_cons, List.append_eq_nil_iff] at e
      exact this e.1
  refine ⟨per, c3, c4, ⟨hr, hne', h.few⟩, by omega, ?_⟩
  rw [table_parts, c2, ← c1, hpl]
  rw [h.bytes] at hf
  rw [← List.append_assoc, ← hf, show (tabQ ps).length + (frN b (tabQ ps).length + 8) = (tabQ ps).length + 8 + frN b (tabQ ps).length by omega, ← he, List.take_append_drop]

/-- So far they are those of any table that the bytes can be. -/
def Fits (b : List UInt8) (ps : List (List Ent)) : Prop := ∀ es per f, IsTabP b es per f → ∃ k, k ≤ nBlk es per ∧ ps = partsE es per k
theorem Fits.start (b : List UInt8) : Fits b [] := fun _ _ _ _ => ⟨0, Nat.zero_le _, rfl⟩
/-- There is a block more, where the filter's frame has not begun. -/
theorem Fits.one {b : List UInt8} {ps : List (List Ent)} (h : Fits b ps) (hb : b.length ≤ 1000000) (hi : (tabQ ps).length < atT b) {es : List Ent} {per : Nat} {f : List UInt8} (ht : IsTabP b es per f) :
    frOk b (tabQ ps).length = true ∧ getB (frP b (tabQ ps).length) = some (partE es per ps.length) ∧ ps = partsE es per ps.length ∧ ps.length < nBlk es per := by
  obtain ⟨k, hk, rfl⟩ := h es per f ht
  rw [partsE_len]
  rw [tab_parts] at hi ⊢
  have hlt := (ParT.at_end hb ht hk).1 hi
  obtain ⟨h1, h2, _⟩ := ht.step hb hlt
  refine ⟨h1, ?_, rfl, hlt⟩
  rw [h2]
  exact getB_put (part_err ht.2.2.1.1 ht.1 ht.2.1 ((nBlk_lt ht.1 k).1 hlt))
theorem flat_parts (es : List Ent) {per : Nat} : ∀ k, (partsE es per k).flatten = es.take (k * per)
  | 0 => by simp [partsE]
  | k + 1 => by rw [partsE_succ, List.flatten_append, flat_parts es k, List.flatten_singleton, part_take]
theorem first_parts {es : List Ent} {per k : Nat} (hk : 0 < k) : firstN (partsE es per k) = min per es.length := by
  obtain ⟨j, rfl⟩ : ∃ j, k = j + 1 := ⟨k - 1, by omega⟩
  unfold firstN partsE
  rw [List.range_succ_eq_map]
  simp [part_len]
/-- Such a block may be the next one. -/
theorem Fits.takes {b : List UInt8} {ps : List (List Ent)} (h : Fits b ps) (hb : b.length ≤ 1000000) (hi : (tabQ ps).length < atT b) {x : List Ent} (hx : getB (frP b (tabQ ps).length) = some x) {es : List Ent} {per : Nat} {f : List UInt8} (ht : IsTabP b es per f) :
    (ps ≠ [] → x.length ≤ firstN ps) ∧ ps.flatten.length = firstN ps * ps.length ∧ ps.flatten.length + x.length ≤ 256 := by
  obtain ⟨_, h2, h3, h4⟩ := h.one hb hi ht
  rw [hx] at h2
  cases h2
  have h5 := (nBlk_lt ht.1 ps.length).1 h4
  have hfl : ps.flatten.length = ps.length * per := by
    rw [h3, flat_parts, List.length_take, partsE_len]
    omega
  have h6 := ht.2.2.1.2.2
  have h7 := part_len (es := es) (per := per) (k := ps.length)
  by_cases hps : ps = []
  · refine ⟨fun hn => absurd hps hn, ?_, ?_⟩
    · rw [hps]; rfl
    · rw [hfl]; omega
  · have hpos := List.length_pos_iff.2 hps
    have hf : firstN ps = per := by
      rw [h3, first_parts hpos]
      have : 1 * per ≤ ps.length * per := Nat.mul_le_mul_right _ hpos
      omega
    rw [hf]
    refine ⟨fun _ => by omega, by rw [hfl, Nat.mul_comm], by omega⟩
theorem Fits.more {b : List UInt8} {ps : List (List Ent)} {x : List Ent} (h : Fits b ps) (hb : b.length ≤ 1000000) (hi : (tabQ ps).length < atT b) (hx : getB (frP b (tabQ ps).length) = some x) : Fits b (ps ++ [x]) := by
  intro es per f ht
  obtain ⟨_, h2, h3, h4⟩ := h.one hb hi ht
  rw [hx] at h2
  cases h2
  refine ⟨ps.length + 1, h4, ?_⟩
  rw [partsE_succ, ← h3]
/-- Where the filter's frame begins they are all. -/
theorem Fits.end_ {b : List UInt8} {ps : List (List Ent)} (h : Fits b ps) (hb : b.length ≤ 1000000) (hi : ¬ (tabQ ps).length < atT b) {es : List Ent} {per : Nat} {f : List UInt8} (ht : IsTabP b es per f) :
    ps.flatten = es ∧ frOk b (tabQ ps).length = true ∧ frP b (tabQ ps).length = f ∧ risingB ps.flatten = true ∧
    b.drop ((tabQ ps).length + 8 + frN b (tabQ ps).length) = endB (rowsQ ps) ((tabQ ps).length : Int) (((tabQ ps).length + 8 + frN b (tabQ ps).length : Nat) : Int) (ps.flatten.length : Int) := by
  obtain ⟨k, hk, rfl⟩ := h es per f ht
  rw [tab_parts] at hi
  have hkn : k = nBlk es per := by
    rcases Nat.lt_or_ge k (nBlk es per) with g | g
    · exact absurd ((ParT.at_end hb ht hk).2 g) hi
    · omega
  subst hkn
  have hfe : (partsE es per (nBlk es per)).flatten = es := by
    rw [flat_parts]
    exact List.take_of_length_le (Nat.le_of_not_lt fun g => Nat.lt_irrefl _ ((nBlk_lt (es := es) ht.1 (nBlk es per)).2 g))
  obtain ⟨h1, h2⟩ := ht.filter
  rw [tab_parts, hfe]
  refine ⟨rfl, h1, h2, ht.2.2.1.1, ?_⟩
  have h3 := frP_length (frOk_le h1)
  rw [h2] at h3
  have h4 := ht.2.2.2.2
  rw [table_parts, tab_parts] at h4
  rw [← h3]
  conv => lhs; rw [← h4]
  rw [← List.append_assoc, List.drop_left' (by rw [List.length_append, frRaw_length]; omega)]
  rw [show (tabB es per (nBlk es per)).length + 8 + f.length = (tabB es per (nBlk es per)).length + (f.length + 8) by omega]
end Go.Proofs.YteeikmpfgbfeoaaGreat

/-
  slices.Chunk of entries, as a range over a function meets it: the blocks come, one by one, in order.
-/
namespace Go.Proofs.YteeikmpfgbfeoaaGreat
open Go.RowKit Go.Shelf
attribute [local go_sem] Oper.semAt_some

/-- A block of entries as it is handed on. -/
abbrev Chk (w : World) := { x : Value × List Ent // RdE w x.1 x.2 ∧ putErr x.2 = 0 }

theorem rd_cut {w : World} {a : Option Addr} {n cap : Nat} {cs : List Value} (h : Rd w 4 (.slice a n cap) n cs) (hn : 0 < n) : Rd w 4 (.slice a n n) n cs := by
  obtain ⟨a', cap', hv, h1, h2, h0, h3⟩ := h
  cases hv
  refine ⟨_, _, rfl, Nat.le_refl _, by omega, h0, ?_⟩
  rcases h3 with ⟨h3, _⟩ | h3
  · omega
  · exact .inr h3

/-- The k-th block, where it lies. -/
theorem chunk_at {w : World} {es : List Ent} {b off vc per k : Nat} (hv : RdE w (.slice (some ⟨b, off, none⟩) es.length vc) es) (hr : risingB es = true) (h1 : 1 ≤ per) (h2 : per ≤ 64) (hk : k * per < es.length) :
    ∃ m, m = min per (es.length - k * per) ∧ (RdE w (.slice (some ⟨b, off + k * per * 4, none⟩) m m) (partE es per k) ∧ putErr (partE es per k) = 0) ∧ 0 < m := by
  have hpe := part_err hr h1 h2 hk
  obtain ⟨m, hm⟩ : ∃ m, min per (es.length - k * per) = m := ⟨_, rfl⟩
  have hpl := part_len (es := es) (per := per) (k := k)
  rw [hm] at hpl
  have h := entRest hv.1 (k * per) (by omega)
  rw [← List.length_drop] at h
  have h := entFront h m (by rw [List.length_drop]; omega)
  have e : (es.drop (k * per)).take m = partE es per k := by
    unfold partE
    rcases Nat.le_total per (es.length - k * per) with hle | hle
    · rw [← hm, Nat.min_eq_left hle]
    · rw [← hm, Nat.min_eq_right hle, List.take_of_length_le (by rw [List.length_drop]; exact Nat.le_refl _), List.take_of_length_le (by rw [List.length_drop]; omega)]
  rw [e] at h
  refine ⟨m, hm.symm, ⟨⟨by rw [hpl]; exact rd_cut h (by omega), fun x hx => Ent.may_fits (rising_all hr x ((part_sub es per k).subset hx))⟩, hpe⟩, by omega⟩

set_option maxRecDepth 100000 in
set_option maxHeartbeats 1000000 in
theorem chunk1_in {w : World} {R : Nat → Prop} {n l q1 q2 per vc : Nat} {va : Option Addr} {es : List Ent} (hv : RdE w (.slice va es.length vc) es) (hr : risingB es = true) (h1 : 1 ≤ per) (h2 : per ≤ 64) (hl : es.length ≤ 256) (hq1 : R q1) (hq2 : R q2)
    (J Jx : List (Chk w) → World → Prop) (hJd : ∀ pre W, J pre W → J pre W.drew)
    (hY : ∀ pre x W, J pre W → pre.length < nBlk es per → YieldAt Fence.wide (n - 1) Tryz.prog l #[x.1.1] W fun e W' => (e = .returned (.bool true) ∧ J (pre ++ [x]) W' ∧ Kept R W W') ∨ (e = .returned (.bool false) ∧ Jx (pre ++ [x]) W'))
    (W : World) (c1 : W.cell? ⟨q1, 0, none⟩ = some (.slice va es.length vc)) (c2 : W.cell? ⟨q2, 0, none⟩ = some (.int .i64 (per : Int))) (h0 : J [] W) :
    CallsIn Fence.wide n Tryz.prog 41 #[.func (.yield l) #[] #[], .pointer (some ⟨q1, 0, none⟩), .pointer (some ⟨q2, 0, none⟩)] W fun e W' => (∃ v, e = .returned v) ∧
      ((∃ ys, ys.map (fun x : Chk w => x.1.2) = partsE es per (nBlk es per) ∧ J ys W') ∨ (∃ pre, True ∧ Jx pre W')) := by
  have HV := Lib.hid hv
  obtain ⟨hc1, hc2⟩ : es.length ≤ vc ∧ vc ≤ maxLen := by
    obtain ⟨_, _, he, h3, h4⟩ := hv.form
    cases he
    exact ⟨h3, h4⟩
  unfold maxLen at hc2
  have HR := Lib.hid hr
  have HC := Lib.hid (And.intro c1 c2)
  have HJ0 := Lib.hid h0
  have HNB := Lib.hid (fun k => nBlk_lt (es := es) h1 k)
  clear hv hr c1 c2 h0
  refine callsIn_of_wp Tryz.func41 rfl trivial ?_ rfl
  simp only [Tryz.ntmps41, List.size_toArray, List.length_cons, List.length_nil, Nat.reduceAdd, Nat.reduceSub, Array.replicate_succ, Array.replicate_zero, List.push_toArray, List.append_toArray, List.nil_append, List.cons_append]
  gi_wp2
  gi_loopw [4] (fun i wr => ∃ (k : Nat) (pre : List (Chk w)), k ≤ nBlk es per ∧ i = .int .i64 ((k * per : Nat) : Int) ∧ Hid (pre.map (fun x : Chk w => x.1.2) = partsE es per k) ∧ Hid (J pre wr) ∧ Hid (Kept R W wr))
    (fun i _ => es.length - (intOf i).toNat)
  case atStart => exact ⟨0, [], Nat.zero_le _, by simp, Lib.hid rfl, HJ0, Lib.hid (Kept.refl _ _)⟩
  case round =>
    obtain ⟨k, pre, hk, rfl, HP, HJ, HK⟩ := hrel
    have d1 := HK.out.at_ (o := 0) hq1 HC.out.1
    have d2 := HK.out.at_ (o := 0) hq2 HC.out.2
    by_cases hlt : k < nBlk es per
    · have hq := (HNB.out k).1 hlt
      obtain ⟨_, _, hva, hone⟩ := HV.out.one
      cases hva
      obtain ⟨b, off, rfl, _⟩ := hone (k * per) hq
      obtain ⟨m, hm, hx, hm0⟩ := chunk_at HV.out HR.out h1 h2 hq
      have HQS := Lib.hid (show (k + 1) * per = k * per + per from Nat.succ_mul k per)
      obtain ⟨X, hX1, hX2⟩ : ∃ X : Chk w, X.1.1 = .slice (some ⟨b, off + k * per * 4, none⟩) m m ∧ X.1.2 = partE es per k := ⟨⟨(_, _), hx⟩, rfl, rfl⟩
      have HX2 := Lib.hid hX2
      obtain ⟨fn, tmps, assign, body, hy, hRn⟩ := hY pre X wr.drew (hJd _ _ HJ.out) (by
        have := congrArg List.length HP.out
        rw [List.length_map, partsE_len] at this
        omega)
      rw [hX1] at hy
      have HRN := Lib.hid hRn
      clear hRn hone hx hX1 hX2
      obtain ⟨q, hqe⟩ : ∃ q, k * per = q := ⟨_, rfl⟩
      rw [hqe] at hq hm hy HQS ⊢
      have HQE := Lib.hid hqe
      clear hqe
      have e1 : (q : Int) < (es.length : Int) := by omega
      have e2 : ((es.length - q : Nat) : Int) = (es.length : Int) - (q : Int) := by omega
      have hmm : m ≤ per ∧ m ≤ es.length - q ∧ (m = per ∨ m = es.length - q) := by omega
      have e3 : IntKind.i64.wrap ((q : Int) + (m : Int)) = ((q + m : Nat) : Int) := by rw [IntWalk.i64_in _ (by omega)]; omega
      have e4 : IntKind.i64.wrap ((q : Int) + (per : Int)) = ((q + per : Nat) : Int) := by rw [IntWalk.i64_in _ (by omega)]; omega
      have hqm : q + m ≤ vc := by omega
      have hmi : (if (es.length : Int) - (q : Int) < (per : Int) then (es.length : Int) - (q : Int) else (per : Int)) = (m : Int) := by
        split
        · omega
        · omega
      have hqn : q ≤ es.length := by omega
      have hvq : ¬ vc = q := by omega
      have HzC : Hid (∀ wz, Ext wr.drew wz → wz.cell? ⟨q1, 0, none⟩ = some (.slice (some ⟨b, off, none⟩) es.length vc) ∧ wz.cell? ⟨q2, 0, none⟩ = some (.int .i64 (per : Int))) := Lib.hid fun wz hz => ⟨Ext.at_ hz d1, Ext.at_ hz d2⟩
      clear hm
      gi_wp2
      refine wpIn_wide.2 ?_
      refine wp_region_plan [(true, 0), (true, 1), (true, 2), (true, 3), (true, 4), (true, 5), (true, 6)] (by kernel_rfl) (by kernel_rfl) (by kernel_rfl) (by kernel_rfl) (by kernel_rfl) ?_
      simp only [planO, List.drop_succ_cons, List.drop_zero]
      refine PlanO.take (v := .int .i64 (per : Int)) (by kernel_rfl) ?y0 ?r0
      case y0 => (intro wz hz; have c1 := HzC.out wz hz; obtain ⟨c1, c2⟩ := c1; go_simp; try with_reducible rfl)
      (try simp only [Act.put, List.setIfInBounds_toArray, List.set_cons_zero, List.set_cons_succ])
      refine PlanO.take (v := .slice (some ⟨b, off, none⟩) es.length vc) (by kernel_rfl) ?y1 ?r1
      case y1 => (intro wz hz; have c1 := HzC.out wz hz; obtain ⟨c1, c2⟩ := c1; go_simp; try with_reducible rfl)
      (try simp only [Act.put, List.setIfInBounds_toArray, List.set_cons_zero, List.set_cons_succ])
      refine PlanO.take (v := ?v2) (by kernel_rfl) ?y2 ?r2
      case y2 => (intro wz hz; go_simp; try with_reducible rfl)
      (try simp only [Act.put, List.setIfInBounds_toArray, List.set_cons_zero, List.set_cons_succ])
      refine PlanO.take (v := .slice (some ⟨b, off + q * 4, none⟩) (es.length - q) (vc - q)) (by kernel_rfl) ?y3 ?r3
      case y3 => (intro wz hz; go_simp; try with_reducible rfl)
      (try simp only [Act.put, List.setIfInBounds_toArray, List.set_cons_zero, List.set_cons_succ])
      refine PlanO.take (v := .int .i64 ((es.length - q : Nat) : Int)) (by kernel_rfl) ?y4 ?r4
      case y4 => (intro wz hz; go_simp; try with_reducible rfl)
      (try simp only [Act.put, List.setIfInBounds_toArray, List.set_cons_zero, List.set_cons_succ])
      refine PlanO.take (v := .int .i64 (m : Int)) (by kernel_rfl) ?y5 ?r5
      case y5 => (intro wz hz; go_simp; try with_reducible rfl)
      (try simp only [Act.put, List.setIfInBounds_toArray, List.set_cons_zero, List.set_cons_succ])
      refine PlanO.take (v := ?v6) (by kernel_rfl) ?y6 ?r6
      case y6 => (intro wz hz; go_simp; try with_reducible rfl)
      (try simp only [Act.put, List.setIfInBounds_toArray, List.set_cons_zero, List.set_cons_succ])
      refine PlanO.done (NoPanic.normal ?_)
      gi_wp2
      refine ⟨fun h => (by cases h), HRN.out.mono ?_⟩
      rintro e W3 (⟨rfl, hJ3, hk3⟩ | ⟨rfl, hJx3⟩)
      · have HK3 := Lib.hid (HK.out.drew.trans hk3)
        have HJ3 := Lib.hid hJ3
        have d2 := HK3.out.at_ (o := 0) hq2 HC.out.2
        clear hJ3 hk3
        gi_wp2
        go_roundw
        case rel =>
          refine ⟨k + 1, pre ++ [X], hlt, by rw [HQS.out]; rfl, Lib.hid ?_, HJ3, HK3⟩
          rw [List.map_append, HP.out, partsE_succ, ← HX2.out]
          rfl
        case measure => simp [intOf]; omega
      · gi_wp2
        refine bodyPost_ret (results_none rfl _ _ _) rfl ?_
        exact ⟨⟨_, rfl⟩, .inr ⟨_, trivial, hJx3⟩⟩
    · have hq : ¬ k * per < es.length := fun h => hlt ((HNB.out k).2 h)
      have hkn : k = nBlk es per := by omega
      have e1 : ¬ ((k * per : Nat) : Int) < (es.length : Int) := by omega
      have HPE := Lib.hid (show pre.map (fun x : Chk w => x.1.2) = partsE es per (nBlk es per) by rw [← hkn]; exact HP.out)
      clear hkn
      gi_wp2
      go_end0
      exact ⟨⟨_, rfl⟩, .inl ⟨pre, HPE.out, HJ.out⟩⟩

/-- slices.Chunk: both arguments lie in boxes; the function that is told holds them. -/
theorem chunk_any (va : Option Addr) (len vc : Nat) (per : Nat) (h1 : 1 ≤ per) (w : World) :
    Calls Tryz.prog 19 #[.slice va len vc, .int .i64 (per : Int)] w fun e w' =>
      e = .returned (.func (.func 41) #[] #[.pointer (some ⟨w.heap.size, 0, none⟩), .pointer (some ⟨w.heap.size + 1, 0, none⟩)]) ∧ w' = (w.alloc (.cells #[.slice va len vc] 22)).alloc (.cells #[.int .i64 (per : Int)] 3) := by
  have d1 : decide ((per : Int) < 1) = false := by simp; omega
  have d2 : ¬ (per : Int) < 1 := by omega
  have d3 : ¬ per = 0 := by omega
  go_enter Tryz.func19, Tryz.ntmps19
  go_wp2
  go_ret
  exact ⟨rfl, rfl⟩

/-- **The value that slices.Chunk tells**, as the range over a function asks. -/
theorem chunk_stops {w0 w : World} {R : Nat → Prop} {n q1 q2 per vc : Nat} {va : Option Addr} {es : List Ent} (hv : RdE w0 (.slice va es.length vc) es) (hr : risingB es = true) (h1 : 1 ≤ per) (h2 : per ≤ 64) (hl : es.length ≤ 256) (hq1 : R q1) (hq2 : R q2)
    (hl1 : q1 < w.heap.size) (hl2 : q2 < w.heap.size) (c1 : w.cell? ⟨q1, 0, none⟩ = some (.slice va es.length vc)) (c2 : w.cell? ⟨q2, 0, none⟩ = some (.int .i64 (per : Int))) :
    SeqStopsK Fence.wide n Tryz.prog 41 #[.pointer (some ⟨q1, 0, none⟩), .pointer (some ⟨q2, 0, none⟩)] (fun x : Chk w0 => #[x.1.1]) (Kept R) (fun ys => ys.map (fun x : Chk w0 => x.1.2) = partsE es per (nBlk es per)) (fun _ => True) (nBlk es per) w :=
  fun l J Jx W hW hJ _ hY h0 => by
    have e1 := (hW.cell (p := ⟨q1, 0, none⟩) hl1).trans c1
    have e2 := (hW.cell (p := ⟨q2, 0, none⟩) hl2).trans c2
    exact chunk1_in (l := l) hv hr h1 h2 hl hq1 hq2 J Jx (fun pre V h => hJ pre V V.drew none h ⟨rfl, rfl, rfl, Nat.le_refl _, fun _ _ _ => rfl⟩ (fun r e => (by cases e))) hY W e1 e2 h0
end Go.Proofs.YteeikmpfgbfeoaaGreat
