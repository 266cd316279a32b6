/-
  A region whose order is open, by a plan that is a tree: where one of two comes up next, there is a plan for either.
-/
import Derived.Test.YtdcjfgbngmdkfaaThree
namespace Go.Proofs.Ytdcjfgbngmdkfaa
open Go.RowKit
section
variable {P : Program} {ops : Array Oper} {Q : Exit → Act → World → Prop} {S1 S2 : World → Prop} {E : Nat → Bool}

/-- A plan: 'op k i': the i-th operation (k: 0, 1: taken, 2: carried out, 3: one of the last ones); 'fork i j': either of two is carried out next. -/
inductive PT where
  | fin : PT
  | op : Nat → Nat → PT → PT
  | fork : Nat → Nat → PT → PT → PT
def PT.len : PT → Nat
  | .fin => 0
  | .op _ _ r => r.len + 1
  | .fork _ _ p _ => p.len + 1
def PT.lt (n : Nat) : PT → Bool
  | .fin => true
  | .op _ i r => decide (i < n) && r.lt n
  | .fork i j p q => decide (i < n) && (decide (j < n) && (p.lt n && (q.lt n && p.len == q.len)))
/-- .. of operations. -/
inductive PO where
  | fin : PO
  | op : Nat → Oper → PO → PO
  | fork : Oper → Oper → PO → PO → PO
def planX (l : List Oper) : PT → PO
  | .fin => .fin
  | .op k i r => match l.drop i with
    | o :: _ => .op k o (planX l r)
    | [] => .fin
  | .fork i j p q => match l.drop i with
    | o :: _ => (match l.drop j with
      | o' :: _ => .fork o o' (planX l p) (planX l q)
      | [] => .fin)
    | [] => .fin
/-- May it go so? ('b': the last ones have begun.) -/
def planXB (ops : Array Oper) (E : List Nat) : Bool → PT → Array Bool → Bool
  | _, .fin, listed => (Region.ready .any ops listed).isEmpty
  | b, .op 0 i r, listed => !b && Region.free .any ops listed i && (Region.ready .any ops listed).contains i && !E.contains i && E.all (fun j => needs ops ops.size j i) && planXB ops E b r (listed.setIfInBounds i true)
  | b, .op 1 i r, listed => Region.free .any ops listed i && (Region.ready .any ops listed).contains i && !E.contains i && planXB ops E b r (listed.setIfInBounds i true)
  | b, .op 2 i r, listed => !b && !E.contains i && (Region.ready .any ops listed == [i]) && planXB ops E b r (listed.setIfInBounds i true)
  | _, .op (_ + 3) i r, listed => E.contains i && (Region.ready .any ops listed == [i]) && planXB ops E true r (listed.setIfInBounds i true)
  | b, .fork i j p q, listed => !b && (!E.contains i && (!E.contains j && ((Region.ready .any ops listed == [i, j]) && (planXB ops E b p (listed.setIfInBounds i true) && planXB ops E b q (listed.setIfInBounds j true)))))

def PlanX (P : Program) (ops : Array Oper) (Q : Exit → Act → World → Prop) (S2 : World → Prop) : (World → Prop) → PO → Act → World → Prop
  | _, .fin, a, w => Q .normal a w
  | S1, .op 0 o r, a, w => ∃ v : Value, YieldsIf P ops S1 o v a ∧ PlanX P ops Q S2 S1 r (a.put o.dst v) w
  | S1, .op 1 o r, a, w => ∃ v : Value, YieldsIf P ops S2 o v a ∧ PlanX P ops Q S2 S1 r (a.put o.dst v) w
  | S1, .op 2 o r, a, w => if Region.wanted o (yielded ops a.tmps) then o.wp P a w (fun a' w' => ∃ S1' : World → Prop, (∀ z, S1' z → S1 z) ∧ (S2 w' ∧ S1' w') ∧ PlanX P ops Q S2 S1' r a' w') Q ∨ (o.asks P a w ∧ LetsOut Q) else PlanX P ops Q S2 S1 r (a.put o.dst undef) w
  | S1, .op (_ + 3) o r, a, w => if Region.wanted o (yielded ops a.tmps) then o.wp P a w (fun a' w' => S2 w' ∧ PlanX P ops Q S2 S1 r a' w') Q ∨ (o.asks P a w ∧ LetsOut Q) else PlanX P ops Q S2 S1 r (a.put o.dst undef) w
  | S1, .fork o1 o2 p q, a, w =>
    (if Region.wanted o1 (yielded ops a.tmps) then o1.wp P a w (fun a' w' => ∃ S1' : World → Prop, (∀ z, S1' z → S1 z) ∧ (S2 w' ∧ S1' w') ∧ PlanX P ops Q S2 S1' p a' w') Q ∨ (o1.asks P a w ∧ LetsOut Q) else PlanX P ops Q S2 S1 p (a.put o1.dst undef) w) ∧
    (if Region.wanted o2 (yielded ops a.tmps) then o2.wp P a w (fun a' w' => ∃ S1' : World → Prop, (∀ z, S1' z → S1 z) ∧ (S2 w' ∧ S1' w') ∧ PlanX P ops Q S2 S1' q a' w') Q ∨ (o2.asks P a w ∧ LetsOut Q) else PlanX P ops Q S2 S1 q (a.put o2.dst undef) w)

theorem planX_sound {l : List Oper} {EL : List Nat} (hs : Region.noSelect l.toArray = true) (hQ : ∀ (c : List PanicEntry) (a a' : Act) (w : World), Q (.panic c) a' w → Q (.panic c) a w) :
    ∀ (p : PT) (S1 : World → Prop) (b : Bool) (listed : Array Bool) (a : Act) (w : World), Closed l.toArray listed → S2 w → (b = false → S1 w) → (b = true → ∃ j, EL.contains j = true ∧ listed.getD j false = true) → p.lt l.length = true → planXB l.toArray EL b p listed = true → (listed.size = l.length) →
      PlanX P l.toArray Q S2 S1 (planX l p) a w → wpAny2 P l.toArray Q S1 S2 (fun j => EL.contains j) p.len listed a w
  | .fin, _, b, listed, a, w, _, _, _, _, _, hb, _, h => by
    have hb' : Region.ready .any l.toArray listed = [] := by simpa [planXB] using hb
    exact ⟨hb', h⟩
  | .fork i j p q, S1, b, listed, a, w, hc, hS2, hS1, hE, hi, hb, hz, h => by
    simp only [PT.lt, Bool.and_eq_true, decide_eq_true_eq, beq_iff_eq] at hi
    obtain ⟨hi1, hi2, hip, hiq, hpq⟩ := hi
    simp only [planXB, Bool.and_eq_true, Bool.not_eq_true', beq_iff_eq] at hb
    obtain ⟨hb0, _, _, hb2, hbp, hbq⟩ := hb
    subst hb0
    unfold planX at h
    split at h
    case h_2 hd =>
      have := congrArg List.length hd
      simp at this
      omega
    case h_1 o t hd =>
      split at h
      case h_2 hd2 =>
        have := congrArg List.length hd2
        simp at this
        omega
      case h_1 o2 t2 hd2 =>
        obtain ⟨h1, h2⟩ := h
        refine ⟨fun h0 => by (rw [hb2] at h0; cases h0), fun k hk => ?_⟩
        have hr : k ∈ Region.ready .any l.toArray listed := hk
        rw [hb2] at hk
        have hk' : k = i ∨ k = j := by simpa using hk
        rcases hk' with rfl | rfl
        · unfold wpOp
          rw [drop_head hd]
          simp only
          split at h1
          · rename_i hw
            rw [if_pos hw]
            exact h1.imp (fun h => Oper.wp_mono (fun a' w' ⟨S1', hle, ⟨h2, h1⟩, hp⟩ => ⟨⟨h2, fun _ => hle _ h1⟩, wpAny2_mono hle _ _ _ _ (planX_sound hs hQ p S1' _ _ a' w' (hc.set hr) h2 (fun _ => h1) (fun h => by cases h) hip hbp (by simpa using hz) hp)⟩) h) id
          · rename_i hw
            rw [if_neg hw]
            exact ⟨⟨hS2, fun _ => hS1 rfl⟩, planX_sound hs hQ p S1 _ _ _ w (hc.set hr) hS2 hS1 (fun h => by cases h) hip hbp (by simpa using hz) h1⟩
        · unfold wpOp
          rw [drop_head hd2]
          simp only
          show (if _ then _ else _)
          rw [show PT.len p = PT.len q from hpq]
          split at h2
          · rename_i hw
            rw [if_pos hw]
            exact h2.imp (fun h => Oper.wp_mono (fun a' w' ⟨S1', hle, ⟨h2, h1⟩, hp⟩ => ⟨⟨h2, fun _ => hle _ h1⟩, wpAny2_mono hle _ _ _ _ (planX_sound hs hQ q S1' _ _ a' w' (hc.set hr) h2 (fun _ => h1) (fun h => by cases h) hiq hbq (by simpa using hz) hp)⟩) h) id
          · rename_i hw
            rw [if_neg hw]
            exact ⟨⟨hS2, fun _ => hS1 rfl⟩, planX_sound hs hQ q S1 _ _ _ w (hc.set hr) hS2 hS1 (fun h => by cases h) hiq hbq (by simpa using hz) h2⟩
  | .op k i r, S1, b, listed, a, w, hc, hS2, hS1, hE, hi, hb, hz, h => by
    simp only [PT.lt, Bool.and_eq_true, decide_eq_true_eq] at hi
    have hz' : (listed.setIfInBounds i true).size = l.length := by simpa using hz
    have hset : (listed.setIfInBounds i true).getD i false = true := by simp [hz, hi.1]
    have hS1' : NoE (fun j => EL.contains j) listed → S1 w := fun hn => by
      cases b with
      | false => exact hS1 rfl
      | true =>
        obtain ⟨j, h1, h2⟩ := hE rfl
        rw [hn j h1] at h2
        cases h2
    unfold planX at h
    split at h
    case h_2 hd =>
      have := congrArg List.length hd
      simp at this
      omega
    case h_1 o t hd =>
      match k, h, hb with
      | 0, h, hb =>
        simp only [planXB, Bool.and_eq_true, Bool.not_eq_true', List.all_eq_true] at hb
        obtain ⟨v, hy, h⟩ := h
        obtain ⟨⟨⟨⟨⟨hb0, hb1⟩, hb2⟩, hb3⟩, hb4⟩, hb5⟩ := hb
        subst hb0
        have hr : i ∈ Region.ready .any l.toArray listed := by simpa using hb2
        exact first1 (drop_head hd) (Region.noSelect_spec hs) (fun c a w h => hQ c _ _ w h) hb3 (fun j hj => hb4 j (by simpa using hj)) _ listed a w hc (Region.free_spec (drop_head hd) hb1) hr hy hS2 (hS1 rfl)
          (planX_sound hs hQ r S1 _ _ _ w (hc.set hr) hS2 hS1 (fun h => by cases h) hi.2 hb5 hz' h)
      | 1, h, hb =>
        simp only [planXB, Bool.and_eq_true, Bool.not_eq_true'] at hb
        obtain ⟨v, hy, h⟩ := h
        obtain ⟨⟨⟨hb1, hb2⟩, hb3⟩, hb5⟩ := hb
        have hr : i ∈ Region.ready .any l.toArray listed := by simpa using hb2
        exact first2 (drop_head hd) (Region.noSelect_spec hs) (fun c a w h => hQ c _ _ w h) hb3 _ listed a w hc (Region.free_spec (drop_head hd) hb1) hr hy hS2 hS1'
          (planX_sound hs hQ r S1 b _ _ w (hc.set hr) hS2 hS1 (fun h => by obtain ⟨j, h1, h2⟩ := hE h; exact ⟨j, h1, getD_set_true h2⟩) hi.2 hb5 hz' h)
      | 2, h, hb =>
        simp only [planXB, Bool.and_eq_true, Bool.not_eq_true', beq_iff_eq] at hb
        obtain ⟨⟨⟨hb0, hb3⟩, hb2⟩, hb5⟩ := hb
        subst hb0
        have hr : i ∈ Region.ready .any l.toArray listed := by rw [hb2]; simp
        refine ⟨fun h0 => by (rw [h0] at hr; cases hr), fun j hj => ?_⟩
        obtain rfl : j = i := by rw [hb2] at hj; simpa using hj
        unfold wpOp
        rw [drop_head hd]
        simp only
        unfold PlanX at h
        split at h
        · rename_i hw
          rw [if_pos hw]
          exact h.imp (fun h => Oper.wp_mono (fun a' w' ⟨S1', hle, ⟨h2, h1⟩, hp⟩ => ⟨⟨h2, fun _ => hle _ h1⟩, wpAny2_mono hle _ _ _ _ (planX_sound hs hQ r S1' _ _ a' w' (hc.set hr) h2 (fun _ => h1) (fun h => by cases h) hi.2 hb5 hz' hp)⟩) h) id
        · rename_i hw
          rw [if_neg hw]
          exact ⟨⟨hS2, fun _ => hS1 rfl⟩, planX_sound hs hQ r S1 _ _ _ w (hc.set hr) hS2 hS1 (fun h => by cases h) hi.2 hb5 hz' h⟩
      | k + 3, h, hb =>
        simp only [planXB, Bool.and_eq_true, beq_iff_eq] at hb
        obtain ⟨⟨hb3, hb2⟩, hb5⟩ := hb
        have hr : i ∈ Region.ready .any l.toArray listed := by rw [hb2]; simp
        have hno : ¬ NoE (fun j => EL.contains j) (listed.setIfInBounds i true) := fun hn => by
          have := hn i hb3
          rw [hset] at this
          cases this
        refine ⟨fun h0 => by (rw [h0] at hr; cases hr), fun j hj => ?_⟩
        obtain rfl : j = i := by rw [hb2] at hj; simpa using hj
        unfold wpOp
        rw [drop_head hd]
        simp only
        unfold PlanX at h
        split at h
        · rename_i hw
          rw [if_pos hw]
          exact h.imp (fun h => Oper.wp_mono (fun a' w' ⟨h2, hp⟩ => ⟨⟨h2, fun hn => absurd hn hno⟩, planX_sound hs hQ r S1 true _ a' w' (hc.set hr) h2 (fun h => by cases h) (fun _ => ⟨j, hb3, hset⟩) hi.2 hb5 hz' hp⟩) h) id
        · rename_i hw
          rw [if_neg hw]
          exact ⟨⟨hS2, fun hn => absurd hn hno⟩, planX_sound hs hQ r S1 true _ _ w (hc.set hr) hS2 (fun h => by cases h) (fun _ => ⟨j, hb3, hset⟩) hi.2 hb5 hz' h⟩

/-- **The region**, by a plan that is a tree; 'EL': the last ones. (It must be shown not to panic.) -/
theorem wp_region_tree {l : List Oper} {id : Nat} {a : Act} {w : World} (S1 S2 : World → Prop) (p : PT) (EL : List Nat) (hm : P.follows .mixedOrders = true) (hs : Region.noSelect l.toArray = true) (hn : (p.len == l.toArray.size) = true)
    (hi : p.lt l.length = true) (hb : planXB l.toArray EL false p (Array.replicate l.toArray.size false) = true) (h1 : S1 w.drew) (h2 : S2 w.drew)
    (h : PlanX P l.toArray (NoPanic Q) S2 S1 (planX l p) a w.drew) : (Code.region id l.toArray true).wp P Q a w := by
  refine wp_region_noPanic ?_
  refine wp_region_any hm ?_
  have h1 := planX_sound (S2 := S2) (EL := EL) hs (Q := NoPanic Q) (fun _ _ _ _ h => h) p S1 false _ a w.drew (Closed.start _) h2 (fun _ => h1) (fun h => by cases h) hi hb (by simp) h
  rw [beq_iff_eq.1 hn] at h1
  exact wpAny_of_two _ _ _ _ h1

theorem PlanX.take0 {o : Oper} {r : PO} {a : Act} {w : World} {v : Value} (hw : Region.wanted o (yielded ops a.tmps) = true)
    (hy : ∀ w', S1 w' → (execOp a.eval o).run P w' = .ok (.value v) w') (h : PlanX P ops Q S2 S1 r (a.put o.dst v) w) : PlanX P ops Q S2 S1 (.op 0 o r) a w :=
  ⟨v, .inl ⟨hw, hy⟩, h⟩
theorem PlanX.take1 {o : Oper} {r : PO} {a : Act} {w : World} {v : Value} (hw : Region.wanted o (yielded ops a.tmps) = true)
    (hy : ∀ w', S2 w' → (execOp a.eval o).run P w' = .ok (.value v) w') (h : PlanX P ops Q S2 S1 r (a.put o.dst v) w) : PlanX P ops Q S2 S1 (.op 1 o r) a w :=
  ⟨v, .inl ⟨hw, hy⟩, h⟩
/-- Carried out; from there on the class is 'T' as well. -/
theorem PlanX.exec2 {o : Oper} {r : PO} {a : Act} {w : World}
    (h : ∀ K : Act → World → Prop, Shut (∀ a w' (T : World → Prop), S1 w' → T w' → S2 w' → PlanX P ops Q S2 (fun z => S1 z ∧ T z) r a w' → K a w') → Region.wanted o (yielded ops a.tmps) = true ∧ Oper.wp P o a w K Q) : PlanX P ops Q S2 S1 (.op 2 o r) a w := by
  have := h (fun a' w' => ∃ S1' : World → Prop, (∀ z, S1' z → S1 z) ∧ (S2 w' ∧ S1' w') ∧ PlanX P ops Q S2 S1' r a' w') (fun a w' T h1 hT h2 hP => ⟨fun z => S1 z ∧ T z, fun z h => h.1, ⟨h2, h1, hT⟩, hP⟩)
  unfold PlanX
  rw [if_pos this.1]
  exact .inl this.2
theorem PlanX.exec3 {o : Oper} {r : PO} {a : Act} {w : World}
    (h : ∀ K : Act → World → Prop, Shut (∀ a w', S2 w' → PlanX P ops Q S2 S1 r a w' → K a w') → Region.wanted o (yielded ops a.tmps) = true ∧ Oper.wp P o a w K Q) : PlanX P ops Q S2 S1 (.op 3 o r) a w := by
  have := h (fun a' w' => S2 w' ∧ PlanX P ops Q S2 S1 r a' w') (fun a w' h2 hT => ⟨h2, hT⟩)
  unfold PlanX
  rw [if_pos this.1]
  exact .inl this.2
theorem PlanX.both {o1 o2 : Oper} {p q : PO} {a : Act} {w : World} (h1 : PlanX P ops Q S2 S1 (.op 2 o1 p) a w) (h2 : PlanX P ops Q S2 S1 (.op 2 o2 q) a w) : PlanX P ops Q S2 S1 (.fork o1 o2 p q) a w := by
  unfold PlanX at h1 h2
  unfold PlanX
  exact ⟨h1, h2⟩
theorem PlanX.skip {k : Nat} {o : Oper} {r : PO} {a : Act} {w : World} (hw : Region.wanted o (yielded ops a.tmps) = false) (hk : 2 ≤ k) (h : PlanX P ops Q S2 S1 r (a.put o.dst undef) w) : PlanX P ops Q S2 S1 (.op k o r) a w := by
  match k, hk with
  | 2, _ => unfold PlanX; rw [if_neg (by rw [hw]; simp)]; exact h
  | k + 3, _ => unfold PlanX; rw [if_neg (by rw [hw]; simp)]; exact h
theorem PlanX.done {a : Act} {w : World} (h : Q .normal a w) : PlanX P ops Q S2 S1 .fin a w := h
end
end Go.Proofs.Ytdcjfgbngmdkfaa
