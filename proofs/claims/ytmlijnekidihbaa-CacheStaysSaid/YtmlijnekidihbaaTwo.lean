/-
  A region whose order is open, with two classes of worlds: operations that all the last ones wait for need yield their value only till these come up ('S1'); the others all along ('S2').
-/
import Derived.Test.YtmlijnekidihbaaRegion
namespace Go.Proofs.Ytmlijnekidihbaa
open Go.RowKit
section
variable {P : Program} {ops : Array Oper} {Q : Exit → Act → World → Prop} {S1 S2 : World → Prop} {E : Nat → Bool}

/-- 'j' comes behind 'i', by so many edges at most. -/
def needs (ops : Array Oper) : Nat → Nat → Nat → Bool
  | 0, _, _ => false
  | n + 1, j, i => match ops[j]? with
    | some oj => oj.after.any fun e => Region.binds .any e && (e.on == i || needs ops n e.on i)
    | none => false

/-- What is listed, all that it waits for is listed. -/
def Closed (ops : Array Oper) (listed : Array Bool) : Prop := ∀ j oj, ops[j]? = some oj → listed.getD j false = true → ∀ e ∈ oj.after, Region.binds .any e = true → listed.getD e.on false = true

theorem needs_listed {listed : Array Bool} (hc : Closed ops listed) : ∀ (n j i : Nat) (oj : Oper), ops[j]? = some oj → (∀ e ∈ oj.after, Region.binds .any e = true → listed.getD e.on false = true) → needs ops n j i = true → listed.getD i false = true
  | 0, _, _, _, _, _, h => by cases h
  | n + 1, j, i, oj, hj, hall, h => by
    unfold needs at h
    rw [hj] at h
    obtain ⟨e, he, hb⟩ := Array.any_eq_true'.1 h
    simp only [Bool.and_eq_true, Bool.or_eq_true, beq_iff_eq] at hb
    have h1 := hall e he hb.1
    rcases hb.2 with h2 | h2
    · rw [← h2]; exact h1
    · cases ho : ops[e.on]? with
      | none =>
        cases n with
        | zero => cases h2
        | succ n => unfold needs at h2; rw [ho] at h2; cases h2
      | some oe => exact needs_listed hc n e.on i oe ho (fun e' he' hb' => hc e.on oe ho h1 e' he' hb') h2

theorem getD_true_false {listed : Array Bool} {i : Nat} (h : listed.getD i true = false) : listed.getD i false = false := by
  rcases Nat.lt_or_ge i listed.size with h' | h'
  · simp [h'] at h ⊢; exact h
  · simp [Array.getElem?_eq_none h'] at h

theorem Closed.set {listed : Array Bool} {i : Nat} (hc : Closed ops listed) (hi : i ∈ Region.ready .any ops listed) : Closed ops (listed.setIfInBounds i true) := by
  obtain ⟨_, oi, hoi, hall⟩ := mem_ready.1 hi
  intro j oj hj hl e he hb
  by_cases hij : i = j
  · subst hij
    have : oj = oi := Option.some.inj (hj.symm.trans hoi)
    subst this
    exact getD_set_true (hall e he hb)
  · rw [getD_set_ne false hij] at hl
    exact getD_set_true (hc j oj hj hl e he hb)

theorem Closed.start (n : Nat) : Closed ops (Array.replicate n false) := by
  intro j oj _ hl
  rcases Nat.lt_or_ge j n with h | h
  · simp [h] at hl
  · simp [h] at hl

/-- None of the last ones has come up. -/
def NoE (E : Nat → Bool) (listed : Array Bool) : Prop := ∀ j, E j = true → listed.getD j false = false

theorem getD_set_false {listed : Array Bool} {i j : Nat} (h : (listed.setIfInBounds i true).getD j false = false) : listed.getD j false = false := by
  cases hl : listed.getD j false with
  | false => rfl
  | true => rw [getD_set_true hl] at h; cases h

theorem NoE.unset {listed : Array Bool} {i : Nat} (h : NoE E (listed.setIfInBounds i true)) : NoE E listed := fun j hj => getD_set_false (h j hj)
theorem NoE.set {listed : Array Bool} {i : Nat} (h : NoE E listed) (hi : E i = false) : NoE E (listed.setIfInBounds i true) := fun j hj => by
  rw [getD_set_ne false (by rintro rfl; rw [hi] at hj; cases hj)]
  exact h j hj

/-- Whatever order is picked: 'S2' behind every operation, 'S1' till the last ones come up. -/
def wpAny2 (P : Program) (ops : Array Oper) (Q : Exit → Act → World → Prop) (S1 S2 : World → Prop) (E : Nat → Bool) : Nat → Array Bool → Act → World → Prop
  | 0, listed, a, w => Region.ready .any ops listed = [] ∧ Q .normal a w
  | fuel + 1, listed, a, w =>
    (Region.ready .any ops listed = [] → Q .normal a w) ∧
    ∀ i ∈ Region.ready .any ops listed, wpOp P ops Q i (fun a' w' => (S2 w' ∧ (NoE E (listed.setIfInBounds i true) → S1 w')) ∧ wpAny2 P ops Q S1 S2 E fuel (listed.setIfInBounds i true) a' w') a w

theorem wpAny_of_two : ∀ (fuel : Nat) (listed : Array Bool) (a : Act) (w : World), wpAny2 P ops Q S1 S2 E fuel listed a w → wpAny P .any ops Q fuel listed a w
  | 0, _, _, _, h => h
  | fuel + 1, _, _, _, h => ⟨h.1, fun i hi => wpOp_mono (fun a' w' h' => wpAny_of_two fuel _ a' w' h'.2) (h.2 i hi)⟩

/-- All the last ones wait for 'i'. -/
def AllNeed (ops : Array Oper) (E : Nat → Bool) (i : Nat) : Prop := ∀ j, E j = true → needs ops ops.size j i = true

theorem first1 {i : Nat} {oi : Oper} {v : Value} (hi : ops[i]? = some oi) (hsel : ∀ (j : Nat) (o : Oper) cs b, ops[j]? = some o → o.op ≠ .select cs b)
    (hQ : ∀ c a w, Q (.panic c) (a.put oi.dst v) w → Q (.panic c) a w) (hEi : E i = false) (hE : AllNeed ops E i) :
    ∀ (fuel : Nat) (listed : Array Bool) (a : Act) (w : World), Closed ops listed →
      (∀ j oj, ops[j]? = some oj → j ≠ i → listed.getD j true = false → (∀ e ∈ oj.after, Region.binds .any e = true → e.on ≠ i) → oi.apart ops oj = true) →
      i ∈ Region.ready .any ops listed → YieldsIf P ops S1 oi v a → S2 w → S1 w →
      wpAny2 P ops Q S1 S2 E fuel (listed.setIfInBounds i true) (a.put oi.dst v) w → wpAny2 P ops Q S1 S2 E (fuel + 1) listed a w := by
  intro fuel
  induction fuel with
  | zero =>
    intro listed a w _ _ hr hy hS2 hS1 H
    refine ⟨fun h => (by rw [h] at hr; cases hr), fun j hj => ?_⟩
    by_cases hji : j = i
    · subst hji; exact hy.wpOp hi hS1 ⟨⟨hS2, fun _ => hS1⟩, H⟩
    · have := ready_mono hj hji
      rw [H.1] at this
      cases this
  | succ fuel ih =>
    intro listed a w hc hfree hr hy hS2 hS1 H
    refine ⟨fun h => (by rw [h] at hr; cases hr), fun j hj => ?_⟩
    by_cases hji : j = i
    · subst hji; exact hy.wpOp hi hS1 ⟨⟨hS2, fun _ => hS1⟩, H⟩
    · have h1 := H.2 j (ready_mono hj hji)
      obtain ⟨hjun, oj, hoj, hall⟩ := mem_ready.1 hj
      have hun := (mem_ready.1 hr).1
      have hnot : ∀ e ∈ oj.after, Region.binds .any e = true → e.on ≠ i := fun e he hb heq => by
        have h1 := hall e he hb
        rw [heq, getD_true_false hun] at h1
        cases h1
      have hnE : ∀ k, E k = true → listed.getD k false = false := fun k hk => by
        cases hl : listed.getD k false with
        | false => rfl
        | true =>
          cases ho : ops[k]? with
          | none =>
            have := hE k hk
            cases hsz : ops.size with
            | zero => rw [hsz] at this; cases this
            | succ m => rw [hsz] at this; unfold needs at this; rw [ho] at this; cases this
          | some ok =>
            have := needs_listed hc _ k i ok ho (fun e he hb => hc k ok ho hl e he hb) (hE k hk)
            rw [getD_true_false hun] at this
            cases this
      have hEj : E j = false := by
        cases hEj : E j with
        | false => rfl
        | true =>
          have := needs_listed hc _ j i oj hoj hall (hE j hEj)
          rw [getD_true_false hun] at this
          cases this
      have hnj : NoE E (listed.setIfInBounds j true) := NoE.set hnE hEj
      have h2 := wpOp_putIf hoj (hfree j oj hoj hji hjun hnot) (fun cs b => hsel i oi cs b hi) (fun cs b => hsel j oj cs b hoj) hQ hy h1
      have hfree' : ∀ k ok, ops[k]? = some ok → k ≠ i → (listed.setIfInBounds j true).getD k true = false →
          (∀ e ∈ ok.after, Region.binds .any e = true → e.on ≠ i) → oi.apart ops ok = true := fun k ok hk hki hun hno => by
        refine hfree k ok hk hki ?_ hno
        by_cases hjk : j = k
        · subst hjk; exact hjun
        · rw [getD_set_ne true hjk] at hun; exact hun
      have hsw : ∀ w', (NoE E ((listed.setIfInBounds i true).setIfInBounds j true) → S1 w') → NoE E (listed.setIfInBounds j true) → S1 w' := fun w' h hn => h (by
        rw [Array.setIfInBounds_comm _ _ (Ne.symm hji)]
        exact hn.set hEi)
      refine wpOp_mono (fun a' w' h3 => ⟨⟨h3.2.1.1, hsw w' h3.2.1.2⟩, ih (listed.setIfInBounds j true) a' w' (hc.set hj) hfree' (ready_mono hr (Ne.symm hji)) h3.1 h3.2.1.1 (hsw w' h3.2.1.2 hnj) ?_⟩) h2
      rw [Array.setIfInBounds_comm _ _ hji]
      exact h3.2.2

theorem first2 {i : Nat} {oi : Oper} {v : Value} (hi : ops[i]? = some oi) (hsel : ∀ (j : Nat) (o : Oper) cs b, ops[j]? = some o → o.op ≠ .select cs b)
    (hQ : ∀ c a w, Q (.panic c) (a.put oi.dst v) w → Q (.panic c) a w) (hEi : E i = false) :
    ∀ (fuel : Nat) (listed : Array Bool) (a : Act) (w : World), Closed ops listed →
      (∀ j oj, ops[j]? = some oj → j ≠ i → listed.getD j true = false → (∀ e ∈ oj.after, Region.binds .any e = true → e.on ≠ i) → oi.apart ops oj = true) →
      i ∈ Region.ready .any ops listed → YieldsIf P ops S2 oi v a → S2 w → (NoE E listed → S1 w) →
      wpAny2 P ops Q S1 S2 E fuel (listed.setIfInBounds i true) (a.put oi.dst v) w → wpAny2 P ops Q S1 S2 E (fuel + 1) listed a w := by
  intro fuel
  induction fuel with
  | zero =>
    intro listed a w _ _ hr hy hS2 hS1 H
    refine ⟨fun h => (by rw [h] at hr; cases hr), fun j hj => ?_⟩
    by_cases hji : j = i
    · subst hji; exact hy.wpOp hi hS2 ⟨⟨hS2, fun hn => hS1 hn.unset⟩, H⟩
    · have := ready_mono hj hji
      rw [H.1] at this
      cases this
  | succ fuel ih =>
    intro listed a w hc hfree hr hy hS2 hS1 H
    refine ⟨fun h => (by rw [h] at hr; cases hr), fun j hj => ?_⟩
    by_cases hji : j = i
    · subst hji; exact hy.wpOp hi hS2 ⟨⟨hS2, fun hn => hS1 hn.unset⟩, H⟩
    · have h1 := H.2 j (ready_mono hj hji)
      obtain ⟨hjun, oj, hoj, hall⟩ := mem_ready.1 hj
      have hun := (mem_ready.1 hr).1
      have hnot : ∀ e ∈ oj.after, Region.binds .any e = true → e.on ≠ i := fun e he hb heq => by
        have h1 := hall e he hb
        rw [heq, getD_true_false hun] at h1
        cases h1
      have h2 := wpOp_putIf hoj (hfree j oj hoj hji hjun hnot) (fun cs b => hsel i oi cs b hi) (fun cs b => hsel j oj cs b hoj) hQ hy h1
      have hfree' : ∀ k ok, ops[k]? = some ok → k ≠ i → (listed.setIfInBounds j true).getD k true = false →
          (∀ e ∈ ok.after, Region.binds .any e = true → e.on ≠ i) → oi.apart ops ok = true := fun k ok hk hki hun hno => by
        refine hfree k ok hk hki ?_ hno
        by_cases hjk : j = k
        · subst hjk; exact hjun
        · rw [getD_set_ne true hjk] at hun; exact hun
      have hsw : ∀ w', (NoE E ((listed.setIfInBounds i true).setIfInBounds j true) → S1 w') → NoE E (listed.setIfInBounds j true) → S1 w' := fun w' h hn => h (by
        rw [Array.setIfInBounds_comm _ _ (Ne.symm hji)]
        exact hn.set hEi)
      refine wpOp_mono (fun a' w' h3 => ⟨⟨h3.2.1.1, hsw w' h3.2.1.2⟩, ih (listed.setIfInBounds j true) a' w' (hc.set hj) hfree' (ready_mono hr (Ne.symm hji)) h3.1 h3.2.1.1 (hsw w' h3.2.1.2) ?_⟩) h2
      rw [Array.setIfInBounds_comm _ _ hji]
      exact h3.2.2

/-! ### The plan: 0: taken first, all the last ones wait for it; 1: taken first; 2: carried out where nothing else can come up; 3: one of the last ones, carried out. -/

def PlanT (P : Program) (ops : Array Oper) (Q : Exit → Act → World → Prop) (S1 S2 : World → Prop) : List (Nat × Oper) → Act → World → Prop
  | [], a, w => Q .normal a w
  | (0, o) :: r, a, w => ∃ v : Value, YieldsIf P ops S1 o v a ∧ PlanT P ops Q S1 S2 r (a.put o.dst v) w
  | (1, o) :: r, a, w => ∃ v : Value, YieldsIf P ops S2 o v a ∧ PlanT P ops Q S1 S2 r (a.put o.dst v) w
  | (2, o) :: r, a, w => if Region.wanted o (yielded ops a.tmps) then o.wp P a w (fun a' w' => (S2 w' ∧ S1 w') ∧ PlanT P ops Q S1 S2 r a' w') Q ∨ (o.asks P a w ∧ LetsOut Q) else PlanT P ops Q S1 S2 r (a.put o.dst undef) w
  | (_ + 3, o) :: r, a, w => if Region.wanted o (yielded ops a.tmps) then o.wp P a w (fun a' w' => S2 w' ∧ PlanT P ops Q S1 S2 r a' w') Q ∨ (o.asks P a w ∧ LetsOut Q) else PlanT P ops Q S1 S2 r (a.put o.dst undef) w

/-- The operations that are the last ones. -/
def lastOf (p : List (Nat × Nat)) : Nat → Bool := fun j => p.any fun x => x.1 == 3 && x.2 == j

def planT (l : List Oper) : List (Nat × Nat) → List (Nat × Oper)
  | [] => []
  | (b, i) :: r => match l.drop i with
    | o :: _ => (b, o) :: planT l r
    | [] => planT l r

/-- May it go so? ('b': the last ones have begun.) -/
def planTB (ops : Array Oper) (E : List Nat) : Bool → List (Nat × Nat) → Array Bool → Bool
  | _, [], listed => (Region.ready .any ops listed).isEmpty
  | b, (0, i) :: r, listed => !b && Region.free .any ops listed i && (Region.ready .any ops listed).contains i && !E.contains i && E.all (fun j => needs ops ops.size j i) && planTB ops E b r (listed.setIfInBounds i true)
  | b, (1, i) :: r, listed => Region.free .any ops listed i && (Region.ready .any ops listed).contains i && !E.contains i && planTB ops E b r (listed.setIfInBounds i true)
  | b, (2, i) :: r, listed => !b && !E.contains i && (Region.ready .any ops listed == [i]) && planTB ops E b r (listed.setIfInBounds i true)
  | _, (_ + 3, i) :: r, listed => E.contains i && (Region.ready .any ops listed == [i]) && planTB ops E true r (listed.setIfInBounds i true)

theorem planT_sound {l : List Oper} {EL : List Nat} (hs : Region.noSelect l.toArray = true) (hQ : ∀ (c : List PanicEntry) (a a' : Act) (w : World), Q (.panic c) a' w → Q (.panic c) a w) :
    ∀ (p : List (Nat × Nat)) (b : Bool) (listed : Array Bool) (a : Act) (w : World), Closed l.toArray listed → S2 w → (b = false → S1 w) → (b = true → ∃ j, EL.contains j = true ∧ listed.getD j false = true) → (p.all fun x => decide (x.2 < l.length)) = true → planTB l.toArray EL b p listed = true → (listed.size = l.length) →
      PlanT P l.toArray Q S1 S2 (planT l p) a w → wpAny2 P l.toArray Q S1 S2 (fun j => EL.contains j) p.length listed a w
  | [], b, listed, a, w, _, _, _, _, _, hb, _, h => by
    have hb' : Region.ready .any l.toArray listed = [] := by simpa [planTB] using hb
    exact ⟨hb', h⟩
  | (k, i) :: r, b, listed, a, w, hc, hS2, hS1, hE, hi, hb, hz, h => by
    simp only [List.all_cons, Bool.and_eq_true, decide_eq_true_eq] at hi
    have hz' : (listed.setIfInBounds i true).size = l.length := by simpa using hz
    have hset : (listed.setIfInBounds i true).getD i false = true := by simp [hz, hi.1]
    have hS1' : NoE (fun j => EL.contains j) listed → S1 w := fun hn => by
      cases b with
      | false => exact hS1 rfl
      | true =>
        obtain ⟨j, h1, h2⟩ := hE rfl
        rw [hn j h1] at h2
        cases h2
    unfold planT at h
    split at h
    case h_2 hd =>
      have := congrArg List.length hd
      simp at this
      omega
    case h_1 o t hd =>
      match k, h, hb with
      | 0, h, hb =>
        simp only [planTB, Bool.and_eq_true, Bool.not_eq_true', List.all_eq_true] at hb
        obtain ⟨v, hy, h⟩ := h
        obtain ⟨⟨⟨⟨⟨hb0, hb1⟩, hb2⟩, hb3⟩, hb4⟩, hb5⟩ := hb
        subst hb0
        have hr : i ∈ Region.ready .any l.toArray listed := by simpa using hb2
        exact first1 (drop_head hd) (Region.noSelect_spec hs) (fun c a w h => hQ c _ _ w h) hb3 (fun j hj => hb4 j (by simpa using hj)) _ listed a w hc (Region.free_spec (drop_head hd) hb1) hr hy hS2 (hS1 rfl)
          (planT_sound hs hQ r _ _ _ w (hc.set hr) hS2 hS1 (fun h => by cases h) hi.2 hb5 hz' h)
      | 1, h, hb =>
        simp only [planTB, Bool.and_eq_true, Bool.not_eq_true'] at hb
        obtain ⟨v, hy, h⟩ := h
        obtain ⟨⟨⟨hb1, hb2⟩, hb3⟩, hb5⟩ := hb
        have hr : i ∈ Region.ready .any l.toArray listed := by simpa using hb2
        exact first2 (drop_head hd) (Region.noSelect_spec hs) (fun c a w h => hQ c _ _ w h) hb3 _ listed a w hc (Region.free_spec (drop_head hd) hb1) hr hy hS2 hS1'
          (planT_sound hs hQ r b _ _ w (hc.set hr) hS2 hS1 (fun h => by obtain ⟨j, h1, h2⟩ := hE h; exact ⟨j, h1, getD_set_true h2⟩) hi.2 hb5 hz' h)
      | 2, h, hb =>
        simp only [planTB, Bool.and_eq_true, Bool.not_eq_true', beq_iff_eq] at hb
        obtain ⟨⟨⟨hb0, hb3⟩, hb2⟩, hb5⟩ := hb
        subst hb0
        have hr : i ∈ Region.ready .any l.toArray listed := by rw [hb2]; simp
        refine ⟨fun h0 => by (rw [h0] at hr; cases hr), fun j hj => ?_⟩
        obtain rfl : j = i := by rw [hb2] at hj; simpa using hj
        unfold wpOp
        rw [drop_head hd]
        simp only
        unfold PlanT at h
        split at h
        · rename_i hw
          rw [if_pos hw]
          exact h.imp (fun h => Oper.wp_mono (fun a' w' ⟨⟨h2, h1⟩, hp⟩ => ⟨⟨h2, fun _ => h1⟩, planT_sound hs hQ r _ _ a' w' (hc.set hr) h2 (fun _ => h1) (fun h => by cases h) hi.2 hb5 hz' hp⟩) h) id
        · rename_i hw
          rw [if_neg hw]
          exact ⟨⟨hS2, fun _ => hS1 rfl⟩, planT_sound hs hQ r _ _ _ w (hc.set hr) hS2 hS1 (fun h => by cases h) hi.2 hb5 hz' h⟩
      | k + 3, h, hb =>
        simp only [planTB, Bool.and_eq_true, beq_iff_eq] at hb
        obtain ⟨⟨hb3, hb2⟩, hb5⟩ := hb
        have hr : i ∈ Region.ready .any l.toArray listed := by rw [hb2]; simp
        have hno : ¬ NoE (fun j => EL.contains j) (listed.setIfInBounds i true) := fun hn => by
          have := hn i hb3
          rw [hset] at this
          cases this
        refine ⟨fun h0 => by (rw [h0] at hr; cases hr), fun j hj => ?_⟩
        obtain rfl : j = i := by rw [hb2] at hj; simpa using hj
        unfold wpOp
        rw [drop_head hd]
        simp only
        unfold PlanT at h
        split at h
        · rename_i hw
          rw [if_pos hw]
          exact h.imp (fun h => Oper.wp_mono (fun a' w' ⟨h2, hp⟩ => ⟨⟨h2, fun hn => absurd hn hno⟩, planT_sound hs hQ r true _ a' w' (hc.set hr) h2 (fun h => by cases h) (fun _ => ⟨j, hb3, hset⟩) hi.2 hb5 hz' hp⟩) h) id
        · rename_i hw
          rw [if_neg hw]
          exact ⟨⟨hS2, fun hn => absurd hn hno⟩, planT_sound hs hQ r true _ _ w (hc.set hr) hS2 (fun h => by cases h) (fun _ => ⟨j, hb3, hset⟩) hi.2 hb5 hz' h⟩

/-- **The region**, by a plan; 'EL': the last ones. (It must be shown not to panic.) -/
theorem wp_region_two {l : List Oper} {id : Nat} {a : Act} {w : World} (S1 S2 : World → Prop) (p : List (Nat × Nat)) (EL : List Nat) (hm : P.follows .mixedOrders = true) (hs : Region.noSelect l.toArray = true) (hn : (p.length == l.toArray.size) = true)
    (hi : (p.all fun x => decide (x.2 < l.length)) = true) (hb : planTB l.toArray EL false p (Array.replicate l.toArray.size false) = true) (h1 : S1 w.drew) (h2 : S2 w.drew)
    (h : PlanT P l.toArray (NoPanic Q) S1 S2 (planT l p) a w.drew) : (Code.region id l.toArray true).wp P Q a w := by
  refine wp_region_noPanic ?_
  refine wp_region_any hm ?_
  have h1 := planT_sound (S1 := S1) (S2 := S2) (EL := EL) hs (Q := NoPanic Q) (fun _ _ _ _ h => h) p false _ a w.drew (Closed.start _) h2 (fun _ => h1) (fun h => by cases h) hi hb (by simp) h
  rw [beq_iff_eq.1 hn] at h1
  exact wpAny_of_two _ _ _ _ h1

theorem PlanT.take0 {o : Oper} {r : List (Nat × Oper)} {a : Act} {w : World} {v : Value} (hw : Region.wanted o (yielded ops a.tmps) = true)
    (hy : ∀ w', S1 w' → (execOp a.eval o).run P w' = .ok (.value v) w') (h : PlanT P ops Q S1 S2 r (a.put o.dst v) w) : PlanT P ops Q S1 S2 ((0, o) :: r) a w :=
  ⟨v, .inl ⟨hw, hy⟩, h⟩
theorem PlanT.take1 {o : Oper} {r : List (Nat × Oper)} {a : Act} {w : World} {v : Value} (hw : Region.wanted o (yielded ops a.tmps) = true)
    (hy : ∀ w', S2 w' → (execOp a.eval o).run P w' = .ok (.value v) w') (h : PlanT P ops Q S1 S2 r (a.put o.dst v) w) : PlanT P ops Q S1 S2 ((1, o) :: r) a w :=
  ⟨v, .inl ⟨hw, hy⟩, h⟩
theorem PlanT.skip {k : Nat} {o : Oper} {r : List (Nat × Oper)} {a : Act} {w : World} (hw : Region.wanted o (yielded ops a.tmps) = false)
    (h : PlanT P ops Q S1 S2 r (a.put o.dst undef) w) : PlanT P ops Q S1 S2 ((k, o) :: r) a w := by
  match k with
  | 0 => exact ⟨undef, .inr ⟨hw, rfl⟩, h⟩
  | 1 => exact ⟨undef, .inr ⟨hw, rfl⟩, h⟩
  | 2 => unfold PlanT; rw [if_neg (by rw [hw]; simp)]; exact h
  | k + 3 => unfold PlanT; rw [if_neg (by rw [hw]; simp)]; exact h
theorem PlanT.exec2 {o : Oper} {r : List (Nat × Oper)} {a : Act} {w : World}
    (h : ∀ K : Act → World → Prop, Shut (∀ a w', S1 w' → S2 w' → PlanT P ops Q S1 S2 r a w' → K a w') → Region.wanted o (yielded ops a.tmps) = true ∧ Oper.wp P o a w K Q) : PlanT P ops Q S1 S2 ((2, o) :: r) a w := by
  have := h (fun a' w' => (S2 w' ∧ S1 w') ∧ PlanT P ops Q S1 S2 r a' w') (fun a w' h1 h2 hT => ⟨⟨h2, h1⟩, hT⟩)
  unfold PlanT
  rw [if_pos this.1]
  exact .inl this.2
theorem PlanT.exec3 {o : Oper} {r : List (Nat × Oper)} {a : Act} {w : World}
    (h : ∀ K : Act → World → Prop, Shut (∀ a w', S2 w' → PlanT P ops Q S1 S2 r a w' → K a w') → Region.wanted o (yielded ops a.tmps) = true ∧ Oper.wp P o a w K Q) : PlanT P ops Q S1 S2 ((3, o) :: r) a w := by
  have := h (fun a' w' => S2 w' ∧ PlanT P ops Q S1 S2 r a' w') (fun a w' h2 hT => ⟨h2, hT⟩)
  unfold PlanT
  rw [if_pos this.1]
  exact .inl this.2
theorem PlanT.done {a : Act} {w : World} (h : Q .normal a w) : PlanT P ops Q S1 S2 [] a w := h
end
end Go.Proofs.Ytmlijnekidihbaa
