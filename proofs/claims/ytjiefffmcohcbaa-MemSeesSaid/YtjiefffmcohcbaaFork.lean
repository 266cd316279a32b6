/-
  A region whose order is open, in which, behind those that are taken first, one of two comes up: a plan for either.
-/
import Derived.Test.YtjiefffmcohcbaaThree
namespace Go.Proofs.Ytjiefffmcohcbaa
open Go.RowKit
section
variable {P : Program} {ops : Array Oper} {Q : Exit → Act → World → Prop} {S1 S2 : World → Prop} {E : Nat → Bool}

def forkB (ops : Array Oper) (EL : List Nat) (i j : Nat) (p q : List (Nat × Nat)) : List (Nat × Nat) → Array Bool → Bool
  | [], listed => !EL.contains i && !EL.contains j && (Region.ready .any ops listed == [i, j]) && planTB ops EL false p (listed.setIfInBounds i true) && planTB ops EL false q (listed.setIfInBounds j true)
  | (_, k) :: r, listed => Region.free .any ops listed k && (Region.ready .any ops listed).contains k && !EL.contains k && EL.all (fun j => needs ops ops.size j k) && forkB ops EL i j p q r (listed.setIfInBounds k true)

def ForkV (P : Program) (ops : Array Oper) (Q : Exit → Act → World → Prop) (S2 S1 : World → Prop) (p q : List (Nat × Oper)) : List (Nat × Oper) → Act → World → Prop
  | [], a, w => PlanV P ops Q S2 S1 p a w ∧ PlanV P ops Q S2 S1 q a w
  | (_, o) :: r, a, w => ∃ v : Value, YieldsIf P ops S1 o v a ∧ ForkV P ops Q S2 S1 p q r (a.put o.dst v) w

theorem exec_sound {l : List Oper} {EL : List Nat} (hs : Region.noSelect l.toArray = true) (hQ : ∀ (c : List PanicEntry) (a a' : Act) (w : World), Q (.panic c) a' w → Q (.panic c) a w)
    (i : Nat) (r : List (Nat × Nat)) (S1 : World → Prop) (listed : Array Bool) (a : Act) (w : World) (hc : Closed l.toArray listed) (hS2 : S2 w) (hS1 : S1 w) (hi : i < l.length) (hir : (r.all fun x => decide (x.2 < l.length)) = true)
    (hr : i ∈ Region.ready .any l.toArray listed) (hb : planTB l.toArray EL false r (listed.setIfInBounds i true) = true) (hz : listed.size = l.length) (h : PlanV P l.toArray Q S2 S1 (planT l ((2, i) :: r)) a w) :
    wpOp P l.toArray Q i (fun a' w' => (S2 w' ∧ (NoE (fun j => EL.contains j) (listed.setIfInBounds i true) → S1 w')) ∧ wpAny2 P l.toArray Q S1 S2 (fun j => EL.contains j) r.length (listed.setIfInBounds i true) a' w') a w := by
  have hz' : (listed.setIfInBounds i true).size = l.length := by simpa using hz
  unfold planT at h
  split at h
  case h_2 hd =>
    have := congrArg List.length hd
    simp at this
    omega
  case h_1 o t hd =>
    unfold wpOp
    rw [drop_head hd]
    simp only
    unfold PlanV at h
    split at h
    · rename_i hw
      rw [if_pos hw]
      exact h.imp (fun h => Oper.wp_mono (fun a' w' ⟨S1', hle, ⟨h2, h1⟩, hp⟩ => ⟨⟨h2, fun _ => hle _ h1⟩, wpAny2_mono hle _ _ _ _ (planV_sound hs hQ r S1' _ _ a' w' (hc.set hr) h2 (fun _ => h1) (fun h => by cases h) hir hb hz' hp)⟩) h) id
    · rename_i hw
      rw [if_neg hw]
      exact ⟨⟨hS2, fun _ => hS1⟩, planV_sound hs hQ r S1 _ _ _ w (hc.set hr) hS2 (fun _ => hS1) (fun h => by cases h) hir hb hz' h⟩

theorem fork_sound {l : List Oper} {EL : List Nat} (hs : Region.noSelect l.toArray = true) (hQ : ∀ (c : List PanicEntry) (a a' : Act) (w : World), Q (.panic c) a' w → Q (.panic c) a w) (i j : Nat) (p q : List (Nat × Nat))
    (hi : i < l.length) (hj : j < l.length) (hip : (p.all fun x => decide (x.2 < l.length)) = true) (hiq : (q.all fun x => decide (x.2 < l.length)) = true) (hpq : p.length = q.length) :
    ∀ (T : List (Nat × Nat)) (listed : Array Bool) (a : Act) (w : World), Closed l.toArray listed → S2 w → S1 w → (T.all fun x => decide (x.2 < l.length)) = true → forkB l.toArray EL i j p q T listed = true → listed.size = l.length →
      ForkV P l.toArray Q S2 S1 (planT l ((2, i) :: p)) (planT l ((2, j) :: q)) (planT l T) a w → wpAny2 P l.toArray Q S1 S2 (fun j => EL.contains j) (T.length + (p.length + 1)) listed a w
  | [], listed, a, w, hc, hS2, hS1, _, hb, hz, h => by
    simp only [forkB, Bool.and_eq_true, Bool.not_eq_true', beq_iff_eq] at hb
    obtain ⟨⟨⟨⟨_, _⟩, hb2⟩, hb3⟩, hb4⟩ := hb
    rw [List.length_nil, Nat.zero_add]
    refine ⟨fun h0 => by (rw [hb2] at h0; cases h0), fun k hk => ?_⟩
    have hk' := hk
    rw [hb2] at hk'
    rcases List.mem_cons.1 hk' with e | hk'
    · rw [e]
      exact exec_sound hs hQ i p S1 listed a w hc hS2 hS1 hi hip (by rw [hb2]; simp) hb3 hz h.1
    · rw [List.mem_singleton.1 hk', hpq]
      exact exec_sound hs hQ j q S1 listed a w hc hS2 hS1 hj hiq (by rw [hb2]; simp) hb4 hz h.2
  | (k, n) :: r, listed, a, w, hc, hS2, hS1, hT, hb, hz, h => by
    simp only [List.all_cons, Bool.and_eq_true, decide_eq_true_eq] at hT
    simp only [forkB, Bool.and_eq_true, Bool.not_eq_true', List.all_eq_true] at hb
    obtain ⟨⟨⟨⟨hb1, hb2⟩, hb3⟩, hb4⟩, hb5⟩ := hb
    have hz' : (listed.setIfInBounds n true).size = l.length := by simpa using hz
    have hr : n ∈ Region.ready .any l.toArray listed := by simpa using hb2
    rw [show planT l ((k, n) :: r) = (match l.drop n with | o :: _ => (k, o) :: planT l r | [] => planT l r) from rfl] at h
    split at h
    case h_2 hd =>
      have := congrArg List.length hd
      simp at this
      omega
    case h_1 o t hd =>
      obtain ⟨v, hy, h⟩ := h
      rw [List.length_cons, Nat.add_right_comm]
      exact first1 (drop_head hd) (Region.noSelect_spec hs) (fun c a w h => hQ c _ _ w h) hb3 (fun j hj => hb4 j (by simpa using hj)) _ listed a w hc (Region.free_spec (drop_head hd) hb1) hr hy hS2 hS1
        (fork_sound hs hQ i j p q hi hj hip hiq hpq r _ _ w (hc.set hr) hS2 hS1 hT.2 hb5 hz' h)

/-- **The region**: those of 'T' first; then 'i' and 'p', or 'j' and 'q'. (It must be shown not to panic.) -/
theorem wp_region_fork {l : List Oper} {id : Nat} {a : Act} {w : World} (S1 S2 : World → Prop) (T : List (Nat × Nat)) (i j : Nat) (p q : List (Nat × Nat)) (EL : List Nat) (hm : P.follows .mixedOrders = true) (hs : Region.noSelect l.toArray = true) (hn : (T.length + (p.length + 1) == l.toArray.size) = true)
    (hi : (decide (i < l.length) && decide (j < l.length) && (p.all fun x => decide (x.2 < l.length)) && (q.all fun x => decide (x.2 < l.length)) && (T.all fun x => decide (x.2 < l.length)) && p.length == q.length) = true) (hb : forkB l.toArray EL i j p q T (Array.replicate l.toArray.size false) = true) (h1 : S1 w.drew) (h2 : S2 w.drew)
    (h : ForkV P l.toArray (NoPanic Q) S2 S1 (planT l ((2, i) :: p)) (planT l ((2, j) :: q)) (planT l T) a w.drew) : (Code.region id l.toArray true).wp P Q a w := by
  refine wp_region_noPanic ?_
  refine wp_region_any hm ?_
  simp only [Bool.and_eq_true, decide_eq_true_eq, beq_iff_eq] at hi
  obtain ⟨⟨⟨⟨⟨hi1, hi2⟩, hi3⟩, hi4⟩, hi5⟩, hi6⟩ := hi
  have h1 := fork_sound (S2 := S2) (EL := EL) hs (Q := NoPanic Q) (fun _ _ _ _ h => h) i j p q hi1 hi2 hi3 hi4 hi6 T _ a w.drew (Closed.start _) h2 h1 hi5 hb (by simp) h
  rw [beq_iff_eq.1 hn] at h1
  exact wpAny_of_two _ _ _ _ h1

theorem ForkV.take {p q : List (Nat × Oper)} {k : Nat} {o : Oper} {r : List (Nat × Oper)} {a : Act} {w : World} {v : Value} (hw : Region.wanted o (yielded ops a.tmps) = true)
    (hy : ∀ w', S1 w' → (execOp a.eval o).run P w' = .ok (.value v) w') (h : ForkV P ops Q S2 S1 p q r (a.put o.dst v) w) : ForkV P ops Q S2 S1 p q ((k, o) :: r) a w :=
  ⟨v, .inl ⟨hw, hy⟩, h⟩
theorem ForkV.both {p q : List (Nat × Oper)} {a : Act} {w : World} (h1 : PlanV P ops Q S2 S1 p a w) (h2 : PlanV P ops Q S2 S1 q a w) : ForkV P ops Q S2 S1 p q [] a w := ⟨h1, h2⟩
end
end Go.Proofs.Ytjiefffmcohcbaa
