/-
  A region whose order is open, in a round of a range over a function, at the wide fence: what is shown of it as of any region serves there.
-/
import Derived.Test.YteeikmpfgbfeoaaTwo
import Derived.RangeFuncNested
import Derived.RangeFuncBound
import Derived.RangeFuncCalls
import Derived.OrdersIn
import Derived.TacticsIn
namespace Go.Proofs.Yteeikmpfgbfeoaa
open Go.RowKit
section
variable {P : Program} {ops : Array Oper} {Q : Exit → Act → World → Prop} {l n : Nat}

theorem rowsIn_wide {row : String} {args : Array Value} {w : World} {R : Value → World → Prop} (h : Rows P row args w R) : RowsIn Fence.wide n P row args w R := by
  intro c cs hr
  obtain ⟨v, w', r, s⟩ := h c cs
  exact ⟨v, w', r, stepsIn_wide.2 s⟩

theorem wp_in_round {o : Oper} {a : Act} {w : World} {K : Act → World → Prop} (hd : ∀ c, o.op ≠ .defer c) (h : Oper.wp P o a w K Q) : Oper.wpIn (Fence.wide.inRound l) n P o a w K Q := by
  unfold Oper.wpIn
  refine ⟨fun _ _ => trivial, ?_⟩
  rw [show (Fence.wide.inRound l).round = some l from rfl, Oper.semAt_some l _ _ hd]
  unfold Oper.wp at h
  generalize (execOp a.eval o).run P w = r at *
  cases r with
  | ok x w' =>
    cases x with
    | value v => exact h
    | skip => exact h
    | defer d => exact h
    | enter f args => 
      refine ⟨fun h => (by cases h), CallsIn.inRound l (callsIn_wide.2 ?_)⟩
      exact h
    | row row args => exact ⟨fun h => (by cases h), rowsIn_wide h⟩
    | round l' f tmps assign body => exact absurd h (by simp [Oper.upon])
    | _ => exact absurd h (by simp [Oper.upon])
  | halt x w' =>
    cases x with
    | panic v => exact h
    | _ => exact absurd h (by simp [Oper.upon])

/-- None is a defer statement. -/
def noDefer (ops : Array Oper) : Bool := ops.all fun o => match o.op with
  | .defer _ => false
  | _ => true

theorem wpOp_in_round {i : Nat} {a : Act} {w : World} {K : Act → World → Prop} (hd : noDefer ops = true) (hl : ¬ LetsOut Q) (h : wpOp P ops Q i K a w) : wpOpIn (Fence.wide.inRound l) n P ops Q i K a w := by
  unfold wpOp at h
  unfold wpOpIn
  split
  · rename_i hi
    rw [hi] at h
    exact h
  · rename_i o ho
    rw [ho] at h
    simp only at h
    have hdo : ∀ c, o.op ≠ .defer c := fun c hc => by
      have := (Array.all_eq_true_iff_forall_mem.1 hd) o (Array.mem_of_getElem? ho)
      rw [hc] at this
      cases this
    split
    · rename_i hw
      rw [if_pos hw] at h
      exact h.elim (fun h => wp_in_round hdo h) (fun h => absurd h.2 hl)
    · rename_i hw
      rw [if_neg hw] at h
      exact ⟨fun _ _ => trivial, h⟩

theorem wpAny_in_round (hd : noDefer ops = true) (hl : ¬ LetsOut Q) : ∀ (fuel : Nat) (listed : Array Bool) (a : Act) (w : World), wpAny P .any ops Q fuel listed a w → wpAnyIn (Fence.wide.inRound l) n P .any ops Q fuel listed a w
  | 0, _, _, _, h => h
  | fuel + 1, _, _, _, h => ⟨h.1, fun i hi => wpOpIn_mono (fun a' w' h' => wpAny_in_round hd hl fuel _ a' w' h') (wpOp_in_round hd hl (h.2 i hi))⟩

theorem noPanic_out (h : ¬ LetsOut Q) : ¬ LetsOut (NoPanic Q) := fun ⟨a, w, hq⟩ => h ⟨a, w, hq⟩

/-- **The region**, by a plan, in a round. -/
theorem wp_region_two_round {lo : List Oper} {id : Nat} {a : Act} {w : World} (S1 S2 : World → Prop) (p : List (Nat × Nat)) (EL : List Nat) (hd : noDefer lo.toArray = true) (hl : ¬ LetsOut Q) (hm : P.follows .mixedOrders = true) (hs : Region.noSelect lo.toArray = true) (hn : (p.length == lo.toArray.size) = true)
    (hi : (p.all fun x => decide (x.2 < lo.length)) = true) (hb : planTB lo.toArray EL false p (Array.replicate lo.toArray.size false) = true) (h1 : S1 w.drew) (h2 : S2 w.drew)
    (h : PlanT P lo.toArray (NoPanic Q) S1 S2 (planT lo p) a w.drew) : (Code.region id lo.toArray true).wpIn (Fence.wide.inRound l) n P Q a w := by
  refine wpIn_mono (Q := NoPanic Q) ?_ NoPanic.imp
  refine wpIn_region_any hm ?_
  have h1 := planT_sound (S1 := S1) (S2 := S2) (EL := EL) hs (Q := NoPanic Q) (fun _ _ _ _ h => h) p false _ a w.drew (Closed.start _) h2 (fun _ => h1) (fun h => by cases h) hi hb (by simp) h
  rw [beq_iff_eq.1 hn] at h1
  exact wpAny_in_round hd (noPanic_out hl) _ _ _ _ (wpAny_of_two _ _ _ _ h1)
end
end Go.Proofs.Yteeikmpfgbfeoaa
