/-
  A call that is tried: the program's 'tried', of any closure.
-/
import Derived.Test.YtljjgpjaleekdaaGreatDoorFarSmall
namespace Go.Proofs.YtljjgpjaleekdaaGreatDoor
open Go.RowKit

/-- At most so many tries, till another error than 8 is told. -/
def FR.tries (g : FR → Nat × FR) : Nat → FR → Nat × FR
  | 0, f => (8, f)
  | k + 1, f => if (g f).1 = 8 then FR.tries g k (g f).2 else g f

/-- .. of calls that tell something besides, and only take an outcome. -/
def FR.tries2 {α : Type} (g : FR → α × Nat) (a0 : α) : Nat → FR → (α × Nat) × FR
  | 0, f => ((a0, 8), f)
  | k + 1, f => if (g f).2 = 8 then FR.tries2 g a0 k f.took else (g f, f.took)

def FR.gets (f : FR) (n : List UInt8) (a c : Int) : (List UInt8 × Nat) × FR := FR.tries2 (fun f => f.get n a c) [] 4 f
def FR.lists (f : FR) : (List (List UInt8) × Nat) × FR := FR.tries2 FR.list [] 4 f

def FR.up (f : FR) (n b : List UInt8) : Nat × FR :=
  let x := FR.tries (·.put n b) 4 f
  if x.1 = 3 then
    let y := x.2.gets n 0 1048576
    (if y.1.2 = 0 then (if y.1.1 = b then 0 else 3) else y.1.2, y.2)
  else x

def FR.cdrop (f : FR) (n : List UInt8) : Nat × FR :=
  let x := FR.tries (·.drop n) 4 f
  (if x.1 = 2 then 0 else x.1, x.2)

set_option maxRecDepth 100000 in
set_option maxHeartbeats 4000000 in
theorem tried_any (k : Nat) (caps : Array Value) (hen : Enters Tryz.prog k) (w : World) (I : Nat → World → Prop) (Q : Nat → World → Prop) (h0 : I 0 w)
    (hstep : ∀ i w, i < 4 → I i w → Calls Tryz.prog k caps w fun e w' => ∃ r : Nat, e = .returned (.int .i64 (r : Int)) ∧ (r = 8 → I (i + 1) w') ∧ (r ≠ 8 → Q r w')) :
    Calls Tryz.prog 32 #[.func (.func k) #[] caps] w fun e w' => ∃ r : Nat, e = .returned (.int .i64 (r : Int)) ∧ (r = 8 ∧ I 4 w' ∨ r ≠ 8 ∧ Q r w') := by
  have HS := Lib.hid hstep
  unfold Enters at hen
  clear hstep
  go_enter Tryz.func32, Tryz.ntmps32
  go_wp2
  go_step3
  go_wp2
  go_step3
  go_wp2
  go_loopw [3, 4] (fun x i wr => ∃ k : Nat, k ≤ 4 ∧ i = .int .i64 k ∧ x = .int .i64 8 ∧ I k wr) (fun _ i _ => 4 - (intOf i).toNat)
  case atStart => exact ⟨0, by omega, rfl, rfl, h0⟩
  case round =>
    obtain ⟨k, hk, rfl, rfl, hi⟩ := hrel
    have HI := Lib.hid hi
    clear hi
    by_cases hlt : k < 4
    · go_wp2_with (refine (HS.out k _ hlt HI.out).mono ?_; rintro e w3 ⟨r, rfl, hr⟩; have HR := Lib.hid hr; clear hr)
      · have hr8 : r ≠ 8 := by rename_i hh; simp at hh; omega
        rw [Exit.noGoto_ret]
        go_ret
        exact ⟨r, rfl, .inr ⟨hr8, HR.out.2 hr8⟩⟩
      · have hr8 : r = 8 := by rename_i hh; simp at hh; omega
        subst hr8
        exact ⟨⟨k + 1, by omega, by go_num, rfl, HR.out.1 rfl⟩, by simp [intOf]; omega⟩
    · have h4 : k = 4 := by omega
      subst h4
      go_wp2
      rw [Exit.noGoto_ret]
      go_ret
      exact ⟨8, rfl, .inl ⟨rfl, HI.out⟩⟩
end Go.Proofs.YtljjgpjaleekdaaGreatDoor
