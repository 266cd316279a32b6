/-
  Regions whose order is open, that only read, with calls that lay blocks of their own.
-/
import Derived.Test.YtmlijnekidihbaaBase
import Derived.Deep.QuietTactic
import Derived.BigQuiet
namespace Go.Proofs.Ytmlijnekidihbaa
open Go.RowKit

/-- How a call that lays blocks and draws moves a world on. -/
structure ShiftBy where
  n : Nat
  os : Array Obj
  deriving Inhabited
def shiftW (w : World) (n : Nat) (os : Array Obj) : World := { w with heap := w.heap ++ os, drawn := n }
theorem shift_below (w : World) (n : Nat) (os : Array Obj) : Below w.heap.size w (shiftW w n os) :=
  ⟨rfl, rfl, rfl, by simp [shiftW], fun k hk => by simp [shiftW, Array.getElem?_append_left hk]⟩
theorem shift_of {w w' : World} (h : Below w.heap.size w w') : ∃ p : ShiftBy, w' = shiftW w p.n p.os := by
  obtain ⟨h1, h2, h3, h4, h5⟩ := h
  refine ⟨⟨w'.drawn, w'.heap.extract w.heap.size w'.heap.size⟩, ?_⟩
  cases w with
  | mk hp tp dr o ou =>
    cases w' with
    | mk hp' tp' dr' o' ou' =>
      simp only at h1 h2 h3 h4 h5
      subst h1
      subst h2
      subst h3
      simp only [shiftW, World.mk.injEq, and_true]
      refine Array.ext_getElem? fun i => ?_
      by_cases hi : i < hp.size
      · rw [h5 i hi, Array.getElem?_append_left hi]
      · rw [Array.getElem?_append_right (by omega), Array.getElem?_extract]
        by_cases h6 : i < hp'.size
        · rw [if_pos (by omega)]
          congr 1
          omega
        · rw [if_neg (by omega), Array.getElem?_eq_none (by omega)]
theorem shift_shift (w : World) (n m : Nat) (os os' : Array Obj) : shiftW (shiftW w n os) m os' = shiftW w m (os ++ os') := by
  unfold shiftW
  simp [Array.append_assoc]
theorem shift_drew (w : World) : ∃ p : ShiftBy, w.drew = shiftW w p.n p.os := ⟨⟨w.drawn + 1, #[]⟩, by unfold shiftW World.drew; simp⟩
/-- A callee that leaves what was there, met in such a world. -/
theorem Calls.shift_of {P : Program} {f : FuncId} {args : Array Value} {w : World} {n : Nat} {os : Array Obj} {v : Value}
    (h : Calls P f args (shiftW w n os) fun e w' => e = .returned v ∧ Below (shiftW w n os).heap.size (shiftW w n os) w') : Calls P f args (shiftW w n os) fun e w'' => e = .returned v ∧ ∃ p : ShiftBy, w'' = shiftW w p.n p.os :=
  h.mono fun _ _ ⟨he, hb⟩ => ⟨he, by
    obtain ⟨p, rfl⟩ := Go.Proofs.Ytmlijnekidihbaa.shift_of hb
    exact ⟨⟨p.n, os ++ p.os⟩, shift_shift _ _ _ _ _⟩⟩
/-- A region that draws its order and only reads, with calls that lay blocks. -/
theorem wp_region_shift {P : Program} {id : Nat} {Q : Exit → Act → World → Prop} {a : Act} {w : World} {l : List Oper} (hm : P.follows .mixedOrders = true) (hB : Region.lexB .any l.toArray = true)
    (h : wpQuiet P l.toArray (fun w' => ∃ p : ShiftBy, w' = shiftW w p.n p.os) (fun a' => ∀ w', (∃ p : ShiftBy, w' = shiftW w p.n p.os) → Q .normal a' w') l a) : (Code.region id l.toArray true).wp P Q a w :=
  wp_region_quiet (C := fun w' => ∃ p : ShiftBy, w' = shiftW w p.n p.os) hm hB (shift_drew w) (by simpa using h)
end Go.Proofs.Ytmlijnekidihbaa
