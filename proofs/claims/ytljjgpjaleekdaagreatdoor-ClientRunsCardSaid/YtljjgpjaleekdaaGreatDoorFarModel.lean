/-
  A far store as plain data: what chapter 5 says of it; nothing of the program.
-/
import Derived.Test.YtljjgpjaleekdaaGreatDoorCells
namespace Go.Proofs.YtljjgpjaleekdaaGreatDoor

/-- A far store: objects by rising names, outcomes that are left, calls. -/
structure FR where
  objs : List (List UInt8 × List UInt8)
  left : List Int
  calls : Nat

def FR.new : FR := ⟨[], [], 0⟩
/-- What befalls the next call. -/
def FR.out (f : FR) : Int := f.left.headD 0
/-- A call was made. -/
def FR.took (f : FR) : FR := ⟨f.objs, f.left.tail, f.calls + 1⟩
/-- What is told of an error. -/
def tells (out : Int) (e : Nat) : Nat := if out = 1 ∨ out = 2 then 8 else e
def FR.next (f : FR) (l : List Int) : FR := ⟨f.objs, l, f.calls⟩
def FR.putE (f : FR) (n b : List UInt8) : Nat := if !nmOk n then 1 else if 1048576 < b.length then 4 else if (nfind f.objs n).isSome then 3 else 0
def FR.putD (f : FR) (n b : List UInt8) : FR := if f.putE n b = 0 then ⟨nwith f.objs n b, f.left, f.calls⟩ else f
def FR.dropE (f : FR) (n : List UInt8) : Nat := if (nfind f.objs n).isSome then 0 else 2
def FR.dropD (f : FR) (n : List UInt8) : FR := ⟨nwithout f.objs n, f.left, f.calls⟩
def FR.getE (f : FR) (n : List UInt8) (at_ k : Int) : Nat := match nfind f.objs n with
  | none => 2
  | some b => if at_ < 0 ∨ (b.length : Int) < at_ ∨ k < 0 then 1 else 0
def FR.getB (f : FR) (n : List UInt8) (at_ k : Int) : List UInt8 := match nfind f.objs n with
  | none => []
  | some b => (b.drop at_.toNat).take k.toNat
/-- A call that does 'g' where it is done. -/
def FR.does (f : FR) (g : FR → FR) : FR := if f.out = 1 then f.took else g f.took
def FR.put (f : FR) (n b : List UInt8) : Nat × FR := (tells f.out (f.putE n b), f.does (·.putD n b))
def FR.drop (f : FR) (n : List UInt8) : Nat × FR := (tells f.out (f.dropE n), f.does (·.dropD n))
def FR.get (f : FR) (n : List UInt8) (at_ k : Int) : List UInt8 × Nat := (if tells f.out (f.getE n at_ k) = 0 then f.getB n at_ k else [], tells f.out (f.getE n at_ k))
def FR.list (f : FR) : List (List UInt8) × Nat := (if tells f.out 0 = 0 then f.objs.map (·.1) else [], tells f.out 0)

theorem putE_took (f : FR) (n b : List UInt8) : f.took.putE n b = f.putE n b := rfl
theorem nwithout_none {β : Type} {l : List (List UInt8 × β)} {n : List UInt8} (h : nfind l n = none) : nwithout l n = l := by
  unfold nwithout
  refine List.filter_eq_self.2 fun x hx => ?_
  unfold nfind at h
  simp only [Option.map_eq_none_iff, List.find?_eq_none] at h
  simpa using h x hx
theorem dropD_none {f : FR} {n : List UInt8} (h : nfind f.objs n = none) : f.dropD n = f := by
  unfold FR.dropD
  rw [nwithout_none h]
end Go.Proofs.YtljjgpjaleekdaaGreatDoor
