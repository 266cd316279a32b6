/-
  How arguments are opened: a slice of strings.
-/
import Derived.Test.YtnmmeaoapfampaaLift
import Derived.Lib.SmallJoins
namespace Go.Proofs.Ytnmmeaoapfampaa
open Go.ChangeShapes Go.WideShapes Go.ChangeAt Go.RowKit Go.Deep

/-- The slice 'v' reads as the strings 'l' in world 'w'. -/
def RdS (w : World) (v : Value) (l : List ByteArray) : Prop := Rd w 1 v l.length (l.map Value.string) ∧ ∀ s ∈ l, s.size ≤ maxLen

section
end
end Go.Proofs.Ytnmmeaoapfampaa
