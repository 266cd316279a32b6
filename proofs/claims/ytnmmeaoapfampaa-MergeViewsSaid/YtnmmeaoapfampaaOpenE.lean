/-
  How arguments are opened: an entry (a slice of strings: OpenS).
-/
import Derived.Test.YtnmmeaoapfampaaOpen
import Derived.Test.YtnmmeaoapfampaaOpenS
namespace Go.Proofs.Ytnmmeaoapfampaa
open Go.ChangeShapes Go.WideShapes Go.ChangeAt Go.RowKit Go.Deep

section
variable {H : Type} {enc : TypeId × Value → H} {w : World} {base : Nat} {spare : Nat → Bool} {held : Bool}

set_option maxRecDepth 100000 in
theorem ent_open {r : Reach} {b0 : Nat} {v : Value} {d : DataW H} {p : List MemPlace} (hv : Value.okWide Try.prog w r b0 38 v) (h : DataW.Trod enc Try.prog w base spare held 38 v d p) :
    ∃ e : Ent, v = .agg #[.string e.u, .int .i64 e.s, .int .i64 e.k, .string e.v] ∧ e.fits := by
  obtain ⟨cs, rfl, _⟩ := okWide_struct Try.underlying38 hv
  obtain ⟨n, hn⟩ := h
  obtain ⟨e, hc, he⟩ := entCells_open hn
  refine ⟨e, ?_, he⟩
  have : cs.toList = [.string e.u, .int .i64 e.s, .int .i64 e.k, .string e.v] := by simpa [Value.cells, Ent.cells] using hc
  congr 1
  exact Array.toList_inj.1 this

end
end Go.Proofs.Ytnmmeaoapfampaa
