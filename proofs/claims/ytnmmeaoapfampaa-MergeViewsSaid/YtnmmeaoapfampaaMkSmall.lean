/-
  Entries made by numbers are small; a row of bytes.
-/
import Derived.Test.YtnmmeaoapfampaaBlkMake
import Derived.Test.YtnmmeaoapfampaaGreat12
namespace Go.Proofs.Ytnmmeaoapfampaa
open Go.RowKit

/-- A row of bytes that was just laid. -/
theorem rdB_row (w : World) (l : List UInt8) (hl : l.length ≤ 1000) : RdB (w.alloc (.cells (l.map bv).toArray 5)) (.slice (some ⟨w.heap.size, 0, none⟩) l.length l.length) l := by
  refine ⟨_, l.length, rfl, Nat.le_refl _, by unfold maxLen; omega, by simp, .inr ⟨w.heap.size, 0, rfl, by simp, fun j u hj => ?_⟩⟩
  rw [Nat.zero_add, cell_of_row _ w.heap.size j _ 5 (0, 0) (heap_alloc_new w _)]
  simpa using hj

theorem may_small {es : List Ent} (h : ∀ e ∈ es, e.may = true) (hl : es.length ≤ 1000) : SmallE es :=
  ⟨hl, fun e he => by have := may_kind (h e he); omega⟩
theorem mk_fits (ns : List UInt8) (sp : Nat) : ∀ e ∈ mkB ns sp, e.fits := fun e he => Ent.may_fits (mkB_may ns sp e he)

end Go.Proofs.Ytnmmeaoapfampaa
