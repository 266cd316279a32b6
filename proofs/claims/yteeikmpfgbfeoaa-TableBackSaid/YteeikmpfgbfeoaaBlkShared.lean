/-
  Blocks: how many bytes two texts begin with alike, as the document counts.
-/
import Derived.Test.YteeikmpfgbfeoaaBlkGet
import Derived.Test.YteeikmpfgbfeoaaRegion
import Derived.Test.YteeikmpfgbfeoaaCells
import Derived.Deep.Cut
namespace Go.Proofs.Yteeikmpfgbfeoaa
open Go.RowKit

theorem take_next {x y : List UInt8} {n : Nat} (h1 : n < x.length) (h2 : n < y.length) (h : x.take n = y.take n) (h3 : x.getD n 0 = y.getD n 0) : x.take (n + 1) = y.take (n + 1) := by
  rw [List.take_succ_eq_append_getElem h1, List.take_succ_eq_append_getElem h2, h]
  simp only [List.getD, List.getElem?_eq_getElem h1, List.getElem?_eq_getElem h2, Option.getD_some] at h3
  rw [h3]

end Go.Proofs.Yteeikmpfgbfeoaa
