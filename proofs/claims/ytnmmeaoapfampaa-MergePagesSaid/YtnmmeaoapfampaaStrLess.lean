/-
  Texts held against one another as the machine does it.
-/
import Derived.Test.YtnmmeaoapfampaaKeyRefCmp
namespace Go.Proofs.Ytnmmeaoapfampaa
open Go.RowKit

theorem less_yes {a b : ByteArray} (h : cmpL a.data.toList b.data.toList < 0) : Op.bytesLess a.toList b.toList = true := by
  rw [toList_data, toList_data, less_cmp]
  have hs := cmpL_sgn a.data.toList b.data.toList
  unfold Sgn at hs
  have : cmpL a.data.toList b.data.toList = -1 := by omega
  simpa using this
theorem less_no {a b : ByteArray} (h : ¬ cmpL a.data.toList b.data.toList < 0) : Op.bytesLess a.toList b.toList = false := by
  rw [toList_data, toList_data, less_cmp]
  have : cmpL a.data.toList b.data.toList ≠ -1 := by omega
  simpa using this
theorem full_list {a : ByteArray} (h : a ≠ ⟨#[]⟩) : (!a.toList.isEmpty) = true := by
  have h2 : a.toList ≠ [] := by
    rw [toList_data]
    exact fun e => h (ByteArray.ext (Array.toList_inj.1 e))
  cases hl : a.toList with
  | nil => exact absurd hl h2
  | cons => rfl
end Go.Proofs.Ytnmmeaoapfampaa
