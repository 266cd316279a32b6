/-
  Blocks: a block of entries, as the document tells it.
-/
import Derived.Test.YteeikmpfgbfeoaaBlkBox
import Derived.Test.YteeikmpfgbfeoaaBlkShared
import Derived.Test.YteeikmpfgbfeoaaRefFixed
import Derived.Test.YteeikmpfgbfeoaaRefNum
import Derived.Test.YteeikmpfgbfeoaaKeyRefRising
namespace Go.Proofs.Yteeikmpfgbfeoaa
open Go.RowKit

theorem extract_drop (u : ByteArray) (n : Nat) : (u.extract n u.size).data.toList = u.data.toList.drop n := by
  rw [ByteArray.data_extract, Array.toList_extract, List.extract_eq_take_drop, List.take_of_length_le]
  rw [List.length_drop, size_list]
  exact Nat.le_refl _

theorem putT_le (s : List UInt8) (h : s.length ≤ 600) : (putT s).length ≤ s.length + 9 := by
  unfold putT
  rw [List.length_append]
  have := putL_length s.length (by omega)
  omega
theorem entB_le {e : Ent} {s : Nat} (hm : e.may = true) (hs : s ≤ (uL e).length) : (entB e s).length ≤ 700 := by
  obtain ⟨m1, m2, m3, m4, m5⟩ := may_facts hm
  unfold entB
  simp only [List.length_append]
  have h1 := putL_length s (by omega)
  have h2 := putT_le ((uL e).drop s) (by rw [List.length_drop]; omega)
  have h3 := putL_length (numE e) (by unfold numE; omega)
  have h4 := putT_le (vL e) (by omega)
  rw [List.length_drop] at h2
  omega
theorem bodyN_len {es : List Ent} (hm : ∀ k, k < es.length → (es.getD k Ent.none_).may = true) : ∀ k, k ≤ es.length → (bodyN es k).length ≤ 700 * k
  | 0, _ => by simp [bodyN]
  | k + 1, h => by
    unfold bodyN
    rw [List.length_append]
    have h1 := bodyN_len hm k (by omega)
    have h2 := entB_le (hm k (by omega)) (shE_le es k).1
    omega

/-- What a call tells that puts entries into a block. -/
def RetPut (w : World) (es : List Ent) (e : Ending) (w' : World) : Prop :=
  ∃ x, e = .returned (.tuple #[x, .int .i64 (putErr es)]) ∧ OwnB w' w.heap.size 5 x (if putErr es = 0 then blockL es else []) ∧ Below w.heap.size w w'

theorem RetPut.no {w w' : World} {es : List Ent} {x : Int} (h : putErr es = x) (hx : x ≠ 0) (hb : Below w.heap.size w w') : RetPut w es (.returned (.tuple #[.slice none 0 0, .int .i64 x])) w' :=
  ⟨_, by rw [h], by rw [if_neg (by omega)]; exact OwnB.nil _ _ _, hb⟩

end Go.Proofs.Yteeikmpfgbfeoaa
