/-
  Blocks: the entry that four reads tell.
-/
import Derived.Test.YtdcjfgbngmdkfaaBlkPar
namespace Go.Proofs.Ytdcjfgbngmdkfaa
open Go.RowKit

/-- The entry that the four reads tell. -/
def ent_by (L : ByteArray) (s x : Nat) (rs vs : List UInt8) : Ent := ⟨L.extract 0 s ++ strB rs, (x : Int) / 2, 1 + (x : Int) % 2, strB vs⟩
theorem ent_same {L : ByteArray} {s x : Nat} {rs vs last : List UInt8} (h : L = strB last) : ent_by L s x rs vs = ⟨strB (last.take s ++ rs), ((x / 2 : Nat) : Int), ((1 + x % 2 : Nat) : Int), strB vs⟩ := by
  unfold ent_by
  have h1 : L.extract 0 s ++ strB rs = strB (last.take s ++ rs) := by
    rw [h]
    apply ByteArray.ext
    apply Array.ext'
    simp [ByteArray.data_extract, List.extract_eq_take_drop]
  rw [h1, show (x : Int) / 2 = ((x / 2 : Nat) : Int) by omega, show 1 + (x : Int) % 2 = ((1 + x % 2 : Nat) : Int) by omega]
theorem ent_len {L : ByteArray} {s : Nat} {rs : List UInt8} : (L.extract 0 s ++ strB rs).size ≤ L.size + rs.length := by
  have h : (L.extract 0 s).data.toList.length ≤ L.size := by
    rw [ByteArray.data_extract, Array.toList_extract, List.extract_eq_take_drop, List.length_take]
    simp only [List.drop_zero, Array.length_toList]
    show min _ L.size ≤ L.size
    omega
  rw [ByteArray.size_append, strB_size]
  show (L.extract 0 s).data.toList.length + rs.length ≤ _
  omega
theorem ent_fits {L : ByteArray} {s x : Nat} {rs vs : List UInt8} (hL : L.size ≤ 100000000) (hx : x ≤ 9223372036854775807) (hr : rs.length ≤ 1000000) (hv : vs.length ≤ 1000000) : (ent_by L s x rs vs).fits := by
  have := ent_len (L := L) (s := s) (rs := rs)
  refine ⟨?_, ?_, ?_, ?_⟩
  · show (L.extract 0 s ++ strB rs).size ≤ maxLen
    unfold maxLen
    omega
  · show (strB vs).size ≤ maxLen
    rw [strB_size]
    unfold maxLen
    omega
  · show (Lit.int .i64 ((x : Int) / 2)).wf = true
    simp only [Lit.wf, IntKind.min, IntKind.max, IntKind.signed, IntKind.bits]
    simp
    omega
  · show (Lit.int .i64 (1 + (x : Int) % 2)).wf = true
    simp only [Lit.wf, IntKind.min, IntKind.max, IntKind.signed, IntKind.bits]
    simp
    omega

end Go.Proofs.Ytdcjfgbngmdkfaa
