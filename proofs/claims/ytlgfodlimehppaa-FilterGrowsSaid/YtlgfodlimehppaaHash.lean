/-
  What sum.Hash does, for all that it is given, and the document's.
-/
import Derived.Test.YtlgfodlimehppaaSumTurn
import Derived.Test.YtlgfodlimehppaaWords
namespace Go.Proofs.Ytlgfodlimehppaa
open Go.RowKit

theorem hashG_take (h : Nat) (l : List UInt8) (k : Nat) (hk : k < l.length) : hashG h (l.take (k + 1)) = hashB (hashG h (l.take k)) (l.getD k 0) := by
  rw [take_snoc' l k hk, hashG_snoc]

theorem hash_step (x : Nat) (c : UInt8) (hx : x < 4294967296) : bits .xor .u32 (x : Int) (c.toNat : Int) * 16777619 % 4294967296 = ((hashB x c : Nat) : Int) := by
  have := c.toNat_lt
  rw [xor_u32 _ _ hx (by omega), hashB]
  generalize x ^^^ c.toNat = z
  omega

theorem str_size (s : ByteArray) : s.data.toList.length = s.size := by rw [Array.length_toList]; rfl

set_option maxRecDepth 100000 in
set_option maxHeartbeats 1000000 in
theorem hash_any (s : ByteArray) (hs : s.size ≤ maxLen) (w : World) :
    Calls Try.prog 34 #[.string s] w fun e w' => e = .returned (.int .i64 (hashL s.data.toList : Nat)) ∧ w = w' := by
  have hsz := str_size s
  unfold maxLen at hs
  go_enter Try.func34, Try.ntmps34
  go_wp2
  go_loop [3, 7] (fun x i => ∃ k : Nat, k ≤ s.size ∧ i = .int .i64 k ∧ x = .int .u32 (hashG 2166136261 (s.data.toList.take k) : Nat)) (fun _ i => s.size - (intOf i).toNat)
  case atStart => exact ⟨0, Nat.zero_le _, rfl, rfl⟩
  case round =>
    obtain ⟨k, hk, rfl, rfl⟩ := hrel
    have hlt := hashG_lt 2166136261 (by decide) (s.data.toList.take k)
    by_cases hkl : k < s.size
    · have hst := hashG_take 2166136261 s.data.toList k (by omega)
      have hnx := hash_step (hashG 2166136261 (s.data.toList.take k)) (s.data.toList.getD k 0) hlt
      have hsk : s[k] = s.data.toList.getD k 0 := by
        simp only [ByteArray.getElem_eq_getElem_data, List.getD_eq_getElem?_getD]
        rw [List.getElem?_eq_getElem (by omega)]
        simp
      have hcb := byte_le (s.data.toList.getD k 0)
      have hm : ((s[k].toNat : Int) % 4294967296) = ((s.data.toList.getD k 0).toNat : Int) := by rw [hsk]; omega
      rw [← hm] at hnx
      clear hsk hcb hm
      generalize s.data.toList.getD k 0 = c at *
      generalize hashG 2166136261 (s.data.toList.take k) = x at *
      have hr := hnx.trans (congrArg (fun n : Nat => (n : Int)) hst.symm)
      have H := Lib.hid hr
      clear hr hnx hst
      go_wp2
      go_round
      case rel => exact ⟨k + 1, by omega, by go_num, congrArg (Value.int .u32) H.out⟩
      case measure => simp [intOf]; omega
    · obtain rfl : k = s.size := by omega
      have he : s.data.toList.take s.size = s.data.toList := by rw [← hsz, List.take_length]
      have hh : hashG 2166136261 (s.data.toList.take s.size) = hashL s.data.toList := by rw [he]; rfl
      rw [hh]
      clear hh he hlt
      have hx := hashL_lt s.data.toList
      generalize hq : hashL s.data.toList = x at *
      have HQ := Lib.hid hq
      clear hq
      go_wp2
      go_ret
      exact ⟨congrArg (fun n : Nat => Ending.returned (.int .i64 (n : Int))) HQ.out.symm, rfl⟩

set_option maxRecDepth 100000 in
set_option maxHeartbeats 1000000 in
theorem rhash_any (s : ByteArray) (hs : s.size ≤ maxLen) (w : World) :
    Calls Try.prog 27 #[.string s] w fun e w' => e = .returned (.int .i64 (hashL s.data.toList : Nat)) ∧ w = w' := by
  have hsz := str_size s
  unfold maxLen at hs
  go_enter Try.func27, Try.ntmps27
  go_wp2
  go_loop [3, 4] (fun x i => ∃ k : Nat, k ≤ s.size ∧ i = .int .i64 k ∧ x = .int .u32 (hashG 2166136261 (s.data.toList.take k) : Nat)) (fun _ i => s.size - (intOf i).toNat)
  case atStart => exact ⟨0, Nat.zero_le _, rfl, rfl⟩
  case round =>
    obtain ⟨k, hk, rfl, rfl⟩ := hrel
    have hlt := hashG_lt 2166136261 (by decide) (s.data.toList.take k)
    by_cases hkl : k < s.size
    · have hst := hashG_take 2166136261 s.data.toList k (by omega)
      have hnx := hash_step (hashG 2166136261 (s.data.toList.take k)) (s.data.toList.getD k 0) hlt
      have hsk : s[k] = s.data.toList.getD k 0 := by
        simp only [ByteArray.getElem_eq_getElem_data, List.getD_eq_getElem?_getD]
        rw [List.getElem?_eq_getElem (by omega)]
        simp
      have hcb := byte_le (s.data.toList.getD k 0)
      have hm : ((s[k].toNat : Int) % 4294967296) = ((s.data.toList.getD k 0).toNat : Int) := by rw [hsk]; omega
      rw [← hm] at hnx
      clear hsk hcb hm
      generalize s.data.toList.getD k 0 = c at *
      generalize hashG 2166136261 (s.data.toList.take k) = x at *
      have hr := hnx.trans (congrArg (fun n : Nat => (n : Int)) hst.symm)
      have H := Lib.hid hr
      clear hr hnx hst
      go_wp2
      go_round
      case rel => exact ⟨k + 1, by omega, by go_num, congrArg (Value.int .u32) H.out⟩
      case measure => simp [intOf]; omega
    · obtain rfl : k = s.size := by omega
      have he : s.data.toList.take s.size = s.data.toList := by rw [← hsz, List.take_length]
      have hh : hashG 2166136261 (s.data.toList.take s.size) = hashL s.data.toList := by rw [he]; rfl
      rw [hh]
      clear hh he hlt
      have hx := hashL_lt s.data.toList
      generalize hq : hashL s.data.toList = x at *
      have HQ := Lib.hid hq
      clear hq
      go_wp2
      go_ret
      exact ⟨congrArg (fun n : Nat => Ending.returned (.int .i64 (n : Int))) HQ.out.symm, rfl⟩
end Go.Proofs.Ytlgfodlimehppaa
