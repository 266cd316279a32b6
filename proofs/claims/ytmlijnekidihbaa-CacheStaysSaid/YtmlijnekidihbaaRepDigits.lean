/-
  What the document's Digits does, for numbers that are not below 0.
-/
import Derived.Test.YtmlijnekidihbaaWords
namespace Go.Proofs.Ytmlijnekidihbaa
open Go.RowKit

/-- A number's decimal digits. -/
def digL (n : Nat) : List UInt8 := if n < 10 then [UInt8.ofNat (48 + n)] else digL (n / 10) ++ [UInt8.ofNat (48 + n % 10)]
termination_by n
decreasing_by omega

theorem digL_low {n : Nat} (h : n < 10) : digL n = [UInt8.ofNat (48 + n)] := by rw [digL, if_pos h]
theorem digL_high {n : Nat} (h : ¬ n < 10) : digL n = digL (n / 10) ++ [UInt8.ofNat (48 + n % 10)] := by rw [digL, if_neg h]

theorem digL_len (n : Nat) : (digL n).length ≤ n + 1 := by
  induction n using Nat.strongRecOn with
  | ind n ih =>
    by_cases h : n < 10
    · rw [digL_low h]; simp
    · rw [digL_high h, List.length_append]
      have := ih (n / 10) (by omega)
      simp only [List.length_cons, List.length_nil]
      omega

theorem strB_app9 (a b : List UInt8) : strB a ++ strB b = strB (a ++ b) := by
  apply ByteArray.ext
  simp

theorem dig_byte {d : Nat} (h : d < 10) : ((UInt8.ofNat (48 + d)).toNat : Int) = 48 + (d : Int) := by
  rw [UInt8.toNat_ofNat']
  omega

/-- The string of one byte that was built. -/
theorem one_byte_run (w : World) (c : UInt8) (n : Int) (hn : n = (c.toNat : Int)) : (convert 22 9 (.slice (some ⟨w.heap.size, 0, none⟩) 1 1)).run Try.prog (w.alloc (.cells #[.int .u8 n] 5)) = .ok (.string (strB [c])) (w.alloc (.cells #[.int .u8 n] 5)) := by
  subst hn
  refine rdB_convert (l := [c]) ⟨_, 1, rfl, Nat.le_refl _, by unfold maxLen; omega, rfl, .inr ⟨w.heap.size, 0, rfl, by simp, fun j u hj => ?_⟩⟩ 22 5 9 Try.underlying22 Try.underlying5 Try.underlying9
  match j, hj with
  | 0, hj => simp at hj; subst hj; go_simp
  | j + 1, hj => simp at hj

set_option maxRecDepth 100000 in
set_option maxHeartbeats 4000000 in
theorem rdigits_any (n : Nat) (hn : n ≤ 1000000) (w : World) : Calls Try.prog 21 #[.int .i64 (n : Int)] w fun e w' => e = .returned (.string (strB (digL n))) ∧ Below w.heap.size w w' := by
  have HN := Lib.hid hn
  go_enter Try.func21, Try.ntmps21
  go_wp2
  go_loopw [0, 3] (fun m s wr => ∃ (k : Nat) (r : List UInt8), k ≤ n ∧ m = .int .i64 k ∧ s = .string (strB r) ∧ Hid (digL n = digL k ++ r) ∧ r.length + k ≤ n ∧ Hid (Below w.heap.size w wr)) (fun m _ _ => (intOf m).toNat)
  case atStart => exact ⟨n, [], Nat.le_refl _, rfl, rfl, Lib.hid (by simp), by simp, Lib.hid (Below.refl _ _)⟩
  case round =>
    obtain ⟨k, r, hk, rfl, rfl, HD, hr, HB⟩ := hrel
    obtain ⟨d, hd⟩ : ∃ d, k % 10 = d := ⟨_, rfl⟩
    by_cases h10 : k < 10
    · have g1 : ¬ (10 : Int) ≤ (k : Int) := by omega
      have w1 : IntKind.i64.wrap (48 + (k : Int)) = 48 + (k : Int) := IntWalk.i64_in _ (by omega)
      have hc := one_byte_run wr (UInt8.ofNat (48 + k)) (48 + (k : Int)) (dig_byte h10).symm
      have hT := strB_app9 [UInt8.ofNat (48 + k)] r
      have hlim : ¬ 9223372036854775807 < 1 + r.length := by omega
      have HR : Hid (digL n = [UInt8.ofNat (48 + k)] ++ r) := Lib.hid (by rw [HD.out, digL_low h10])
      clear hd HD
      generalize UInt8.ofNat (48 + k) = c at *
      have HT := Lib.hid hT
      clear hT
      go_wp2
      go_ret
      exact ⟨by rw [HR.out, ← HT.out]; rfl, HB.out.alloc HB.out.size _⟩
    · have hd10 : d < 10 := by omega
      have g1 : (10 : Int) ≤ (k : Int) := by omega
      have m1 : (k : Int).tmod 10 = (d : Int) := by rw [Int.tmod_eq_emod_of_nonneg (by omega)]; omega
      obtain ⟨q, hq⟩ : ∃ q, k / 10 = q := ⟨_, rfl⟩
      have m2 : (k : Int).tdiv 10 = (q : Int) := by rw [Int.tdiv_eq_ediv_of_nonneg (by omega)]; omega
      have w1 : IntKind.i64.wrap (48 + (d : Int)) = 48 + (d : Int) := IntWalk.i64_in _ (by omega)
      have w2 : IntKind.i64.wrap (d : Int) = (d : Int) := IntWalk.i64_in _ (by omega)
      have w3 : IntKind.i64.wrap (q : Int) = (q : Int) := IntWalk.i64_in _ (by omega)
      have hc := one_byte_run wr (UInt8.ofNat (48 + d)) (48 + (d : Int)) (dig_byte hd10).symm
      have hT := strB_app9 [UInt8.ofNat (48 + d)] r
      have hlim : ¬ 9223372036854775807 < 1 + r.length := by omega
      have HR : Hid (digL n = digL q ++ ([UInt8.ofNat (48 + d)] ++ r)) := Lib.hid (by rw [HD.out, digL_high h10, hq, hd, List.append_assoc])
      have HQ : Hid (q < k ∧ r.length + 1 + q ≤ n ∧ q ≤ n) := Lib.hid (by omega)
      clear hd HD hq
      generalize UInt8.ofNat (48 + d) = c at *
      go_wp2
      go_roundw
      case rel => exact ⟨q, [c] ++ r, by have := HQ.out; omega, rfl, rfl, HR, by have := HQ.out; simp; omega, Lib.hid (HB.out.alloc HB.out.size _)⟩
      case measure => have := HQ.out; simp [intOf]; omega
end Go.Proofs.Ytmlijnekidihbaa
