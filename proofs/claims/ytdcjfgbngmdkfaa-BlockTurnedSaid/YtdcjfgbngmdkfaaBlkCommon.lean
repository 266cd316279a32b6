/-
  Blocks: how many bytes two texts begin with alike, as the program counts.
-/
import Derived.Test.YtdcjfgbngmdkfaaBlkShared
namespace Go.Proofs.Ytdcjfgbngmdkfaa
open Go.RowKit

set_option maxRecDepth 100000 in
set_option maxHeartbeats 2000000 in
theorem common_any (a b : ByteArray) (ha : a.size ≤ maxLen) (w : World) :
    Calls Try.prog 22 #[.string a, .string b] w fun e w' => e = .returned (.int .i64 (comL a.data.toList b.data.toList : Int)) ∧ Below w.heap.size w w' := by
  have sa := size_list a
  have sb := size_list b
  unfold maxLen at ha
  obtain ⟨mn, hmn⟩ : ∃ mn : Int, min (a.size : Int) (b.size : Int) = mn := ⟨_, rfl⟩
  have hmn2 : (if b.size < a.size then (b.size : Int) else (a.size : Int)) = mn := by split <;> omega
  have hm1 : mn ≤ a.size ∧ mn ≤ b.size ∧ (mn = a.size ∨ mn = b.size) := by omega
  go_enter Try.func22, Try.ntmps22
  go_wp2
  go_loopw [5] (fun i wr => ∃ n : Nat, n ≤ a.size ∧ n ≤ b.size ∧ i = .int .i64 (n : Int) ∧ Hid (a.data.toList.take n = b.data.toList.take n) ∧ Hid (Below w.heap.size w wr)) (fun i _ => a.size - (intOf i).toNat)
  case atStart => exact ⟨0, Nat.zero_le _, Nat.zero_le _, rfl, Lib.hid rfl, Lib.hid (Below.refl _ _)⟩
  case round =>
    obtain ⟨n, hna, hnb, rfl, HT, HB⟩ := hrel
    by_cases g0 : (n : Int) < mn
    · have g1 : n < a.size := by omega
      have g2 : n < b.size := by omega
      obtain ⟨x, hx⟩ : ∃ x, a[n].toNat = x := ⟨_, rfl⟩
      obtain ⟨y, hy⟩ : ∃ y, b[n].toNat = y := ⟨_, rfl⟩
      have xa := getD_list a n g1
      have yb := getD_list b n g2
      by_cases hxy : x = y
      · have HN := Lib.hid (take_next (by omega) (by omega) HT.out (by rw [xa, yb]; exact UInt8.toNat_inj.1 (hx.trans (hxy.trans hy.symm))))
        clear xa yb
        go_upto_region 2 with (fail)
        refine wp_region_plan [(true, 0), (true, 1), (true, 2), (true, 3), (true, 4), (true, 5), (true, 6), (true, 7), (true, 8), (true, 9), (true, 10), (true, 11), (true, 12), (true, 13), (true, 14), (true, 15)] (by kernel_rfl) (by kernel_rfl) (by kernel_rfl) (by kernel_rfl) (by kernel_rfl) ?_
        simp only [planO, List.drop_succ_cons, List.drop_zero]
        refine PlanO.take (v := ?vC0) (by kernel_rfl) ?yC0 ?rC0
        case yC0 => (intro wz hz; go_simp; try with_reducible rfl)
        (try simp only [Act.put, List.setIfInBounds_toArray, List.set_cons_zero, List.set_cons_succ])
        refine PlanO.take (v := ?vC1) (by kernel_rfl) ?yC1 ?rC1
        case yC1 => (intro wz hz; go_simp; try with_reducible rfl)
        (try simp only [Act.put, List.setIfInBounds_toArray, List.set_cons_zero, List.set_cons_succ])
        refine PlanO.take (v := ?vC2) (by kernel_rfl) ?yC2 ?rC2
        case yC2 => (intro wz hz; go_simp; try with_reducible rfl)
        (try simp only [Act.put, List.setIfInBounds_toArray, List.set_cons_zero, List.set_cons_succ])
        refine PlanO.take (v := ?vC3) (by kernel_rfl) ?yC3 ?rC3
        case yC3 => (intro wz hz; go_simp; try with_reducible rfl)
        (try simp only [Act.put, List.setIfInBounds_toArray, List.set_cons_zero, List.set_cons_succ])
        refine PlanO.take (v := ?vC4) (by kernel_rfl) ?yC4 ?rC4
        case yC4 => (intro wz hz; go_simp; try with_reducible rfl)
        (try simp only [Act.put, List.setIfInBounds_toArray, List.set_cons_zero, List.set_cons_succ])
        refine PlanO.take (v := .int .i64 mn) (by kernel_rfl) ?yC5 ?rC5
        case yC5 => (intro wz hz; go_simp; try exact hmn2)
        (try simp only [Act.put, List.setIfInBounds_toArray, List.set_cons_zero, List.set_cons_succ])
        refine PlanO.take (v := .bool true) (by kernel_rfl) ?yC6 ?rC6
        case yC6 => (intro wz hz; go_simp; try simp; try omega)
        (try simp only [Act.put, List.setIfInBounds_toArray, List.set_cons_zero, List.set_cons_succ])
        refine PlanO.take (v := .bool true) (by kernel_rfl) ?yC7 ?rC7
        case yC7 => (intro wz hz; go_simp; try simp; try omega)
        (try simp only [Act.put, List.setIfInBounds_toArray, List.set_cons_zero, List.set_cons_succ])
        refine PlanO.take (v := ?vC8) (by kernel_rfl) ?yC8 ?rC8
        case yC8 => (intro wz hz; go_simp; try with_reducible rfl)
        (try simp only [Act.put, List.setIfInBounds_toArray, List.set_cons_zero, List.set_cons_succ])
        refine PlanO.take (v := ?vC9) (by kernel_rfl) ?yC9 ?rC9
        case yC9 => (intro wz hz; go_simp; try with_reducible rfl)
        (try simp only [Act.put, List.setIfInBounds_toArray, List.set_cons_zero, List.set_cons_succ])
        refine PlanO.take (v := .int .u8 (x : Int)) (by kernel_rfl) ?yC10 ?rC10
        case yC10 => (intro wz hz; go_simp; try simpa using hx)
        (try simp only [Act.put, List.setIfInBounds_toArray, List.set_cons_zero, List.set_cons_succ])
        refine PlanO.take (v := ?vC11) (by kernel_rfl) ?yC11 ?rC11
        case yC11 => (intro wz hz; go_simp; try with_reducible rfl)
        (try simp only [Act.put, List.setIfInBounds_toArray, List.set_cons_zero, List.set_cons_succ])
        refine PlanO.take (v := ?vC12) (by kernel_rfl) ?yC12 ?rC12
        case yC12 => (intro wz hz; go_simp; try with_reducible rfl)
        (try simp only [Act.put, List.setIfInBounds_toArray, List.set_cons_zero, List.set_cons_succ])
        refine PlanO.take (v := .int .u8 (y : Int)) (by kernel_rfl) ?yC13 ?rC13
        case yC13 => (intro wz hz; go_simp; try simpa using hy)
        (try simp only [Act.put, List.setIfInBounds_toArray, List.set_cons_zero, List.set_cons_succ])
        refine PlanO.take (v := .bool true) (by kernel_rfl) ?yC14 ?rC14
        case yC14 => (intro wz hz; go_simp; (try simp [hxy]))
        (try simp only [Act.put, List.setIfInBounds_toArray, List.set_cons_zero, List.set_cons_succ])
        refine PlanO.take (v := .bool true) (by kernel_rfl) ?yC15 ?rC15
        case yC15 => (intro wz hz; go_simp; try simp; try omega)
        (try simp only [Act.put, List.setIfInBounds_toArray, List.set_cons_zero, List.set_cons_succ])
        refine PlanO.done (NoPanic.normal ?_)
        go_wp2
        exact ⟨⟨n + 1, by omega, by omega, by go_num, HN, Lib.hid HB.out.drew⟩, by simp [intOf]; omega⟩
      · have HR := Lib.hid (comL_at a.data.toList b.data.toList n (by omega) (by omega) HT.out (.inr (.inr (by rw [xa, yb]; exact fun e => hxy (hx.symm.trans ((congrArg UInt8.toNat e).trans hy))))))
        clear xa yb
        go_upto_region 2 with (fail)
        refine wp_region_plan [(true, 0), (true, 1), (true, 2), (true, 3), (true, 4), (true, 5), (true, 6), (true, 7), (true, 8), (true, 9), (true, 10), (true, 11), (true, 12), (true, 13), (true, 14), (true, 15)] (by kernel_rfl) (by kernel_rfl) (by kernel_rfl) (by kernel_rfl) (by kernel_rfl) ?_
        simp only [planO, List.drop_succ_cons, List.drop_zero]
        refine PlanO.take (v := ?vD0) (by kernel_rfl) ?yD0 ?rD0
        case yD0 => (intro wz hz; go_simp; try with_reducible rfl)
        (try simp only [Act.put, List.setIfInBounds_toArray, List.set_cons_zero, List.set_cons_succ])
        refine PlanO.take (v := ?vD1) (by kernel_rfl) ?yD1 ?rD1
        case yD1 => (intro wz hz; go_simp; try with_reducible rfl)
        (try simp only [Act.put, List.setIfInBounds_toArray, List.set_cons_zero, List.set_cons_succ])
        refine PlanO.take (v := ?vD2) (by kernel_rfl) ?yD2 ?rD2
        case yD2 => (intro wz hz; go_simp; try with_reducible rfl)
        (try simp only [Act.put, List.setIfInBounds_toArray, List.set_cons_zero, List.set_cons_succ])
        refine PlanO.take (v := ?vD3) (by kernel_rfl) ?yD3 ?rD3
        case yD3 => (intro wz hz; go_simp; try with_reducible rfl)
        (try simp only [Act.put, List.setIfInBounds_toArray, List.set_cons_zero, List.set_cons_succ])
        refine PlanO.take (v := ?vD4) (by kernel_rfl) ?yD4 ?rD4
        case yD4 => (intro wz hz; go_simp; try with_reducible rfl)
        (try simp only [Act.put, List.setIfInBounds_toArray, List.set_cons_zero, List.set_cons_succ])
        refine PlanO.take (v := .int .i64 mn) (by kernel_rfl) ?yD5 ?rD5
        case yD5 => (intro wz hz; go_simp; try exact hmn2)
        (try simp only [Act.put, List.setIfInBounds_toArray, List.set_cons_zero, List.set_cons_succ])
        refine PlanO.take (v := .bool true) (by kernel_rfl) ?yD6 ?rD6
        case yD6 => (intro wz hz; go_simp; try simp; try omega)
        (try simp only [Act.put, List.setIfInBounds_toArray, List.set_cons_zero, List.set_cons_succ])
        refine PlanO.take (v := .bool true) (by kernel_rfl) ?yD7 ?rD7
        case yD7 => (intro wz hz; go_simp; try simp; try omega)
        (try simp only [Act.put, List.setIfInBounds_toArray, List.set_cons_zero, List.set_cons_succ])
        refine PlanO.take (v := ?vD8) (by kernel_rfl) ?yD8 ?rD8
        case yD8 => (intro wz hz; go_simp; try with_reducible rfl)
        (try simp only [Act.put, List.setIfInBounds_toArray, List.set_cons_zero, List.set_cons_succ])
        refine PlanO.take (v := ?vD9) (by kernel_rfl) ?yD9 ?rD9
        case yD9 => (intro wz hz; go_simp; try with_reducible rfl)
        (try simp only [Act.put, List.setIfInBounds_toArray, List.set_cons_zero, List.set_cons_succ])
        refine PlanO.take (v := .int .u8 (x : Int)) (by kernel_rfl) ?yD10 ?rD10
        case yD10 => (intro wz hz; go_simp; try simpa using hx)
        (try simp only [Act.put, List.setIfInBounds_toArray, List.set_cons_zero, List.set_cons_succ])
        refine PlanO.take (v := ?vD11) (by kernel_rfl) ?yD11 ?rD11
        case yD11 => (intro wz hz; go_simp; try with_reducible rfl)
        (try simp only [Act.put, List.setIfInBounds_toArray, List.set_cons_zero, List.set_cons_succ])
        refine PlanO.take (v := ?vD12) (by kernel_rfl) ?yD12 ?rD12
        case yD12 => (intro wz hz; go_simp; try with_reducible rfl)
        (try simp only [Act.put, List.setIfInBounds_toArray, List.set_cons_zero, List.set_cons_succ])
        refine PlanO.take (v := .int .u8 (y : Int)) (by kernel_rfl) ?yD13 ?rD13
        case yD13 => (intro wz hz; go_simp; try simpa using hy)
        (try simp only [Act.put, List.setIfInBounds_toArray, List.set_cons_zero, List.set_cons_succ])
        refine PlanO.take (v := .bool false) (by kernel_rfl) ?yD14 ?rD14
        case yD14 => (intro wz hz; go_simp; (try simp); exact_mod_cast hxy)
        (try simp only [Act.put, List.setIfInBounds_toArray, List.set_cons_zero, List.set_cons_succ])
        refine PlanO.take (v := .bool false) (by kernel_rfl) ?yD15 ?rD15
        case yD15 => (intro wz hz; go_simp; try simp; try omega)
        (try simp only [Act.put, List.setIfInBounds_toArray, List.set_cons_zero, List.set_cons_succ])
        refine PlanO.done (NoPanic.normal ?_)
        go_wp2
        go_ret
        exact ⟨by rw [HR.out]; rfl, HB.out.drew⟩
    · have HR := Lib.hid (comL_at a.data.toList b.data.toList n (by omega) (by omega) HT.out (by omega))
      go_upto_region 2 with (fail)
      refine wp_region_plan [(true, 0), (true, 1), (true, 2), (true, 3), (true, 4), (true, 5), (true, 6), (true, 7), (true, 8), (true, 9), (true, 10), (true, 11), (true, 12), (true, 13), (true, 14), (true, 15)] (by kernel_rfl) (by kernel_rfl) (by kernel_rfl) (by kernel_rfl) (by kernel_rfl) ?_
      simp only [planO, List.drop_succ_cons, List.drop_zero]
      refine PlanO.take (v := ?vA0) (by kernel_rfl) ?yA0 ?rA0
      case yA0 => (intro wz hz; go_simp; try with_reducible rfl)
      (try simp only [Act.put, List.setIfInBounds_toArray, List.set_cons_zero, List.set_cons_succ])
      refine PlanO.take (v := ?vA1) (by kernel_rfl) ?yA1 ?rA1
      case yA1 => (intro wz hz; go_simp; try with_reducible rfl)
      (try simp only [Act.put, List.setIfInBounds_toArray, List.set_cons_zero, List.set_cons_succ])
      refine PlanO.take (v := ?vA2) (by kernel_rfl) ?yA2 ?rA2
      case yA2 => (intro wz hz; go_simp; try with_reducible rfl)
      (try simp only [Act.put, List.setIfInBounds_toArray, List.set_cons_zero, List.set_cons_succ])
      refine PlanO.take (v := ?vA3) (by kernel_rfl) ?yA3 ?rA3
      case yA3 => (intro wz hz; go_simp; try with_reducible rfl)
      (try simp only [Act.put, List.setIfInBounds_toArray, List.set_cons_zero, List.set_cons_succ])
      refine PlanO.take (v := ?vA4) (by kernel_rfl) ?yA4 ?rA4
      case yA4 => (intro wz hz; go_simp; try with_reducible rfl)
      (try simp only [Act.put, List.setIfInBounds_toArray, List.set_cons_zero, List.set_cons_succ])
      refine PlanO.take (v := .int .i64 mn) (by kernel_rfl) ?yA5 ?rA5
      case yA5 => (intro wz hz; go_simp; try exact hmn2)
      (try simp only [Act.put, List.setIfInBounds_toArray, List.set_cons_zero, List.set_cons_succ])
      refine PlanO.take (v := .bool false) (by kernel_rfl) ?yA6 ?rA6
      case yA6 => (intro wz hz; go_simp; try simp; try omega)
      (try simp only [Act.put, List.setIfInBounds_toArray, List.set_cons_zero, List.set_cons_succ])
      refine PlanO.take (v := .bool false) (by kernel_rfl) ?yA7 ?rA7
      case yA7 => (intro wz hz; go_simp; try simp; try omega)
      (try simp only [Act.put, List.setIfInBounds_toArray, List.set_cons_zero, List.set_cons_succ])
      refine PlanO.skip (by kernel_rfl) ?_
      (try simp only [Act.put, List.setIfInBounds_toArray, List.set_cons_zero, List.set_cons_succ])
      refine PlanO.skip (by kernel_rfl) ?_
      (try simp only [Act.put, List.setIfInBounds_toArray, List.set_cons_zero, List.set_cons_succ])
      refine PlanO.skip (by kernel_rfl) ?_
      (try simp only [Act.put, List.setIfInBounds_toArray, List.set_cons_zero, List.set_cons_succ])
      refine PlanO.skip (by kernel_rfl) ?_
      (try simp only [Act.put, List.setIfInBounds_toArray, List.set_cons_zero, List.set_cons_succ])
      refine PlanO.skip (by kernel_rfl) ?_
      (try simp only [Act.put, List.setIfInBounds_toArray, List.set_cons_zero, List.set_cons_succ])
      refine PlanO.skip (by kernel_rfl) ?_
      (try simp only [Act.put, List.setIfInBounds_toArray, List.set_cons_zero, List.set_cons_succ])
      refine PlanO.skip (by kernel_rfl) ?_
      (try simp only [Act.put, List.setIfInBounds_toArray, List.set_cons_zero, List.set_cons_succ])
      refine PlanO.take (v := .bool false) (by kernel_rfl) ?yA15 ?rA15
      case yA15 => (intro wz hz; go_simp; try simp; try omega)
      (try simp only [Act.put, List.setIfInBounds_toArray, List.set_cons_zero, List.set_cons_succ])
      refine PlanO.done (NoPanic.normal ?_)
      go_wp2
      go_ret
      exact ⟨by rw [HR.out]; rfl, HB.out.drew⟩
end Go.Proofs.Ytdcjfgbngmdkfaa
