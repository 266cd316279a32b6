/-
  Blocks: how many bytes two texts begin with alike, as the document counts.
-/
import Derived.Test.YteeikmpfgbfeoaaGreatBlkGet
import Derived.Test.YteeikmpfgbfeoaaGreatRegion
import Derived.Test.YteeikmpfgbfeoaaGreatCells
import Derived.Deep.Cut
namespace Go.Proofs.YteeikmpfgbfeoaaGreat
open Go.RowKit

theorem take_next {x y : List UInt8} {n : Nat} (h1 : n < x.length) (h2 : n < y.length) (h : x.take n = y.take n) (h3 : x.getD n 0 = y.getD n 0) : x.take (n + 1) = y.take (n + 1) := by
  rw [List.take_succ_eq_append_getElem h1, List.take_succ_eq_append_getElem h2, h]
  simp only [List.getD, List.getElem?_eq_getElem h1, List.getElem?_eq_getElem h2, Option.getD_some] at h3
  rw [h3]

set_option maxRecDepth 100000 in
set_option maxHeartbeats 2000000 in
theorem rshared_any (a b : ByteArray) (ha : a.size ≤ maxLen) (w : World) :
    Calls Tryz.prog 85 #[.string a, .string b] w fun e w' => e = .returned (.int .i64 (comL a.data.toList b.data.toList : Int)) ∧ Below w.heap.size w w' := by
  have sa := size_list a
  have sb := size_list b
  unfold maxLen at ha
  go_enter Tryz.func85, Tryz.ntmps85
  go_wp2
  go_loopw [5] (fun i wr => ∃ n : Nat, n ≤ a.size ∧ n ≤ b.size ∧ i = .int .i64 (n : Int) ∧ Hid (a.data.toList.take n = b.data.toList.take n) ∧ Hid (Below w.heap.size w wr)) (fun i _ => a.size - (intOf i).toNat)
  case atStart => exact ⟨0, Nat.zero_le _, Nat.zero_le _, rfl, Lib.hid rfl, Lib.hid (Below.refl _ _)⟩
  case round =>
    obtain ⟨n, hna, hnb, rfl, HT, HB⟩ := hrel
    by_cases g1 : n < a.size
    · by_cases g2 : n < b.size
      · obtain ⟨x, hx⟩ : ∃ x, a[n].toNat = x := ⟨_, rfl⟩
        obtain ⟨y, hy⟩ : ∃ y, b[n].toNat = y := ⟨_, rfl⟩
        have xa := getD_list a n g1
        have yb := getD_list b n g2
        by_cases hxy : x = y
        · have HN := Lib.hid (take_next (by omega) (by omega) HT.out (by rw [xa, yb]; exact UInt8.toNat_inj.1 (hx.trans (hxy.trans hy.symm))))
          clear xa yb
          go_upto_region 2 with (fail)
          refine wp_region_plan [(true, 0), (true, 1), (true, 2), (true, 3), (true, 4), (true, 5), (true, 6), (true, 7), (true, 8), (true, 9), (true, 10), (true, 11), (true, 12), (true, 13), (true, 14), (true, 15), (true, 16), (true, 17), (true, 18)] (by kernel_rfl) (by kernel_rfl) (by kernel_rfl) (by kernel_rfl) (by kernel_rfl) ?_
          simp only [planO, List.drop_succ_cons, List.drop_zero]
          refine PlanO.take (v := ?vC0) (by kernel_rfl) ?yC0 ?rC0
          case yC0 => (intro wz hz; go_simp; try with_reducible rfl)
          (try simp only [Act.put, List.setIfInBounds_toArray, List.set_cons_zero, List.set_cons_succ])
          refine PlanO.take (v := ?vC1) (by kernel_rfl) ?yC1 ?rC1
          case yC1 => (intro wz hz; go_simp; try with_reducible rfl)
          (try simp only [Act.put, List.setIfInBounds_toArray, List.set_cons_zero, List.set_cons_succ])
          refine PlanO.take (v := ?vC2) (by kernel_rfl) ?yC2 ?rC2
          case yC2 => (intro wz hz; go_simp; try with_reducible rfl)
          (try simp only [Act.put, List.setIfInBounds_toArray, List.set_cons_zero, List.set_cons_succ])
          refine PlanO.take (v := .bool true) (by kernel_rfl) ?yC3 ?rC3
          case yC3 => (intro wz hz; go_simp; try simp; try omega)
          (try simp only [Act.put, List.setIfInBounds_toArray, List.set_cons_zero, List.set_cons_succ])
          refine PlanO.take (v := ?vC4) (by kernel_rfl) ?yC4 ?rC4
          case yC4 => (intro wz hz; go_simp; try with_reducible rfl)
          (try simp only [Act.put, List.setIfInBounds_toArray, List.set_cons_zero, List.set_cons_succ])
          refine PlanO.take (v := ?vC5) (by kernel_rfl) ?yC5 ?rC5
          case yC5 => (intro wz hz; go_simp; try with_reducible rfl)
          (try simp only [Act.put, List.setIfInBounds_toArray, List.set_cons_zero, List.set_cons_succ])
          refine PlanO.take (v := ?vC6) (by kernel_rfl) ?yC6 ?rC6
          case yC6 => (intro wz hz; go_simp; try with_reducible rfl)
          (try simp only [Act.put, List.setIfInBounds_toArray, List.set_cons_zero, List.set_cons_succ])
          refine PlanO.take (v := ?vC7) (by kernel_rfl) ?yC7 ?rC7
          case yC7 => (intro wz hz; go_simp; try with_reducible rfl)
          (try simp only [Act.put, List.setIfInBounds_toArray, List.set_cons_zero, List.set_cons_succ])
          refine PlanO.take (v := .bool true) (by kernel_rfl) ?yC8 ?rC8
          case yC8 => (intro wz hz; go_simp; try simp; try omega)
          (try simp only [Act.put, List.setIfInBounds_toArray, List.set_cons_zero, List.set_cons_succ])
          refine PlanO.take (v := .bool true) (by kernel_rfl) ?yC9 ?rC9
          case yC9 => (intro wz hz; go_simp; try simp; try omega)
          (try simp only [Act.put, List.setIfInBounds_toArray, List.set_cons_zero, List.set_cons_succ])
          refine PlanO.take (v := ?vC10) (by kernel_rfl) ?yC10 ?rC10
          case yC10 => (intro wz hz; go_simp; try with_reducible rfl)
          (try simp only [Act.put, List.setIfInBounds_toArray, List.set_cons_zero, List.set_cons_succ])
          refine PlanO.take (v := ?vC11) (by kernel_rfl) ?yC11 ?rC11
          case yC11 => (intro wz hz; go_simp; try with_reducible rfl)
          (try simp only [Act.put, List.setIfInBounds_toArray, List.set_cons_zero, List.set_cons_succ])
          refine PlanO.take (v := ?vC12) (by kernel_rfl) ?yC12 ?rC12
          case yC12 => (intro wz hz; go_simp; try with_reducible rfl)
          (try simp only [Act.put, List.setIfInBounds_toArray, List.set_cons_zero, List.set_cons_succ])
          refine PlanO.take (v := .int .u8 (x : Int)) (by kernel_rfl) ?yC13 ?rC13
          case yC13 => (intro wz hz; go_simp; try simpa using hx)
          (try simp only [Act.put, List.setIfInBounds_toArray, List.set_cons_zero, List.set_cons_succ])
          refine PlanO.take (v := ?vC14) (by kernel_rfl) ?yC14 ?rC14
          case yC14 => (intro wz hz; go_simp; try with_reducible rfl)
          (try simp only [Act.put, List.setIfInBounds_toArray, List.set_cons_zero, List.set_cons_succ])
          refine PlanO.take (v := ?vC15) (by kernel_rfl) ?yC15 ?rC15
          case yC15 => (intro wz hz; go_simp; try with_reducible rfl)
          (try simp only [Act.put, List.setIfInBounds_toArray, List.set_cons_zero, List.set_cons_succ])
          refine PlanO.take (v := .int .u8 (y : Int)) (by kernel_rfl) ?yC16 ?rC16
          case yC16 => (intro wz hz; go_simp; try simpa using hy)
          (try simp only [Act.put, List.setIfInBounds_toArray, List.set_cons_zero, List.set_cons_succ])
          refine PlanO.take (v := .bool true) (by kernel_rfl) ?yC17 ?rC17
          case yC17 => (intro wz hz; go_simp; (try simp [hxy]))
          (try simp only [Act.put, List.setIfInBounds_toArray, List.set_cons_zero, List.set_cons_succ])
          refine PlanO.take (v := .bool true) (by kernel_rfl) ?yC18 ?rC18
          case yC18 => (intro wz hz; go_simp; try simp; try omega)
          (try simp only [Act.put, List.setIfInBounds_toArray, List.set_cons_zero, List.set_cons_succ])
          refine PlanO.done (NoPanic.normal ?_)
          go_wp2
          exact ⟨⟨n + 1, by omega, by omega, by go_num, HN, Lib.hid HB.out.drew⟩, by simp [intOf]; omega⟩
        · have HR := Lib.hid (comL_at a.data.toList b.data.toList n (by omega) (by omega) HT.out (.inr (.inr (by rw [xa, yb]; exact fun e => hxy (hx.symm.trans ((congrArg UInt8.toNat e).trans hy))))))
          clear xa yb
          go_upto_region 2 with (fail)
          refine wp_region_plan [(true, 0), (true, 1), (true, 2), (true, 3), (true, 4), (true, 5), (true, 6), (true, 7), (true, 8), (true, 9), (true, 10), (true, 11), (true, 12), (true, 13), (true, 14), (true, 15), (true, 16), (true, 17), (true, 18)] (by kernel_rfl) (by kernel_rfl) (by kernel_rfl) (by kernel_rfl) (by kernel_rfl) ?_
          simp only [planO, List.drop_succ_cons, List.drop_zero]
          refine PlanO.take (v := ?vD0) (by kernel_rfl) ?yD0 ?rD0
          case yD0 => (intro wz hz; go_simp; try with_reducible rfl)
          (try simp only [Act.put, List.setIfInBounds_toArray, List.set_cons_zero, List.set_cons_succ])
          refine PlanO.take (v := ?vD1) (by kernel_rfl) ?yD1 ?rD1
          case yD1 => (intro wz hz; go_simp; try with_reducible rfl)
          (try simp only [Act.put, List.setIfInBounds_toArray, List.set_cons_zero, List.set_cons_succ])
          refine PlanO.take (v := ?vD2) (by kernel_rfl) ?yD2 ?rD2
          case yD2 => (intro wz hz; go_simp; try with_reducible rfl)
          (try simp only [Act.put, List.setIfInBounds_toArray, List.set_cons_zero, List.set_cons_succ])
          refine PlanO.take (v := .bool true) (by kernel_rfl) ?yD3 ?rD3
          case yD3 => (intro wz hz; go_simp; try simp; try omega)
          (try simp only [Act.put, List.setIfInBounds_toArray, List.set_cons_zero, List.set_cons_succ])
          refine PlanO.take (v := ?vD4) (by kernel_rfl) ?yD4 ?rD4
          case yD4 => (intro wz hz; go_simp; try with_reducible rfl)
          (try simp only [Act.put, List.setIfInBounds_toArray, List.set_cons_zero, List.set_cons_succ])
          refine PlanO.take (v := ?vD5) (by kernel_rfl) ?yD5 ?rD5
          case yD5 => (intro wz hz; go_simp; try with_reducible rfl)
          (try simp only [Act.put, List.setIfInBounds_toArray, List.set_cons_zero, List.set_cons_succ])
          refine PlanO.take (v := ?vD6) (by kernel_rfl) ?yD6 ?rD6
          case yD6 => (intro wz hz; go_simp; try with_reducible rfl)
          (try simp only [Act.put, List.setIfInBounds_toArray, List.set_cons_zero, List.set_cons_succ])
          refine PlanO.take (v := ?vD7) (by kernel_rfl) ?yD7 ?rD7
          case yD7 => (intro wz hz; go_simp; try with_reducible rfl)
          (try simp only [Act.put, List.setIfInBounds_toArray, List.set_cons_zero, List.set_cons_succ])
          refine PlanO.take (v := .bool true) (by kernel_rfl) ?yD8 ?rD8
          case yD8 => (intro wz hz; go_simp; try simp; try omega)
          (try simp only [Act.put, List.setIfInBounds_toArray, List.set_cons_zero, List.set_cons_succ])
          refine PlanO.take (v := .bool true) (by kernel_rfl) ?yD9 ?rD9
          case yD9 => (intro wz hz; go_simp; try simp; try omega)
          (try simp only [Act.put, List.setIfInBounds_toArray, List.set_cons_zero, List.set_cons_succ])
          refine PlanO.take (v := ?vD10) (by kernel_rfl) ?yD10 ?rD10
          case yD10 => (intro wz hz; go_simp; try with_reducible rfl)
          (try simp only [Act.put, List.setIfInBounds_toArray, List.set_cons_zero, List.set_cons_succ])
          refine PlanO.take (v := ?vD11) (by kernel_rfl) ?yD11 ?rD11
          case yD11 => (intro wz hz; go_simp; try with_reducible rfl)
          (try simp only [Act.put, List.setIfInBounds_toArray, List.set_cons_zero, List.set_cons_succ])
          refine PlanO.take (v := ?vD12) (by kernel_rfl) ?yD12 ?rD12
          case yD12 => (intro wz hz; go_simp; try with_reducible rfl)
          (try simp only [Act.put, List.setIfInBounds_toArray, List.set_cons_zero, List.set_cons_succ])
          refine PlanO.take (v := .int .u8 (x : Int)) (by kernel_rfl) ?yD13 ?rD13
          case yD13 => (intro wz hz; go_simp; try simpa using hx)
          (try simp only [Act.put, List.setIfInBounds_toArray, List.set_cons_zero, List.set_cons_succ])
          refine PlanO.take (v := ?vD14) (by kernel_rfl) ?yD14 ?rD14
          case yD14 => (intro wz hz; go_simp; try with_reducible rfl)
          (try simp only [Act.put, List.setIfInBounds_toArray, List.set_cons_zero, List.set_cons_succ])
          refine PlanO.take (v := ?vD15) (by kernel_rfl) ?yD15 ?rD15
          case yD15 => (intro wz hz; go_simp; try with_reducible rfl)
          (try simp only [Act.put, List.setIfInBounds_toArray, List.set_cons_zero, List.set_cons_succ])
          refine PlanO.take (v := .int .u8 (y : Int)) (by kernel_rfl) ?yD16 ?rD16
          case yD16 => (intro wz hz; go_simp; try simpa using hy)
          (try simp only [Act.put, List.setIfInBounds_toArray, List.set_cons_zero, List.set_cons_succ])
          refine PlanO.take (v := .bool false) (by kernel_rfl) ?yD17 ?rD17
          case yD17 => (intro wz hz; go_simp; (try simp); exact_mod_cast hxy)
          (try simp only [Act.put, List.setIfInBounds_toArray, List.set_cons_zero, List.set_cons_succ])
          refine PlanO.take (v := .bool false) (by kernel_rfl) ?yD18 ?rD18
          case yD18 => (intro wz hz; go_simp; try simp; try omega)
          (try simp only [Act.put, List.setIfInBounds_toArray, List.set_cons_zero, List.set_cons_succ])
          refine PlanO.done (NoPanic.normal ?_)
          go_wp2
          go_ret
          exact ⟨by rw [HR.out]; rfl, HB.out.drew⟩
      · have HR := Lib.hid (comL_at a.data.toList b.data.toList n (by omega) (by omega) HT.out (.inr (.inl (by omega))))
        go_upto_region 2 with (fail)
        refine wp_region_plan [(true, 0), (true, 1), (true, 2), (true, 3), (true, 4), (true, 5), (true, 6), (true, 7), (true, 8), (true, 9), (true, 10), (true, 11), (true, 12), (true, 13), (true, 14), (true, 15), (true, 16), (true, 17), (true, 18)] (by kernel_rfl) (by kernel_rfl) (by kernel_rfl) (by kernel_rfl) (by kernel_rfl) ?_
        simp only [planO, List.drop_succ_cons, List.drop_zero]
        refine PlanO.take (v := ?vB0) (by kernel_rfl) ?yB0 ?rB0
        case yB0 => (intro wz hz; go_simp; try with_reducible rfl)
        (try simp only [Act.put, List.setIfInBounds_toArray, List.set_cons_zero, List.set_cons_succ])
        refine PlanO.take (v := ?vB1) (by kernel_rfl) ?yB1 ?rB1
        case yB1 => (intro wz hz; go_simp; try with_reducible rfl)
        (try simp only [Act.put, List.setIfInBounds_toArray, List.set_cons_zero, List.set_cons_succ])
        refine PlanO.take (v := ?vB2) (by kernel_rfl) ?yB2 ?rB2
        case yB2 => (intro wz hz; go_simp; try with_reducible rfl)
        (try simp only [Act.put, List.setIfInBounds_toArray, List.set_cons_zero, List.set_cons_succ])
        refine PlanO.take (v := .bool true) (by kernel_rfl) ?yB3 ?rB3
        case yB3 => (intro wz hz; go_simp; try simp; try omega)
        (try simp only [Act.put, List.setIfInBounds_toArray, List.set_cons_zero, List.set_cons_succ])
        refine PlanO.take (v := ?vB4) (by kernel_rfl) ?yB4 ?rB4
        case yB4 => (intro wz hz; go_simp; try with_reducible rfl)
        (try simp only [Act.put, List.setIfInBounds_toArray, List.set_cons_zero, List.set_cons_succ])
        refine PlanO.take (v := ?vB5) (by kernel_rfl) ?yB5 ?rB5
        case yB5 => (intro wz hz; go_simp; try with_reducible rfl)
        (try simp only [Act.put, List.setIfInBounds_toArray, List.set_cons_zero, List.set_cons_succ])
        refine PlanO.take (v := ?vB6) (by kernel_rfl) ?yB6 ?rB6
        case yB6 => (intro wz hz; go_simp; try with_reducible rfl)
        (try simp only [Act.put, List.setIfInBounds_toArray, List.set_cons_zero, List.set_cons_succ])
        refine PlanO.take (v := ?vB7) (by kernel_rfl) ?yB7 ?rB7
        case yB7 => (intro wz hz; go_simp; try with_reducible rfl)
        (try simp only [Act.put, List.setIfInBounds_toArray, List.set_cons_zero, List.set_cons_succ])
        refine PlanO.take (v := .bool false) (by kernel_rfl) ?yB8 ?rB8
        case yB8 => (intro wz hz; go_simp; try simp; try omega)
        (try simp only [Act.put, List.setIfInBounds_toArray, List.set_cons_zero, List.set_cons_succ])
        refine PlanO.take (v := .bool false) (by kernel_rfl) ?yB9 ?rB9
        case yB9 => (intro wz hz; go_simp; try simp; try omega)
        (try simp only [Act.put, List.setIfInBounds_toArray, List.set_cons_zero, List.set_cons_succ])
        refine PlanO.take (v := ?vB10) (by kernel_rfl) ?yB10 ?rB10
        case yB10 => (intro wz hz; go_simp; try with_reducible rfl)
        (try simp only [Act.put, List.setIfInBounds_toArray, List.set_cons_zero, List.set_cons_succ])
        refine PlanO.skip (by kernel_rfl) ?_
        (try simp only [Act.put, List.setIfInBounds_toArray, List.set_cons_zero, List.set_cons_succ])
        refine PlanO.skip (by kernel_rfl) ?_
        (try simp only [Act.put, List.setIfInBounds_toArray, List.set_cons_zero, List.set_cons_succ])
        refine PlanO.skip (by kernel_rfl) ?_
        (try simp only [Act.put, List.setIfInBounds_toArray, List.set_cons_zero, List.set_cons_succ])
        refine PlanO.skip (by kernel_rfl) ?_
        (try simp only [Act.put, List.setIfInBounds_toArray, List.set_cons_zero, List.set_cons_succ])
        refine PlanO.skip (by kernel_rfl) ?_
        (try simp only [Act.put, List.setIfInBounds_toArray, List.set_cons_zero, List.set_cons_succ])
        refine PlanO.skip (by kernel_rfl) ?_
        (try simp only [Act.put, List.setIfInBounds_toArray, List.set_cons_zero, List.set_cons_succ])
        refine PlanO.skip (by kernel_rfl) ?_
        (try simp only [Act.put, List.setIfInBounds_toArray, List.set_cons_zero, List.set_cons_succ])
        refine PlanO.take (v := .bool false) (by kernel_rfl) ?yB18 ?rB18
        case yB18 => (intro wz hz; go_simp; try simp; try omega)
        (try simp only [Act.put, List.setIfInBounds_toArray, List.set_cons_zero, List.set_cons_succ])
        refine PlanO.done (NoPanic.normal ?_)
        go_wp2
        go_ret
        exact ⟨by rw [HR.out]; rfl, HB.out.drew⟩
    · have HR := Lib.hid (comL_at a.data.toList b.data.toList n (by omega) (by omega) HT.out (.inl (by omega)))
      go_upto_region 2 with (fail)
      refine wp_region_plan [(true, 0), (true, 1), (true, 2), (true, 3), (true, 4), (true, 5), (true, 6), (true, 7), (true, 8), (true, 9), (true, 10), (true, 11), (true, 12), (true, 13), (true, 14), (true, 15), (true, 16), (true, 17), (true, 18)] (by kernel_rfl) (by kernel_rfl) (by kernel_rfl) (by kernel_rfl) (by kernel_rfl) ?_
      simp only [planO, List.drop_succ_cons, List.drop_zero]
      refine PlanO.take (v := ?vA0) (by kernel_rfl) ?yA0 ?rA0
      case yA0 => (intro wz hz; go_simp; try with_reducible rfl)
      (try simp only [Act.put, List.setIfInBounds_toArray, List.set_cons_zero, List.set_cons_succ])
      refine PlanO.take (v := ?vA1) (by kernel_rfl) ?yA1 ?rA1
      case yA1 => (intro wz hz; go_simp; try with_reducible rfl)
      (try simp only [Act.put, List.setIfInBounds_toArray, List.set_cons_zero, List.set_cons_succ])
      refine PlanO.take (v := ?vA2) (by kernel_rfl) ?yA2 ?rA2
      case yA2 => (intro wz hz; go_simp; try with_reducible rfl)
      (try simp only [Act.put, List.setIfInBounds_toArray, List.set_cons_zero, List.set_cons_succ])
      refine PlanO.take (v := .bool false) (by kernel_rfl) ?yA3 ?rA3
      case yA3 => (intro wz hz; go_simp; try simp; try omega)
      (try simp only [Act.put, List.setIfInBounds_toArray, List.set_cons_zero, List.set_cons_succ])
      refine PlanO.take (v := ?vA4) (by kernel_rfl) ?yA4 ?rA4
      case yA4 => (intro wz hz; go_simp; try with_reducible rfl)
      (try simp only [Act.put, List.setIfInBounds_toArray, List.set_cons_zero, List.set_cons_succ])
      refine PlanO.skip (by kernel_rfl) ?_
      (try simp only [Act.put, List.setIfInBounds_toArray, List.set_cons_zero, List.set_cons_succ])
      refine PlanO.skip (by kernel_rfl) ?_
      (try simp only [Act.put, List.setIfInBounds_toArray, List.set_cons_zero, List.set_cons_succ])
      refine PlanO.skip (by kernel_rfl) ?_
      (try simp only [Act.put, List.setIfInBounds_toArray, List.set_cons_zero, List.set_cons_succ])
      refine PlanO.skip (by kernel_rfl) ?_
      (try simp only [Act.put, List.setIfInBounds_toArray, List.set_cons_zero, List.set_cons_succ])
      refine PlanO.take (v := .bool false) (by kernel_rfl) ?yA9 ?rA9
      case yA9 => (intro wz hz; go_simp; try simp; try omega)
      (try simp only [Act.put, List.setIfInBounds_toArray, List.set_cons_zero, List.set_cons_succ])
      refine PlanO.take (v := ?vA10) (by kernel_rfl) ?yA10 ?rA10
      case yA10 => (intro wz hz; go_simp; try with_reducible rfl)
      (try simp only [Act.put, List.setIfInBounds_toArray, List.set_cons_zero, List.set_cons_succ])
      refine PlanO.skip (by kernel_rfl) ?_
      (try simp only [Act.put, List.setIfInBounds_toArray, List.set_cons_zero, List.set_cons_succ])
      refine PlanO.skip (by kernel_rfl) ?_
      (try simp only [Act.put, List.setIfInBounds_toArray, List.set_cons_zero, List.set_cons_succ])
      refine PlanO.skip (by kernel_rfl) ?_
      (try simp only [Act.put, List.setIfInBounds_toArray, List.set_cons_zero, List.set_cons_succ])
      refine PlanO.skip (by kernel_rfl) ?_
      (try simp only [Act.put, List.setIfInBounds_toArray, List.set_cons_zero, List.set_cons_succ])
      refine PlanO.skip (by kernel_rfl) ?_
      (try simp only [Act.put, List.setIfInBounds_toArray, List.set_cons_zero, List.set_cons_succ])
      refine PlanO.skip (by kernel_rfl) ?_
      (try simp only [Act.put, List.setIfInBounds_toArray, List.set_cons_zero, List.set_cons_succ])
      refine PlanO.skip (by kernel_rfl) ?_
      (try simp only [Act.put, List.setIfInBounds_toArray, List.set_cons_zero, List.set_cons_succ])
      refine PlanO.take (v := .bool false) (by kernel_rfl) ?yA18 ?rA18
      case yA18 => (intro wz hz; go_simp; try simp; try omega)
      (try simp only [Act.put, List.setIfInBounds_toArray, List.set_cons_zero, List.set_cons_succ])
      refine PlanO.done (NoPanic.normal ?_)
      go_wp2
      go_ret
      exact ⟨by rw [HR.out]; rfl, HB.out.drew⟩
end Go.Proofs.YteeikmpfgbfeoaaGreat
