/-
  Blocks: the bytes where entries stand, and those that tell the places of the whole ones, as the program parts them.
-/
import Derived.Test.YtdcjfgbngmdkfaaBlkGet
import Derived.Test.YtdcjfgbngmdkfaaFixedOut
import Derived.Test.YtdcjfgbngmdkfaaCells
import Derived.Test.YtdcjfgbngmdkfaaRegion
import Derived.Deep.Cut
namespace Go.Proofs.Ytdcjfgbngmdkfaa
open Go.RowKit

set_option maxRecDepth 100000 in
set_option maxHeartbeats 400000 in
theorem split_short (v : Value) (b : List UInt8) (w : World) (hv : RdB w v b) (h : b.length < 2) :
    Calls Try.prog 29 #[v] w fun e w' => e = .returned (.tuple #[.slice none 0 0, .slice none 0 0, .bool false]) ∧ Below w.heap.size w w' := by
  have HF := Lib.hid (getFixed_out v b ((b.length : Int) - 2) 2 (by omega) (by omega) w hv)
  obtain ⟨va, vc, rfl, hc1, hc2⟩ := hv.form
  clear hv
  have l1 : IntKind.i64.wrap ((b.length : Int) - 2) = (b.length : Int) - 2 := IntWalk.i64_in _ (by omega)
  go_enter Try.func29, Try.ntmps29
  go_wp2_with (go_at_call 45; (refine HF.out.mono ?_); rintro e w1 ⟨rfl, rfl⟩)
  refine bodyPost_ret (v := .tuple #[.slice none 0 0, .slice none 0 0, .bool false]) (by simp [results, Try.results29, go_sem]) rfl ⟨rfl, Below.refl _ _⟩

theorem fixed_end {v : Value} {b : List UInt8} {w : World} (hv : RdB w v b) (h : 2 ≤ b.length) :
    Calls Try.prog 45 #[v, .int .i64 ((b.length : Int) - 2), .int .i64 2] w fun e w' => e = .returned (.tuple #[.int .i64 (valL (b.drop (b.length - 2)) : Int), .bool true]) ∧ w = w' := by
  obtain ⟨m, hm⟩ : ∃ m, b.length = m + 2 := ⟨b.length - 2, by omega⟩
  have hgf := getFixed_yes v b m 2 (by omega) (by omega) w hv
  have htk : (b.drop m).take 2 = b.drop (b.length - 2) := by rw [List.take_of_length_le (by rw [List.length_drop]; omega), hm, Nat.add_sub_cancel]
  rw [htk] at hgf
  rw [show (b.length : Int) - 2 = (m : Int) by omega]
  exact hgf
theorem end_less {b : List UInt8} (h : 2 ≤ b.length) : valL (b.drop (b.length - 2)) < 65536 := by
  have := valL_lt (b.drop (b.length - 2))
  rw [List.length_drop, show b.length - (b.length - 2) = 2 by omega] at this
  exact this

set_option maxRecDepth 100000 in
set_option maxHeartbeats 400000 in
theorem split_no (v : Value) (b : List UInt8) (w : World) (hv : RdB w v b) (h2 : 2 ≤ b.length) (h : b.length < 2 + 4 * valL (b.drop (b.length - 2))) :
    Calls Try.prog 29 #[v] w fun e w' => e = .returned (.tuple #[.slice none 0 0, .slice none 0 0, .bool false]) ∧ Below w.heap.size w w' := by
  have hgf := fixed_end hv h2
  have hvl := end_less h2
  generalize valL (b.drop (b.length - 2)) = n at *
  have HF := Lib.hid hgf
  obtain ⟨va, vc, rfl, hc1, hc2⟩ := hv.form
  unfold maxLen at hc2
  clear hv hgf
  have l1 : IntKind.i64.wrap ((b.length : Int) - 2) = (b.length : Int) - 2 := IntWalk.i64_in _ (by omega)
  have l2 : IntKind.i64.wrap (4 * (n : Int)) = 4 * (n : Int) := IntWalk.i64_in _ (by omega)
  obtain ⟨z, hz⟩ : ∃ z : Int, (b.length : Int) - 2 - 4 * (n : Int) = z := ⟨_, rfl⟩
  have l3 : IntKind.i64.wrap ((b.length : Int) - 2 - 4 * (n : Int)) = z := by rw [IntWalk.i64_in _ (by omega)]; exact hz
  have k1 : decide (z < 0) = true := by simp; omega
  clear hz
  go_enter Try.func29, Try.ntmps29
  go_wp2_with (go_at_call 45; (refine HF.out.mono ?_); rintro e w1 ⟨rfl, rfl⟩)
  refine bodyPost_ret (v := .tuple #[.slice none 0 0, .slice none 0 0, .bool false]) (by simp [results, Try.results29, go_sem]) rfl ⟨rfl, Below.refl _ _⟩

set_option maxRecDepth 100000 in
set_option maxHeartbeats 400000 in
theorem split_yes (v : Value) (b : List UInt8) (w : World) (hv : RdB w v b) (n E : Nat) (hn : valL (b.drop (b.length - 2)) = n) (hE : b.length = E + 4 * n + 2) :
    Calls Try.prog 29 #[v] w fun e w' => ∃ x y, e = .returned (.tuple #[x, y, .bool true]) ∧ RdB w' x (b.take E) ∧ RdB w' y ((b.drop E).take (4 * n)) ∧ Below w.heap.size w w' := by
  have hgf := fixed_end hv (by omega)
  have hvl := end_less (b := b) (by omega)
  rw [hn] at hgf hvl
  have HF := Lib.hid hgf
  have HV := Lib.hid hv
  obtain ⟨bb, off, vc, rfl, hc1, hc2, _, _⟩ := hv.cells (by intro h; subst h; simp at hE)
  unfold maxLen at hc2
  clear hv hgf hn
  have l1 : IntKind.i64.wrap ((b.length : Int) - 2) = (b.length : Int) - 2 := IntWalk.i64_in _ (by omega)
  have l2 : IntKind.i64.wrap (4 * (n : Int)) = 4 * (n : Int) := IntWalk.i64_in _ (by omega)
  have l3 : IntKind.i64.wrap ((b.length : Int) - 2 - 4 * (n : Int)) = (E : Int) := by rw [IntWalk.i64_in _ (by omega)]; omega
  have k1 : decide ((E : Int) < 0) = false := by simp
  have hEv : E < vc := by omega
  have HX : Hid (∀ wz, Below w.heap.size w wz → RdB wz (.slice (some ⟨bb, off, none⟩) E vc) (b.take E)) := Lib.hid fun wz hz => by
    have h := sub_rd (HV.out.below hz (Nat.le_refl _)) 0 E (by omega) (by omega)
    rw [List.drop_zero] at h
    unfold RdB
    rw [List.length_take, show min E b.length = E by omega]
    simpa [Addr.add] using h
  have HY : Hid (∀ wz, Below w.heap.size w wz → RdB wz (.slice (some ⟨bb, off + E, none⟩) (4 * n) (vc - E)) ((b.drop E).take (4 * n))) := Lib.hid fun wz hz => by
    have h := sub_rd (HV.out.below hz (Nat.le_refl _)) E (4 * n) (by omega) (by omega)
    have hadd : (⟨bb, off, none⟩ : Addr).add E = ⟨bb, off + E, none⟩ := by unfold Addr.add; split <;> simp_all
    rw [Option.map_some, hadd] at h
    unfold RdB
    rw [List.length_take, List.length_drop, show min (4 * n) (b.length - E) = 4 * n by omega]
    exact h
  have HE := Lib.hid hE
  have e1 : E + 4 * n ≤ b.length := by omega
  have e2 : E + 4 * n ≤ vc := by omega
  clear hE
  go_enter Try.func29, Try.ntmps29
  go_upto_region 5 with (go_at_call 45; (refine HF.out.mono ?_); rintro e w1 ⟨rfl, rfl⟩)
  refine wp_region_plan [(true, 0), (true, 1), (true, 2), (true, 3), (true, 4), (true, 5), (true, 6), (true, 7), (true, 8), (true, 9), (true, 10), (true, 11)] (by kernel_rfl) (by kernel_rfl) (by kernel_rfl) (by kernel_rfl) (by kernel_rfl) ?_
  simp only [planO, List.drop_succ_cons, List.drop_zero]
  refine PlanO.take (v := ?v0) (by kernel_rfl) ?y0 ?r0
  case y0 => (intro wz hz; go_simp; try with_reducible rfl)
  (try simp only [Act.put, List.setIfInBounds_toArray, List.set_cons_zero, List.set_cons_succ])
  refine PlanO.take (v := ?v1) (by kernel_rfl) ?y1 ?r1
  case y1 => (intro wz hz; go_simp; try with_reducible rfl)
  (try simp only [Act.put, List.setIfInBounds_toArray, List.set_cons_zero, List.set_cons_succ])
  refine PlanO.take (v := .slice (some ⟨bb, off, none⟩) E vc) (by kernel_rfl) ?y2 ?r2
  case y2 => (intro wz hz; go_simp; try (intro hkc; omega))
  (try simp only [Act.put, List.setIfInBounds_toArray, List.set_cons_zero, List.set_cons_succ])
  refine PlanO.take (v := ?v3) (by kernel_rfl) ?y3 ?r3
  case y3 => (intro wz hz; go_simp; try with_reducible rfl)
  (try simp only [Act.put, List.setIfInBounds_toArray, List.set_cons_zero, List.set_cons_succ])
  refine PlanO.take (v := ?v4) (by kernel_rfl) ?y4 ?r4
  case y4 => (intro wz hz; go_simp; try with_reducible rfl)
  (try simp only [Act.put, List.setIfInBounds_toArray, List.set_cons_zero, List.set_cons_succ])
  refine PlanO.take (v := ?v5) (by kernel_rfl) ?y5 ?r5
  case y5 => (intro wz hz; go_simp; try with_reducible rfl)
  (try simp only [Act.put, List.setIfInBounds_toArray, List.set_cons_zero, List.set_cons_succ])
  refine PlanO.take (v := ?v6) (by kernel_rfl) ?y6 ?r6
  case y6 => (intro wz hz; go_simp; try with_reducible rfl)
  (try simp only [Act.put, List.setIfInBounds_toArray, List.set_cons_zero, List.set_cons_succ])
  refine PlanO.take (v := .int .i64 ((b.length : Int) - 2)) (by kernel_rfl) ?y7 ?r7
  case y7 => (intro wz hz; go_simp; try with_reducible rfl)
  (try simp only [Act.put, List.setIfInBounds_toArray, List.set_cons_zero, List.set_cons_succ])
  refine PlanO.take (v := .slice (some ⟨bb, off + E, none⟩) (4 * n) (vc - E)) (by kernel_rfl) ?y8 ?r8
  case y8 => (intro wz hz; go_simp; have hEo := HE.out; rw [if_pos (by omega), if_pos (by omega), if_neg (show ¬ vc = E by omega), show ((b.length : Int) - 2).toNat - E = 4 * n by omega])
  (try simp only [Act.put, List.setIfInBounds_toArray, List.set_cons_zero, List.set_cons_succ])
  refine PlanO.take (v := ?v9) (by kernel_rfl) ?y9 ?r9
  case y9 => (intro wz hz; go_simp; try with_reducible rfl)
  (try simp only [Act.put, List.setIfInBounds_toArray, List.set_cons_zero, List.set_cons_succ])
  refine PlanO.take (v := ?v10) (by kernel_rfl) ?y10 ?r10
  case y10 => (intro wz hz; go_simp; try with_reducible rfl)
  (try simp only [Act.put, List.setIfInBounds_toArray, List.set_cons_zero, List.set_cons_succ])
  refine PlanO.take (v := ?v11) (by kernel_rfl) ?y11 ?r11
  case y11 => (intro wz hz; go_simp; try with_reducible rfl)
  (try simp only [Act.put, List.setIfInBounds_toArray, List.set_cons_zero, List.set_cons_succ])
  refine PlanO.done (NoPanic.normal ?_)
  go_wp2
  refine bodyPost_ret (v := .tuple #[.slice (some ⟨bb, off, none⟩) E vc, .slice (some ⟨bb, off + E, none⟩) (4 * n) (vc - E), .bool true]) (by simp [results, Try.results29, go_sem]) rfl ?_
  exact ⟨_, _, rfl, HX.out _ (Below.refl _ _).drew, HY.out _ (Below.refl _ _).drew, (Below.refl _ _).drew⟩
end Go.Proofs.Ytdcjfgbngmdkfaa
