/-
  The walk of the statement NumJust.
-/
import Derived.Test.YtemlonbcdaboeaaText
import Derived.Test.YtemlonbcdaboeaaLift
import Derived.Test.YtemlonbcdaboeaaRegion
import Derived.Deep.DeepCutAuto
import Derived.Deep.QuietTactic
import Derived.BigQuiet
namespace Go.Proofs.Ytemlonbcdaboeaa
open Go.ChangeShapes Go.WideShapes Go.ChangeAt Go.RowKit

/-- What stands between a place and the place behind a number is the number's bytes. -/
theorem getAt_just {l : List UInt8} {p n k : Nat} (h : getAt l (p : Int) = some (n, k)) :
    p < k ∧ k ≤ l.length ∧ (n : Int) ≤ 9223372036854775807 ∧ (l.drop p).take (k - p) = putL n := by
  obtain ⟨p', hp, h1, h2, h3, h4, h5⟩ := getAt_some h
  obtain rfl : p = p' := by omega
  refine ⟨h1, h2, h3, ?_⟩
  rw [h4, show k - p = (putL n).length from by omega, List.take_left]

theorem textAt_just {l : List UInt8} {p k : Nat} {s : List UInt8} (h : textAt l (p : Int) = some (s, k)) :
    p < k ∧ k ≤ l.length ∧ s.length ≤ l.length ∧ (l.drop p).take (k - p) = putT s := by
  unfold textAt at h
  cases hg : getAt l (p : Int) with
  | none => rw [hg] at h; cases h
  | some x =>
    obtain ⟨n, j⟩ := x
    rw [hg] at h
    obtain ⟨p', hp, h1, h2, h3, h4, h5⟩ := getAt_some hg
    obtain rfl : p = p' := by omega
    simp only [Option.bind_some] at h
    split at h
    · rename_i hle
      simp only [Option.some.injEq, Prod.mk.injEq] at h
      obtain ⟨rfl, rfl⟩ := h
      have hl : ((l.drop j).take n).length = n := by rw [List.length_take, List.length_drop]; omega
      refine ⟨by omega, by omega, by rw [hl]; omega, ?_⟩
      rw [putT, hl, h4, show j + n - p = (putL n).length + n from by omega, List.take_length_add_append]
    · cases h

set_option maxRecDepth 100000 in
theorem numJust_far (v : Value) (l : List UInt8) (k : Int) (W : World) (hv : RdB W v l) (hf : 500 < l.length) :
    Calls Try.prog 5 #[v, .int .u8 k] W fun e w' => e = .returned (.bool true) ∧ Below W.heap.size W w' := by
  obtain ⟨a, c, rfl, _, _⟩ := hv.form
  have g : (500 : Int) < (l.length : Int) := by omega
  go_enter Try.func5, Try.ntmps5
  go_wp2_with fail
  refine (awake_any _).mono ?_
  rintro e w2 ⟨rfl, hb2⟩
  go_wp2
  go_ret
  exact ⟨rfl, hb2⟩

set_option maxRecDepth 100000 in
set_option linter.unusedSimpArgs false in
set_option maxHeartbeats 1600000 in
theorem numJust_none (v : Value) (l : List UInt8) (k : Nat) (W : World) (hv : RdB W v l) (hk : (k : Int) ≤ 255) (hf : l.length ≤ 500) (hg : getAt l (k : Int) = none) :
    Calls Try.prog 5 #[v, .int .u8 k] W fun e w' => e = .returned (.bool true) ∧ Below W.heap.size W w' := by
  have c1 := get_any v l (k : Int) W hv
  have c2 := getText_any v l (k : Int) W hv
  rw [hg] at c1
  rw [textAt, hg] at c2
  obtain ⟨a, c, rfl, hc1, hc2⟩ := hv.form
  unfold ans3 at c1
  unfold Option.bind ansT at c2
  have g : ¬ (500 : Int) < (l.length : Int) := by omega
  have C1 := Lib.hid c1
  have C2 := Lib.hid c2
  clear hg c1 c2
  go_enter Try.func5, Try.ntmps5
  go_wp2_with fail
  refine C1.out.mono ?_
  rintro e w2 ⟨rfl, rfl⟩
  go_wp2_with fail
  refine C2.out.mono ?_
  rintro e w2 ⟨rfl, rfl⟩
  clear C1 C2
  go_wp2_with fail
  go_quiet (fail)
  go_wp2_with fail
  go_quiet (fail)
  go_wp2_with fail
  refine (awake_any _).mono ?_
  rintro e w2 ⟨rfl, hb2⟩
  go_wp2
  go_ret
  exact ⟨rfl, below_draws hb2⟩

set_option maxRecDepth 100000 in
set_option linter.unusedSimpArgs false in
set_option maxHeartbeats 1600000 in
theorem numJust_some (v : Value) (l : List UInt8) (k n nx : Nat) (W : World) (hv : RdB W v l) (hk : (k : Int) ≤ 255) (hf : l.length ≤ 500) (hg : getAt l (k : Int) = some (n, nx)) (ht : textAt l (k : Int) = none) :
    Calls Try.prog 5 #[v, .int .u8 k] W fun e w' => e = .returned (.bool true) ∧ Below W.heap.size W w' := by
  have c1 := get_any v l (k : Int) W hv
  have c2 := getText_any v l (k : Int) W hv
  obtain ⟨j1, j2, j3, j4⟩ := getAt_just hg
  rw [hg] at c1
  rw [ht] at c2
  obtain ⟨b, off, c, rfl, hc1, hc2, hbw, hcell⟩ := hv.cells (by intro h; subst h; simp at j2; omega)
  have hpart := hv.part k nx (by omega) j2
  rw [j4] at hpart
  unfold maxLen at hc2
  unfold ans3 at c1
  unfold ansT at c2
  have g : ¬ (500 : Int) < (l.length : Int) := by omega
  have g1 : ¬ (nx : Int) ≤ (k : Int) := by omega
  have g2 : ¬ (l.length : Int) < (nx : Int) := by omega
  have g4 : (0 : Int) ≤ (k : Int) := by omega
  have g5 : (k : Int) ≤ (nx : Int) := by omega
  have g6 : (nx : Int) ≤ (c : Int) := by omega
  have g7 : (0 : Int) ≤ (nx : Int) := by omega
  have g5n : k ≤ nx := by omega
  have g6n : nx ≤ c := by omega
  have g1n : ¬ nx ≤ k := by omega
  have g2n : ¬ l.length < nx := by omega
  have g3 : k < c := by omega
  have hck : ¬ c = k := by omega
  have C1 := Lib.hid c1
  have C2 := Lib.hid c2
  clear hg ht c1 c2 hcell j4
  go_enter Try.func5, Try.ntmps5
  go_wp2_with fail
  refine C1.out.mono ?_
  rintro e w2 ⟨rfl, rfl⟩
  go_wp2_with fail
  refine C2.out.mono ?_
  rintro e w2 ⟨rfl, rfl⟩
  clear C1 C2
  go_upto_region 6 with fail
  go_cut [54] (fun s wx => s = .bool false ∧ Below W.heap.size W wx)
  case first =>
    have hq0 := rdB_convert (P := Try.prog) hpart.drew 22 5 9 Try.underlying22 Try.underlying5 Try.underlying9
    refine wp_region_TFO (S := fun w' => (convert 22 9 (.slice (some ⟨b, off + k, none⟩) (nx - k) (c - k))).run Try.prog w' = .ok (.string (strB (putL n))) w') [0, 1, 2, 3, 4, 5, 6, 7, 8, 9, 10, 11, 12, 15, 16, 17, 18, 19] [13, 14, 20, 21, 22] (by kernel_rfl) (by kernel_rfl) (by kernel_rfl) (by kernel_rfl) (by kernel_rfl) (by kernel_rfl) hq0 ?_
    simp only [pickO, List.drop_succ_cons, List.drop_zero]
    refine TakesO.cons (v := ?v0) (by kernel_rfl) ?y0 ?r0
    case y0 => (intro wz hz; (try dsimp only at hz); go_simp; try with_reducible rfl)
    (try simp only [Act.put, List.setIfInBounds_toArray, List.set_cons_zero, List.set_cons_succ])
    refine TakesO.cons (v := ?v1) (by kernel_rfl) ?y1 ?r1
    case y1 => (intro wz hz; (try dsimp only at hz); go_simp; try with_reducible rfl)
    (try simp only [Act.put, List.setIfInBounds_toArray, List.set_cons_zero, List.set_cons_succ])
    refine TakesO.cons (v := ?v2) (by kernel_rfl) ?y2 ?r2
    case y2 => (intro wz hz; (try dsimp only at hz); go_simp; try with_reducible rfl)
    (try simp only [Act.put, List.setIfInBounds_toArray, List.set_cons_zero, List.set_cons_succ])
    refine TakesO.cons (v := ?v3) (by kernel_rfl) ?y3 ?r3
    case y3 => (intro wz hz; (try dsimp only at hz); go_simp; try with_reducible rfl)
    (try simp only [Act.put, List.setIfInBounds_toArray, List.set_cons_zero, List.set_cons_succ])
    refine TakesO.cons (v := ?v4) (by kernel_rfl) ?y4 ?r4
    case y4 => (intro wz hz; (try dsimp only at hz); go_simp; try with_reducible rfl)
    (try simp only [Act.put, List.setIfInBounds_toArray, List.set_cons_zero, List.set_cons_succ])
    refine TakesO.cons (v := ?v5) (by kernel_rfl) ?y5 ?r5
    case y5 => (intro wz hz; (try dsimp only at hz); go_simp; try with_reducible rfl)
    (try simp only [Act.put, List.setIfInBounds_toArray, List.set_cons_zero, List.set_cons_succ])
    refine TakesO.cons (v := ?v6) (by kernel_rfl) ?y6 ?r6
    case y6 => (intro wz hz; (try dsimp only at hz); go_simp; try with_reducible rfl)
    (try simp only [Act.put, List.setIfInBounds_toArray, List.set_cons_zero, List.set_cons_succ])
    refine TakesO.cons (v := ?v7) (by kernel_rfl) ?y7 ?r7
    case y7 => (intro wz hz; (try dsimp only at hz); go_simp; try with_reducible rfl)
    (try simp only [Act.put, List.setIfInBounds_toArray, List.set_cons_zero, List.set_cons_succ])
    refine TakesO.cons (v := ?v8) (by kernel_rfl) ?y8 ?r8
    case y8 => (intro wz hz; (try dsimp only at hz); go_simp; try with_reducible rfl)
    (try simp only [Act.put, List.setIfInBounds_toArray, List.set_cons_zero, List.set_cons_succ])
    refine TakesO.cons (v := ?v9) (by kernel_rfl) ?y9 ?r9
    case y9 => (intro wz hz; (try dsimp only at hz); go_simp; try with_reducible rfl)
    (try simp only [Act.put, List.setIfInBounds_toArray, List.set_cons_zero, List.set_cons_succ])
    refine TakesO.cons (v := ?v10) (by kernel_rfl) ?y10 ?r10
    case y10 => (intro wz hz; (try dsimp only at hz); go_simp; try with_reducible rfl)
    (try simp only [Act.put, List.setIfInBounds_toArray, List.set_cons_zero, List.set_cons_succ])
    refine TakesO.cons (v := ?v11) (by kernel_rfl) ?y11 ?r11
    case y11 => (intro wz hz; (try dsimp only at hz); go_simp; try with_reducible rfl)
    (try simp only [Act.put, List.setIfInBounds_toArray, List.set_cons_zero, List.set_cons_succ])
    refine TakesO.cons (v := ?v12) (by kernel_rfl) ?y12 ?r12
    case y12 => (intro wz hz; (try dsimp only at hz); go_simp; try with_reducible rfl)
    (try simp only [Act.put, List.setIfInBounds_toArray, List.set_cons_zero, List.set_cons_succ])
    refine TakesO.cons (v := ?v15) (by kernel_rfl) ?y15 ?r15
    case y15 => (intro wz hz; (try dsimp only at hz); go_simp; try with_reducible rfl)
    (try simp only [Act.put, List.setIfInBounds_toArray, List.set_cons_zero, List.set_cons_succ])
    refine TakesO.cons (v := ?v16) (by kernel_rfl) ?y16 ?r16
    case y16 => (intro wz hz; (try dsimp only at hz); go_simp; try with_reducible rfl)
    (try simp only [Act.put, List.setIfInBounds_toArray, List.set_cons_zero, List.set_cons_succ])
    refine TakesO.cons (v := ?v17) (by kernel_rfl) ?y17 ?r17
    case y17 => (intro wz hz; (try dsimp only at hz); go_simp; try with_reducible rfl)
    (try simp only [Act.put, List.setIfInBounds_toArray, List.set_cons_zero, List.set_cons_succ])
    refine TakesO.cons (v := ?v18) (by kernel_rfl) ?y18 ?r18
    case y18 => (intro wz hz; (try dsimp only at hz); go_simp; try with_reducible rfl)
    (try simp only [Act.put, List.setIfInBounds_toArray, List.set_cons_zero, List.set_cons_succ])
    refine TakesO.cons (v := ?v19) (by kernel_rfl) ?y19 ?r19
    case y19 => (intro wz hz; (try dsimp only at hz); go_simp; try with_reducible rfl)
    (try simp only [Act.put, List.setIfInBounds_toArray, List.set_cons_zero, List.set_cons_succ])
    refine TakesO.nil ?_
    show TailO _ _ _ _ _ _ _
    refine TailO.cons (fun K hK => ?_)
    go_simp
    go_at_call 15
    refine (put_nat n j3 _).mono ?_
    rintro e w1 ⟨pv, rfl, hown, hb⟩
    have hp1 := rdB_convert (P := Try.prog) hown.read 22 5 9 Try.underlying22 Try.underlying5 Try.underlying9
    have hq1 := rdB_convert (P := Try.prog) (hpart.drew.below hb (Nat.le_refl _)) 22 5 9 Try.underlying22 Try.underlying5 Try.underlying9
    go_wp2_with fail
    refine hK.out _ _ hq1 ?_
    clear hK K
    (try simp only [Act.put, List.setIfInBounds_toArray, List.set_cons_zero, List.set_cons_succ])
    refine TailO.cons (fun K hK => ?_)
    go_simp
    refine hK.out _ _ hq1 ?_
    clear hK K
    (try simp only [Act.put, List.setIfInBounds_toArray, List.set_cons_zero, List.set_cons_succ])
    refine TailO.cons (fun K hK => ?_)
    go_simp
    refine hK.out _ _ hq1 ?_
    clear hK K
    (try simp only [Act.put, List.setIfInBounds_toArray, List.set_cons_zero, List.set_cons_succ])
    refine TailO.cons (fun K hK => ?_)
    go_simp
    refine hK.out _ _ hq1 ?_
    clear hK K
    (try simp only [Act.put, List.setIfInBounds_toArray, List.set_cons_zero, List.set_cons_succ])
    refine TailO.cons (fun K hK => ?_)
    go_simp
    refine hK.out _ _ hq1 ?_
    clear hK K
    (try simp only [Act.put, List.setIfInBounds_toArray, List.set_cons_zero, List.set_cons_succ])
    refine TailO.nil (NoPanic.normal ?_)
    go_wp2_with fail
    go_meet
    exact ⟨rfl, below_draw hb⟩
  case rest =>
    obtain ⟨rfl, hbx⟩ := hcut
    go_wp2_with fail
    go_quiet (fail)
    go_wp2_with fail
    refine (awake_any _).mono ?_
    rintro e w2 ⟨rfl, hb2⟩
    go_wp2
    go_ret
    exact ⟨rfl, hbx.trans ((below_draws hb2).mono hbx.size)⟩

set_option maxRecDepth 100000 in
set_option linter.unusedSimpArgs false in
set_option maxHeartbeats 3200000 in
theorem numJust_text (v : Value) (l : List UInt8) (k n nx en : Nat) (s : List UInt8) (W : World) (hv : RdB W v l) (hk : (k : Int) ≤ 255) (hf : l.length ≤ 500) (hg : getAt l (k : Int) = some (n, nx)) (ht : textAt l (k : Int) = some (s, en)) :
    Calls Try.prog 5 #[v, .int .u8 k] W fun e w' => e = .returned (.bool true) ∧ Below W.heap.size W w' := by
  have c1 := get_any v l (k : Int) W hv
  have c2 := getText_any v l (k : Int) W hv
  obtain ⟨j1, j2, j3, j4⟩ := getAt_just hg
  obtain ⟨i1, i2, i3, i4⟩ := textAt_just ht
  have hss : ((strB s).size : Int) ≤ 1099511627776 := by rw [strB_size]; omega
  rw [hg] at c1
  rw [ht] at c2
  obtain ⟨b, off, c, rfl, hc1, hc2, hbw, hcell⟩ := hv.cells (by intro h; subst h; simp at j2; omega)
  have hpart := hv.part k nx (by omega) j2
  have hpt0 := hv.part k en (by omega) i2
  rw [j4] at hpart
  rw [i4] at hpt0
  unfold maxLen at hc2
  unfold ans3 at c1
  unfold ansT at c2
  have g : ¬ (500 : Int) < (l.length : Int) := by omega
  have g4 : (0 : Int) ≤ (k : Int) := by omega
  have g5 : (k : Int) ≤ (nx : Int) := by omega
  have g6 : (nx : Int) ≤ (c : Int) := by omega
  have g7 : (0 : Int) ≤ (nx : Int) := by omega
  have g5n : k ≤ nx := by omega
  have g6n : nx ≤ c := by omega
  have g1 : ¬ (nx : Int) ≤ (k : Int) := by omega
  have g2 : ¬ (l.length : Int) < (nx : Int) := by omega
  have g1n : ¬ nx ≤ k := by omega
  have g2n : ¬ l.length < nx := by omega
  have f5 : (k : Int) ≤ (en : Int) := by omega
  have f6 : (en : Int) ≤ (c : Int) := by omega
  have f7 : (0 : Int) ≤ (en : Int) := by omega
  have f5n : k ≤ en := by omega
  have f6n : en ≤ c := by omega
  have f1 : ¬ (en : Int) ≤ (k : Int) := by omega
  have f2 : ¬ (l.length : Int) < (en : Int) := by omega
  have f1n : ¬ en ≤ k := by omega
  have f2n : ¬ l.length < en := by omega
  have g3 : k < c := by omega
  have hck : ¬ c = k := by omega
  have C1 := Lib.hid c1
  have C2 := Lib.hid c2
  clear hg ht c1 c2 hcell j4 i4
  go_enter Try.func5, Try.ntmps5
  go_wp2_with fail
  refine C1.out.mono ?_
  rintro e w2 ⟨rfl, rfl⟩
  go_wp2_with fail
  refine C2.out.mono ?_
  rintro e w2 ⟨rfl, rfl⟩
  clear C1 C2
  go_upto_region 6 with fail
  go_cut [54] (fun s wx => s = .bool false ∧ Below W.heap.size W wx)
  case first =>
    have hq0 := rdB_convert (P := Try.prog) hpart.drew 22 5 9 Try.underlying22 Try.underlying5 Try.underlying9
    refine wp_region_TFO (S := fun w' => (convert 22 9 (.slice (some ⟨b, off + k, none⟩) (nx - k) (c - k))).run Try.prog w' = .ok (.string (strB (putL n))) w') [0, 1, 2, 3, 4, 5, 6, 7, 8, 9, 10, 11, 12, 15, 16, 17, 18, 19] [13, 14, 20, 21, 22] (by kernel_rfl) (by kernel_rfl) (by kernel_rfl) (by kernel_rfl) (by kernel_rfl) (by kernel_rfl) hq0 ?_
    simp only [pickO, List.drop_succ_cons, List.drop_zero]
    refine TakesO.cons (v := ?v0) (by kernel_rfl) ?y0 ?r0
    case y0 => (intro wz hz; (try dsimp only at hz); go_simp; try with_reducible rfl)
    (try simp only [Act.put, List.setIfInBounds_toArray, List.set_cons_zero, List.set_cons_succ])
    refine TakesO.cons (v := ?v1) (by kernel_rfl) ?y1 ?r1
    case y1 => (intro wz hz; (try dsimp only at hz); go_simp; try with_reducible rfl)
    (try simp only [Act.put, List.setIfInBounds_toArray, List.set_cons_zero, List.set_cons_succ])
    refine TakesO.cons (v := ?v2) (by kernel_rfl) ?y2 ?r2
    case y2 => (intro wz hz; (try dsimp only at hz); go_simp; try with_reducible rfl)
    (try simp only [Act.put, List.setIfInBounds_toArray, List.set_cons_zero, List.set_cons_succ])
    refine TakesO.cons (v := ?v3) (by kernel_rfl) ?y3 ?r3
    case y3 => (intro wz hz; (try dsimp only at hz); go_simp; try with_reducible rfl)
    (try simp only [Act.put, List.setIfInBounds_toArray, List.set_cons_zero, List.set_cons_succ])
    refine TakesO.cons (v := ?v4) (by kernel_rfl) ?y4 ?r4
    case y4 => (intro wz hz; (try dsimp only at hz); go_simp; try with_reducible rfl)
    (try simp only [Act.put, List.setIfInBounds_toArray, List.set_cons_zero, List.set_cons_succ])
    refine TakesO.cons (v := ?v5) (by kernel_rfl) ?y5 ?r5
    case y5 => (intro wz hz; (try dsimp only at hz); go_simp; try with_reducible rfl)
    (try simp only [Act.put, List.setIfInBounds_toArray, List.set_cons_zero, List.set_cons_succ])
    refine TakesO.cons (v := ?v6) (by kernel_rfl) ?y6 ?r6
    case y6 => (intro wz hz; (try dsimp only at hz); go_simp; try with_reducible rfl)
    (try simp only [Act.put, List.setIfInBounds_toArray, List.set_cons_zero, List.set_cons_succ])
    refine TakesO.cons (v := ?v7) (by kernel_rfl) ?y7 ?r7
    case y7 => (intro wz hz; (try dsimp only at hz); go_simp; try with_reducible rfl)
    (try simp only [Act.put, List.setIfInBounds_toArray, List.set_cons_zero, List.set_cons_succ])
    refine TakesO.cons (v := ?v8) (by kernel_rfl) ?y8 ?r8
    case y8 => (intro wz hz; (try dsimp only at hz); go_simp; try with_reducible rfl)
    (try simp only [Act.put, List.setIfInBounds_toArray, List.set_cons_zero, List.set_cons_succ])
    refine TakesO.cons (v := ?v9) (by kernel_rfl) ?y9 ?r9
    case y9 => (intro wz hz; (try dsimp only at hz); go_simp; try with_reducible rfl)
    (try simp only [Act.put, List.setIfInBounds_toArray, List.set_cons_zero, List.set_cons_succ])
    refine TakesO.cons (v := ?v10) (by kernel_rfl) ?y10 ?r10
    case y10 => (intro wz hz; (try dsimp only at hz); go_simp; try with_reducible rfl)
    (try simp only [Act.put, List.setIfInBounds_toArray, List.set_cons_zero, List.set_cons_succ])
    refine TakesO.cons (v := ?v11) (by kernel_rfl) ?y11 ?r11
    case y11 => (intro wz hz; (try dsimp only at hz); go_simp; try with_reducible rfl)
    (try simp only [Act.put, List.setIfInBounds_toArray, List.set_cons_zero, List.set_cons_succ])
    refine TakesO.cons (v := ?v12) (by kernel_rfl) ?y12 ?r12
    case y12 => (intro wz hz; (try dsimp only at hz); go_simp; try with_reducible rfl)
    (try simp only [Act.put, List.setIfInBounds_toArray, List.set_cons_zero, List.set_cons_succ])
    refine TakesO.cons (v := ?v15) (by kernel_rfl) ?y15 ?r15
    case y15 => (intro wz hz; (try dsimp only at hz); go_simp; try with_reducible rfl)
    (try simp only [Act.put, List.setIfInBounds_toArray, List.set_cons_zero, List.set_cons_succ])
    refine TakesO.cons (v := ?v16) (by kernel_rfl) ?y16 ?r16
    case y16 => (intro wz hz; (try dsimp only at hz); go_simp; try with_reducible rfl)
    (try simp only [Act.put, List.setIfInBounds_toArray, List.set_cons_zero, List.set_cons_succ])
    refine TakesO.cons (v := ?v17) (by kernel_rfl) ?y17 ?r17
    case y17 => (intro wz hz; (try dsimp only at hz); go_simp; try with_reducible rfl)
    (try simp only [Act.put, List.setIfInBounds_toArray, List.set_cons_zero, List.set_cons_succ])
    refine TakesO.cons (v := ?v18) (by kernel_rfl) ?y18 ?r18
    case y18 => (intro wz hz; (try dsimp only at hz); go_simp; try with_reducible rfl)
    (try simp only [Act.put, List.setIfInBounds_toArray, List.set_cons_zero, List.set_cons_succ])
    refine TakesO.cons (v := ?v19) (by kernel_rfl) ?y19 ?r19
    case y19 => (intro wz hz; (try dsimp only at hz); go_simp; try with_reducible rfl)
    (try simp only [Act.put, List.setIfInBounds_toArray, List.set_cons_zero, List.set_cons_succ])
    refine TakesO.nil ?_
    show TailO _ _ _ _ _ _ _
    refine TailO.cons (fun K hK => ?_)
    go_simp
    go_at_call 15
    refine (put_nat n j3 _).mono ?_
    rintro e w1 ⟨pv, rfl, hown, hb⟩
    have hp1 := rdB_convert (P := Try.prog) hown.read 22 5 9 Try.underlying22 Try.underlying5 Try.underlying9
    have hq1 := rdB_convert (P := Try.prog) (hpart.drew.below hb (Nat.le_refl _)) 22 5 9 Try.underlying22 Try.underlying5 Try.underlying9
    go_wp2_with fail
    refine hK.out _ _ hq1 ?_
    clear hK K
    (try simp only [Act.put, List.setIfInBounds_toArray, List.set_cons_zero, List.set_cons_succ])
    refine TailO.cons (fun K hK => ?_)
    go_simp
    refine hK.out _ _ hq1 ?_
    clear hK K
    (try simp only [Act.put, List.setIfInBounds_toArray, List.set_cons_zero, List.set_cons_succ])
    refine TailO.cons (fun K hK => ?_)
    go_simp
    refine hK.out _ _ hq1 ?_
    clear hK K
    (try simp only [Act.put, List.setIfInBounds_toArray, List.set_cons_zero, List.set_cons_succ])
    refine TailO.cons (fun K hK => ?_)
    go_simp
    refine hK.out _ _ hq1 ?_
    clear hK K
    (try simp only [Act.put, List.setIfInBounds_toArray, List.set_cons_zero, List.set_cons_succ])
    refine TailO.cons (fun K hK => ?_)
    go_simp
    refine hK.out _ _ hq1 ?_
    clear hK K
    (try simp only [Act.put, List.setIfInBounds_toArray, List.set_cons_zero, List.set_cons_succ])
    refine TailO.nil (NoPanic.normal ?_)
    go_wp2_with fail
    go_meet
    exact ⟨rfl, below_draw hb⟩
  case rest =>
    obtain ⟨rfl, hbx⟩ := hcut
    go_upto_region 8 with fail
    go_cut [77] (fun s wx => s = .bool false ∧ Below W.heap.size W wx)
    case first =>
      have hpt := hpt0.below hbx (Nat.le_refl _)
      have hz0 := rdB_convert (P := Try.prog) hpt.drew 22 5 9 Try.underlying22 Try.underlying5 Try.underlying9
      refine wp_region_TFO (S := fun w' => (convert 22 9 (.slice (some ⟨b, off + k, none⟩) (en - k) (c - k))).run Try.prog w' = .ok (.string (strB (putT s))) w') [0, 1, 2, 3, 4, 5, 6, 7, 8, 9, 10, 11, 12, 15, 16, 17, 18, 19] [13, 14, 20, 21, 22] (by kernel_rfl) (by kernel_rfl) (by kernel_rfl) (by kernel_rfl) (by kernel_rfl) (by kernel_rfl) hz0 ?_
      simp only [pickO, List.drop_succ_cons, List.drop_zero]
      refine TakesO.cons (v := ?vt0) (by kernel_rfl) ?yt0 ?rt0
      case yt0 => (intro wz hz; (try dsimp only at hz); go_simp; try with_reducible rfl)
      (try simp only [Act.put, List.setIfInBounds_toArray, List.set_cons_zero, List.set_cons_succ])
      refine TakesO.cons (v := ?vt1) (by kernel_rfl) ?yt1 ?rt1
      case yt1 => (intro wz hz; (try dsimp only at hz); go_simp; try with_reducible rfl)
      (try simp only [Act.put, List.setIfInBounds_toArray, List.set_cons_zero, List.set_cons_succ])
      refine TakesO.cons (v := ?vt2) (by kernel_rfl) ?yt2 ?rt2
      case yt2 => (intro wz hz; (try dsimp only at hz); go_simp; try with_reducible rfl)
      (try simp only [Act.put, List.setIfInBounds_toArray, List.set_cons_zero, List.set_cons_succ])
      refine TakesO.cons (v := ?vt3) (by kernel_rfl) ?yt3 ?rt3
      case yt3 => (intro wz hz; (try dsimp only at hz); go_simp; try with_reducible rfl)
      (try simp only [Act.put, List.setIfInBounds_toArray, List.set_cons_zero, List.set_cons_succ])
      refine TakesO.cons (v := ?vt4) (by kernel_rfl) ?yt4 ?rt4
      case yt4 => (intro wz hz; (try dsimp only at hz); go_simp; try with_reducible rfl)
      (try simp only [Act.put, List.setIfInBounds_toArray, List.set_cons_zero, List.set_cons_succ])
      refine TakesO.cons (v := ?vt5) (by kernel_rfl) ?yt5 ?rt5
      case yt5 => (intro wz hz; (try dsimp only at hz); go_simp; try with_reducible rfl)
      (try simp only [Act.put, List.setIfInBounds_toArray, List.set_cons_zero, List.set_cons_succ])
      refine TakesO.cons (v := ?vt6) (by kernel_rfl) ?yt6 ?rt6
      case yt6 => (intro wz hz; (try dsimp only at hz); go_simp; try with_reducible rfl)
      (try simp only [Act.put, List.setIfInBounds_toArray, List.set_cons_zero, List.set_cons_succ])
      refine TakesO.cons (v := ?vt7) (by kernel_rfl) ?yt7 ?rt7
      case yt7 => (intro wz hz; (try dsimp only at hz); go_simp; try with_reducible rfl)
      (try simp only [Act.put, List.setIfInBounds_toArray, List.set_cons_zero, List.set_cons_succ])
      refine TakesO.cons (v := ?vt8) (by kernel_rfl) ?yt8 ?rt8
      case yt8 => (intro wz hz; (try dsimp only at hz); go_simp; try with_reducible rfl)
      (try simp only [Act.put, List.setIfInBounds_toArray, List.set_cons_zero, List.set_cons_succ])
      refine TakesO.cons (v := ?vt9) (by kernel_rfl) ?yt9 ?rt9
      case yt9 => (intro wz hz; (try dsimp only at hz); go_simp; try with_reducible rfl)
      (try simp only [Act.put, List.setIfInBounds_toArray, List.set_cons_zero, List.set_cons_succ])
      refine TakesO.cons (v := ?vt10) (by kernel_rfl) ?yt10 ?rt10
      case yt10 => (intro wz hz; (try dsimp only at hz); go_simp; try with_reducible rfl)
      (try simp only [Act.put, List.setIfInBounds_toArray, List.set_cons_zero, List.set_cons_succ])
      refine TakesO.cons (v := ?vt11) (by kernel_rfl) ?yt11 ?rt11
      case yt11 => (intro wz hz; (try dsimp only at hz); go_simp; try with_reducible rfl)
      (try simp only [Act.put, List.setIfInBounds_toArray, List.set_cons_zero, List.set_cons_succ])
      refine TakesO.cons (v := ?vt12) (by kernel_rfl) ?yt12 ?rt12
      case yt12 => (intro wz hz; (try dsimp only at hz); go_simp; try with_reducible rfl)
      (try simp only [Act.put, List.setIfInBounds_toArray, List.set_cons_zero, List.set_cons_succ])
      refine TakesO.cons (v := ?vt15) (by kernel_rfl) ?yt15 ?rt15
      case yt15 => (intro wz hz; (try dsimp only at hz); go_simp; try with_reducible rfl)
      (try simp only [Act.put, List.setIfInBounds_toArray, List.set_cons_zero, List.set_cons_succ])
      refine TakesO.cons (v := ?vt16) (by kernel_rfl) ?yt16 ?rt16
      case yt16 => (intro wz hz; (try dsimp only at hz); go_simp; try with_reducible rfl)
      (try simp only [Act.put, List.setIfInBounds_toArray, List.set_cons_zero, List.set_cons_succ])
      refine TakesO.cons (v := ?vt17) (by kernel_rfl) ?yt17 ?rt17
      case yt17 => (intro wz hz; (try dsimp only at hz); go_simp; try with_reducible rfl)
      (try simp only [Act.put, List.setIfInBounds_toArray, List.set_cons_zero, List.set_cons_succ])
      refine TakesO.cons (v := ?vt18) (by kernel_rfl) ?yt18 ?rt18
      case yt18 => (intro wz hz; (try dsimp only at hz); go_simp; try with_reducible rfl)
      (try simp only [Act.put, List.setIfInBounds_toArray, List.set_cons_zero, List.set_cons_succ])
      refine TakesO.cons (v := ?vt19) (by kernel_rfl) ?yt19 ?rt19
      case yt19 => (intro wz hz; (try dsimp only at hz); go_simp; try with_reducible rfl)
      (try simp only [Act.put, List.setIfInBounds_toArray, List.set_cons_zero, List.set_cons_succ])
      refine TakesO.nil ?_
      show TailO _ _ _ _ _ _ _
      refine TailO.cons (fun K hK => ?_)
      go_simp
      go_at_call 17
      refine (putText_any (strB s) hss _).mono ?_
      rintro e w1 ⟨pv, rfl, hown, hb⟩
      replace hown : OwnB w1 wc.drew.heap.size 5 pv (putT s) := hown
      have hp1 := rdB_convert (P := Try.prog) hown.read 22 5 9 Try.underlying22 Try.underlying5 Try.underlying9
      have hz1 := rdB_convert (P := Try.prog) (hpt.drew.below hb (Nat.le_refl _)) 22 5 9 Try.underlying22 Try.underlying5 Try.underlying9
      go_wp2_with fail
      refine hK.out _ _ hz1 ?_
      clear hK K
      (try simp only [Act.put, List.setIfInBounds_toArray, List.set_cons_zero, List.set_cons_succ])
      refine TailO.cons (fun K hK => ?_)
      go_simp
      refine hK.out _ _ hz1 ?_
      clear hK K
      (try simp only [Act.put, List.setIfInBounds_toArray, List.set_cons_zero, List.set_cons_succ])
      refine TailO.cons (fun K hK => ?_)
      go_simp
      refine hK.out _ _ hz1 ?_
      clear hK K
      (try simp only [Act.put, List.setIfInBounds_toArray, List.set_cons_zero, List.set_cons_succ])
      refine TailO.cons (fun K hK => ?_)
      go_simp
      refine hK.out _ _ hz1 ?_
      clear hK K
      (try simp only [Act.put, List.setIfInBounds_toArray, List.set_cons_zero, List.set_cons_succ])
      refine TailO.cons (fun K hK => ?_)
      go_simp
      refine hK.out _ _ hz1 ?_
      clear hK K
      (try simp only [Act.put, List.setIfInBounds_toArray, List.set_cons_zero, List.set_cons_succ])
      refine TailO.nil (NoPanic.normal ?_)
      go_wp2_with fail
      go_meet
      exact ⟨rfl, hbx.trans ((below_draw hb).mono hbx.size)⟩
    case rest =>
      obtain ⟨rfl, hby⟩ := hcut
      go_wp2_with fail
      refine (awake_any _).mono ?_
      rintro e w2 ⟨rfl, hb2⟩
      go_wp2
      go_ret
      exact ⟨rfl, hby.trans (hb2.mono hby.size)⟩

theorem numJust_walk (v : Value) (l : List UInt8) (k : Int) (W : World) (hv : RdB W v l) (hk : (Lit.int .u8 k).wf = true) :
    Calls Try.prog 5 #[v, .int .u8 k] W fun e w' => e = .returned (.bool true) ∧ Below W.heap.size W w' := by
  have hb := bounds_u8 hk
  by_cases hf : 500 < l.length
  · exact numJust_far v l k W hv hf
  obtain ⟨k, rfl⟩ := Int.eq_ofNat_of_zero_le hb.1
  cases hg : getAt l (k : Int) with
  | none => exact numJust_none v l k W hv hb.2 (by omega) hg
  | some x =>
    cases ht : textAt l (k : Int) with
    | none => exact numJust_some v l k x.1 x.2 W hv hb.2 (by omega) hg ht
    | some y => exact numJust_text v l k x.1 x.2 y.2 y.1 W hv hb.2 (by omega) hg ht
end Go.Proofs.Ytemlonbcdaboeaa
