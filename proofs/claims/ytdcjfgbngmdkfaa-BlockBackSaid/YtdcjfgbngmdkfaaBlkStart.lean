/-
  Blocks: where Seek begins: the closures that halving asks.
-/
import Derived.Test.YtdcjfgbngmdkfaaBlkRead
import Derived.Test.YtdcjfgbngmdkfaaKeyCmp
import Derived.Test.YtdcjfgbngmdkfaaFixedOut
import Derived.Test.YtdcjfgbngmdkfaaTree
import Derived.Test.YtdcjfgbngmdkfaaSearch
import Derived.Test.YtdcjfgbngmdkfaaCells
namespace Go.Proofs.Ytdcjfgbngmdkfaa
open Go.RowKit

theorem enters_whole : Enters Try.prog 46 := enters_of Try.func46 (by kernel_rfl) rfl
theorem enters_low : Enters Try.prog 48 := enters_of Try.func48 (by kernel_rfl) rfl

set_option maxRecDepth 100000 in
set_option maxHeartbeats 400000 in
theorem whole_any (t : List UInt8) (ya : Option Addr) (yc q i : Nat) (w : World) (hq : w.heap[q]? = some (.cells #[.slice ya t.length yc] 23 (0, 0))) (hy : RdB w (.slice ya t.length yc) t) (hi : 4 * i + 4 ≤ t.length) :
    Calls Try.prog 46 #[.int .i64 (i : Int), .pointer (some ⟨q, 0, none⟩)] w fun e w' => e = .returned (.int .i64 (valL ((t.drop (4 * i)).take 4) : Int)) ∧ Below w.heap.size w w' := by
  obtain ⟨_, _, hv, hc1, hc2⟩ := hy.form
  cases hv
  unfold maxLen at hc2
  have HF := Lib.hid (getFixed_yes (.slice ya t.length yc) t (4 * i) 4 (by omega) (by omega) w hy)
  have c0 := blk_cell (i := 0) hq
  replace c0 : w.cell? ⟨q, 0, none⟩ = some (.slice ya t.length yc) := c0
  have e1 : IntKind.i64.wrap (4 * (i : Int)) = ((4 * i : Nat) : Int) := by rw [IntWalk.i64_in _ (by omega)]; omega
  clear hy hq hc1
  generalize valL ((t.drop (4 * i)).take 4) = n at *
  generalize 4 * i = m at *
  go_enter Try.func46, Try.ntmps46
  go_wp2_with (go_at_call 45; (refine HF.out.mono ?_); rintro e w1 ⟨rfl, rfl⟩)
  go_ret
  exact ⟨rfl, Below.refl _ _⟩

set_option maxRecDepth 100000 in
set_option maxHeartbeats 400000 in
theorem low_any (c t : List UInt8) (xa ya : Option Addr) (tf : TypeId) (xc yc qx qy qf qk i : Nat) (u : ByteArray) (s k : Int) (w : World) (hu : u.size ≤ maxLen)
    (hx : w.heap[qx]? = some (.cells #[.slice xa c.length xc] 23 (0, 0))) (hf : w.heap[qf]? = some (.cells #[.func (.func 46) #[] #[.pointer (some ⟨qy, 0, none⟩)]] tf (0, 0)))
    (hy : w.heap[qy]? = some (.cells #[.slice ya t.length yc] 23 (0, 0))) (hk : w.heap[qk]? = some (.cells #[.string u, .int .i64 s, .int .i64 k] 25 (0, 0)))
    (rx : RdB w (.slice xa c.length xc) c) (ry : RdB w (.slice ya t.length yc) t) (hi : 4 * i + 4 ≤ t.length) (X : Ent) (g : Nat) (hX : X.u.size ≤ maxLen) (hr : readP c [] (valL ((t.drop (4 * i)).take 4)) = some (X, g)) :
    Calls Try.prog 48 #[.int .i64 (i : Int), .pointer (some ⟨qx, 0, none⟩), .pointer (some ⟨qf, 0, none⟩), .pointer (some ⟨qk, 0, none⟩)] w fun e w' => e = .returned (.bool (decide (0 ≤ X.cmp ⟨u, s, k, ⟨#[]⟩⟩))) ∧ Below w.heap.size w w' := by
  have HW : Hid (∀ wz, Below w.heap.size w wz → Calls Try.prog 46 #[.int .i64 (i : Int), .pointer (some ⟨qy, 0, none⟩)] wz fun e w' => e = .returned (.int .i64 (valL ((t.drop (4 * i)).take 4) : Int)) ∧ Below wz.heap.size wz w') := Lib.hid fun wz hz =>
    whole_any t ya yc qy i wz ((hz.block _ (blk_lt hy)).trans hy) (ry.below hz (Nat.le_refl _)) hi
  obtain ⟨xu, xs, xk, xv⟩ := X
  generalize valL ((t.drop (4 * i)).take 4) = p at *
  have HRD : Hid (∀ wz, Below w.heap.size w wz → Calls Try.prog 36 #[.slice xa c.length xc, .int .i64 (p : Int), .string ⟨#[]⟩] wz fun e w' => e = .returned (.tuple #[.agg #[.string xu, .int .i64 xs, .int .i64 xk, .string xv], .int .i64 (g : Int), .bool true]) ∧ Below wz.heap.size wz w') := Lib.hid fun wz hz => by
    have h := read_any (.slice xa c.length xc) c ⟨#[]⟩ p wz (rx.below hz (Nat.le_refl _)) (by simp [ByteArray.size])
    rw [show (⟨#[]⟩ : ByteArray).data.toList = [] from rfl, hr] at h
    exact h
  have HCM : Hid (∀ wz, Calls Try.prog 37 #[.agg #[.string xu, .int .i64 xs, .int .i64 xk], .agg #[.string u, .int .i64 s, .int .i64 k]] wz fun e w' => e = .returned (.int .i64 ((⟨xu, xs, xk, xv⟩ : Ent).cmp ⟨u, s, k, ⟨#[]⟩⟩)) ∧ Below wz.heap.size wz w') := Lib.hid fun wz => cmp_any xu xs xk u s k hX hu wz
  generalize (⟨xu, xs, xk, xv⟩ : Ent).cmp ⟨u, s, k, ⟨#[]⟩⟩ = cm at *
  have cx := blk_cell (i := 0) hx
  replace cx : w.cell? ⟨qx, 0, none⟩ = some (.slice xa c.length xc) := cx
  have cf := blk_cell (i := 0) hf
  replace cf : w.cell? ⟨qf, 0, none⟩ = some (.func (.func 46) #[] #[.pointer (some ⟨qy, 0, none⟩)]) := cf
  have HQX := Lib.hid (blk_lt hx)
  have HQF := Lib.hid (blk_lt hf)
  have HQK := Lib.hid (blk_lt hk)
  have HK := Lib.hid hk
  have hen := enters_whole
  unfold Enters at hen
  clear hx hf hy hk rx ry hi hr hu hX
  go_enter Try.func48, Try.ntmps48
  go_upto_region 1 with (fail)
  refine wp_region_tree (fun wz => Below w.heap.size w wz) (fun wz => Below w.heap.size w wz) (.op 0 0 (.op 0 1 (.op 0 2 (.fork 3 9 (.fork 4 9 (.op 0 5 (.op 0 6 (.op 1 7 (.op 1 8 (.op 2 9 (.op 3 10 (.op 1 11 (.op 1 12 .fin)))))))) (.op 2 4 (.op 0 5 (.op 0 6 (.op 1 7 (.op 1 8 (.op 3 10 (.op 1 11 (.op 1 12 .fin))))))))) (.op 2 3 (.op 2 4 (.op 0 5 (.op 0 6 (.op 1 7 (.op 1 8 (.op 3 10 (.op 1 11 (.op 1 12 .fin))))))))))))) [10] (by kernel_rfl) (by kernel_rfl) (by kernel_rfl) (by kernel_rfl) (by kernel_rfl) (Below.refl _ _).drew (Below.refl _ _).drew ?_
  simp only [planX, List.drop_succ_cons, List.drop_zero]
  refine PlanX.take0 (v := .slice xa c.length xc) (by kernel_rfl) ?yT0 ?rT0
  case yT0 => (intro wz hz; have c0 := (hz.cell (p := ⟨qx, 0, none⟩) HQX.out).trans cx; go_simp; try with_reducible rfl)
  (try simp only [Act.put, List.setIfInBounds_toArray, List.set_cons_zero, List.set_cons_succ])
  refine PlanX.take0 (v := .func (.func 46) #[] #[.pointer (some ⟨qy, 0, none⟩)]) (by kernel_rfl) ?yT1 ?rT1
  case yT1 => (intro wz hz; have c0 := (hz.cell (p := ⟨qf, 0, none⟩) HQF.out).trans cf; go_simp; try with_reducible rfl)
  (try simp only [Act.put, List.setIfInBounds_toArray, List.set_cons_zero, List.set_cons_succ])
  refine PlanX.take0 (v := ?vT2) (by kernel_rfl) ?yT2 ?rT2
  case yT2 => (intro wz hz; go_simp; try with_reducible rfl)
  (try simp only [Act.put, List.setIfInBounds_toArray, List.set_cons_zero, List.set_cons_succ])
  refine PlanX.both ?_ ?_
  · skip
    refine PlanX.exec2 (fun K hK => ⟨by kernel_rfl, ?_⟩)
    go_simp
    go_at_fn 46
    refine (HW.out _ (show Below w.heap.size w w.drew from (Below.refl _ _).drew)).mono ?_
    rintro e u3 ⟨rfl, hbc⟩
    have HB3 : Hid (Below w.heap.size w u3) := Lib.hid (((show Below w.heap.size w w.drew from (Below.refl _ _).drew)).trans (hbc.mono ((show Below w.heap.size w w.drew from (Below.refl _ _).drew)).size))
    clear hbc
    go_wp2_with fail
    refine hK.out _ _ (fun _ => True) HB3.out trivial HB3.out ?_
    clear hK K
    (try simp only [Act.put, List.setIfInBounds_toArray, List.set_cons_zero, List.set_cons_succ])
    refine PlanX.both ?_ ?_
    · skip
      refine PlanX.exec2 (fun K hK => ⟨by kernel_rfl, ?_⟩)
      go_simp
      go_at_call 36
      refine (HRD.out _ HB3.out).mono ?_
      rintro e u3_4 ⟨rfl, hbc⟩
      have HB3_4 : Hid (Below w.heap.size w u3_4) := Lib.hid ((HB3.out).trans (hbc.mono (HB3.out).size))
      clear hbc
      go_wp2_with fail
      refine hK.out _ _ (fun _ => True) ⟨HB3_4.out, trivial⟩ trivial HB3_4.out ?_
      clear hK K
      (try simp only [Act.put, List.setIfInBounds_toArray, List.set_cons_zero, List.set_cons_succ])
      refine PlanX.take0 (v := ?v_3_4T5) (by kernel_rfl) ?y_3_4T5 ?r_3_4T5
      case y_3_4T5 => (intro wz hz; go_simp; try with_reducible rfl)
      (try simp only [Act.put, List.setIfInBounds_toArray, List.set_cons_zero, List.set_cons_succ])
      refine PlanX.take0 (v := ?v_3_4T6) (by kernel_rfl) ?y_3_4T6 ?r_3_4T6
      case y_3_4T6 => (intro wz hz; go_simp; try with_reducible rfl)
      (try simp only [Act.put, List.setIfInBounds_toArray, List.set_cons_zero, List.set_cons_succ])
      refine PlanX.take1 (v := ?v_3_4T7) (by kernel_rfl) ?y_3_4T7 ?r_3_4T7
      case y_3_4T7 => (intro wz hz; go_simp; try with_reducible rfl)
      (try simp only [Act.put, List.setIfInBounds_toArray, List.set_cons_zero, List.set_cons_succ])
      refine PlanX.take1 (v := ?v_3_4T8) (by kernel_rfl) ?y_3_4T8 ?r_3_4T8
      case y_3_4T8 => (intro wz hz; go_simp; try with_reducible rfl)
      (try simp only [Act.put, List.setIfInBounds_toArray, List.set_cons_zero, List.set_cons_succ])
      refine PlanX.exec2 (fun K hK => ⟨by kernel_rfl, ?_⟩)
      go_simp
      obtain ⟨u3_4_9, hu⟩ : ∃ u3_4_9, u3_4_9 = (u3_4.alloc (.cells #[.string ⟨#[]⟩, .int .i64 0, .int .i64 0, .string ⟨#[]⟩] 36)) := ⟨_, rfl⟩
      rw [← hu]
      have P3_4_9 := Lib.hid (show u3_4_9.heap[u3_4.heap.size]? = some (.cells #[.string ⟨#[]⟩, .int .i64 0, .int .i64 0, .string ⟨#[]⟩] 36 (0, 0)) by rw [hu]; exact heap_alloc_new u3_4 _)
      have HB3_4_9 : Hid (Below w.heap.size w u3_4_9) := Lib.hid (by rw [hu]; exact HB3_4.out.alloc HB3_4.out.size _)
      clear hu
      refine hK.out _ _ (fun _ => True) ⟨⟨HB3_4_9.out, trivial⟩, trivial⟩ trivial HB3_4_9.out ?_
      clear hK K
      (try simp only [Act.put, List.setIfInBounds_toArray, List.set_cons_zero, List.set_cons_succ])
      refine PlanX.exec3 (fun K hK => ⟨by kernel_rfl, ?_⟩)
      have r0 := blk_cell (i := 0) P3_4_9.out
      have r1 := blk_cell (i := 1) P3_4_9.out
      have r2 := blk_cell (i := 2) P3_4_9.out
      have r3 := blk_cell (i := 3) P3_4_9.out
      have s0 := blk_free (i := 0) P3_4_9.out
      have s1 := blk_free (i := 1) P3_4_9.out
      have s2 := blk_free (i := 2) P3_4_9.out
      have s3 := blk_free (i := 3) P3_4_9.out
      go_simp
      obtain ⟨u9, hu9⟩ : ∃ u9, u9 = (((u3_4_9.setCell ⟨u3_4.heap.size, 0, none⟩ (.string xu)).setCell ⟨u3_4.heap.size, 1, none⟩ (.int .i64 xs)).setCell ⟨u3_4.heap.size, 2, none⟩ (.int .i64 xk)).setCell ⟨u3_4.heap.size, 3, none⟩ (.string xv) := ⟨_, rfl⟩
      rw [← hu9]
      have hst := set4 P3_4_9.out rfl rfl rfl hu9
      have HBX := Lib.hid hst.1
      have HB9 : Hid (Below w.heap.size w u9) := Lib.hid (hst.2 _ (by have := HB3_4.out.size; omega) _ HB3_4_9.out)
      clear hu9 hst r0 r1 r2 r3 s0 s1 s2 s3
      refine hK.out _ _ HB9.out ?_
      clear hK K
      (try simp only [Act.put, List.setIfInBounds_toArray, List.set_cons_zero, List.set_cons_succ])
      refine PlanX.take1 (v := ?v_3_4_9_10T11) (by kernel_rfl) ?y_3_4_9_10T11 ?r_3_4_9_10T11
      case y_3_4_9_10T11 => (intro wz hz; go_simp; try with_reducible rfl)
      (try simp only [Act.put, List.setIfInBounds_toArray, List.set_cons_zero, List.set_cons_succ])
      refine PlanX.take1 (v := ?v_3_4_9_10T12) (by kernel_rfl) ?y_3_4_9_10T12 ?r_3_4_9_10T12
      case y_3_4_9_10T12 => (intro wz hz; go_simp; try with_reducible rfl)
      (try simp only [Act.put, List.setIfInBounds_toArray, List.set_cons_zero, List.set_cons_succ])
      refine PlanX.done (NoPanic.normal ?_)
      obtain ⟨qe, hqe⟩ : ∃ qe, qe = u3_4.heap.size := ⟨_, rfl⟩
      rw [← hqe] at HBX
      rw [← hqe]
      clear hqe
      have r0 := blk_cell (i := 0) HBX.out
      have r1 := blk_cell (i := 1) HBX.out
      have r2 := blk_cell (i := 2) HBX.out
      have k0 := (HB9.out.block _ HQK.out).trans HK.out
      have t0 := blk_cell (i := 0) k0
      have t1 := blk_cell (i := 1) k0
      have t2 := blk_cell (i := 2) k0
      replace r0 : u9.cell? ⟨qe, 0, none⟩ = some (.string xu) := r0
      replace r1 : u9.cell? ⟨qe, 1, none⟩ = some (.int .i64 xs) := r1
      replace r2 : u9.cell? ⟨qe, 2, none⟩ = some (.int .i64 xk) := r2
      replace t0 : u9.cell? ⟨qk, 0, none⟩ = some (.string u) := t0
      replace t1 : u9.cell? ⟨qk, 1, none⟩ = some (.int .i64 s) := t1
      replace t2 : u9.cell? ⟨qk, 2, none⟩ = some (.int .i64 k) := t2
      clear k0
      go_wp2_with (go_at_call 37; (refine (HCM.out _).mono ?_); rintro e w8 ⟨rfl, hb8⟩; have HB8 := Lib.hid (HB9.out.trans (hb8.mono HB9.out.size)); clear hb8)
      go_ret
      exact ⟨rfl, HB8.out⟩
    · skip
      refine PlanX.exec2 (fun K hK => ⟨by kernel_rfl, ?_⟩)
      go_simp
      obtain ⟨u3_9, hu⟩ : ∃ u3_9, u3_9 = (u3.alloc (.cells #[.string ⟨#[]⟩, .int .i64 0, .int .i64 0, .string ⟨#[]⟩] 36)) := ⟨_, rfl⟩
      rw [← hu]
      have P3_9 := Lib.hid (show u3_9.heap[u3.heap.size]? = some (.cells #[.string ⟨#[]⟩, .int .i64 0, .int .i64 0, .string ⟨#[]⟩] 36 (0, 0)) by rw [hu]; exact heap_alloc_new u3 _)
      have HB3_9 : Hid (Below w.heap.size w u3_9) := Lib.hid (by rw [hu]; exact HB3.out.alloc HB3.out.size _)
      clear hu
      refine hK.out _ _ (fun _ => True) ⟨HB3_9.out, trivial⟩ trivial HB3_9.out ?_
      clear hK K
      (try simp only [Act.put, List.setIfInBounds_toArray, List.set_cons_zero, List.set_cons_succ])
      refine PlanX.exec2 (fun K hK => ⟨by kernel_rfl, ?_⟩)
      go_simp
      go_at_call 36
      refine (HRD.out _ HB3_9.out).mono ?_
      rintro e u3_9_4 ⟨rfl, hbc⟩
      have HB3_9_4 : Hid (Below w.heap.size w u3_9_4) := Lib.hid ((HB3_9.out).trans (hbc.mono (HB3_9.out).size))
      have P3_9_4 := Lib.hid ((hbc.block _ (blk_lt P3_9.out)).trans P3_9.out)
      clear hbc
      go_wp2_with fail
      refine hK.out _ _ (fun _ => True) ⟨⟨HB3_9_4.out, trivial⟩, trivial⟩ trivial HB3_9_4.out ?_
      clear hK K
      (try simp only [Act.put, List.setIfInBounds_toArray, List.set_cons_zero, List.set_cons_succ])
      refine PlanX.take0 (v := ?v_3_9_4T5) (by kernel_rfl) ?y_3_9_4T5 ?r_3_9_4T5
      case y_3_9_4T5 => (intro wz hz; go_simp; try with_reducible rfl)
      (try simp only [Act.put, List.setIfInBounds_toArray, List.set_cons_zero, List.set_cons_succ])
      refine PlanX.take0 (v := ?v_3_9_4T6) (by kernel_rfl) ?y_3_9_4T6 ?r_3_9_4T6
      case y_3_9_4T6 => (intro wz hz; go_simp; try with_reducible rfl)
      (try simp only [Act.put, List.setIfInBounds_toArray, List.set_cons_zero, List.set_cons_succ])
      refine PlanX.take1 (v := ?v_3_9_4T7) (by kernel_rfl) ?y_3_9_4T7 ?r_3_9_4T7
      case y_3_9_4T7 => (intro wz hz; go_simp; try with_reducible rfl)
      (try simp only [Act.put, List.setIfInBounds_toArray, List.set_cons_zero, List.set_cons_succ])
      refine PlanX.take1 (v := ?v_3_9_4T8) (by kernel_rfl) ?y_3_9_4T8 ?r_3_9_4T8
      case y_3_9_4T8 => (intro wz hz; go_simp; try with_reducible rfl)
      (try simp only [Act.put, List.setIfInBounds_toArray, List.set_cons_zero, List.set_cons_succ])
      refine PlanX.exec3 (fun K hK => ⟨by kernel_rfl, ?_⟩)
      have r0 := blk_cell (i := 0) P3_9_4.out
      have r1 := blk_cell (i := 1) P3_9_4.out
      have r2 := blk_cell (i := 2) P3_9_4.out
      have r3 := blk_cell (i := 3) P3_9_4.out
      have s0 := blk_free (i := 0) P3_9_4.out
      have s1 := blk_free (i := 1) P3_9_4.out
      have s2 := blk_free (i := 2) P3_9_4.out
      have s3 := blk_free (i := 3) P3_9_4.out
      go_simp
      obtain ⟨u9, hu9⟩ : ∃ u9, u9 = (((u3_9_4.setCell ⟨u3.heap.size, 0, none⟩ (.string xu)).setCell ⟨u3.heap.size, 1, none⟩ (.int .i64 xs)).setCell ⟨u3.heap.size, 2, none⟩ (.int .i64 xk)).setCell ⟨u3.heap.size, 3, none⟩ (.string xv) := ⟨_, rfl⟩
      rw [← hu9]
      have hst := set4 P3_9_4.out rfl rfl rfl hu9
      have HBX := Lib.hid hst.1
      have HB9 : Hid (Below w.heap.size w u9) := Lib.hid (hst.2 _ (by have := HB3.out.size; omega) _ HB3_9_4.out)
      clear hu9 hst r0 r1 r2 r3 s0 s1 s2 s3
      refine hK.out _ _ HB9.out ?_
      clear hK K
      (try simp only [Act.put, List.setIfInBounds_toArray, List.set_cons_zero, List.set_cons_succ])
      refine PlanX.take1 (v := ?v_3_9_4_10T11) (by kernel_rfl) ?y_3_9_4_10T11 ?r_3_9_4_10T11
      case y_3_9_4_10T11 => (intro wz hz; go_simp; try with_reducible rfl)
      (try simp only [Act.put, List.setIfInBounds_toArray, List.set_cons_zero, List.set_cons_succ])
      refine PlanX.take1 (v := ?v_3_9_4_10T12) (by kernel_rfl) ?y_3_9_4_10T12 ?r_3_9_4_10T12
      case y_3_9_4_10T12 => (intro wz hz; go_simp; try with_reducible rfl)
      (try simp only [Act.put, List.setIfInBounds_toArray, List.set_cons_zero, List.set_cons_succ])
      refine PlanX.done (NoPanic.normal ?_)
      obtain ⟨qe, hqe⟩ : ∃ qe, qe = u3.heap.size := ⟨_, rfl⟩
      rw [← hqe] at HBX
      rw [← hqe]
      clear hqe
      have r0 := blk_cell (i := 0) HBX.out
      have r1 := blk_cell (i := 1) HBX.out
      have r2 := blk_cell (i := 2) HBX.out
      have k0 := (HB9.out.block _ HQK.out).trans HK.out
      have t0 := blk_cell (i := 0) k0
      have t1 := blk_cell (i := 1) k0
      have t2 := blk_cell (i := 2) k0
      replace r0 : u9.cell? ⟨qe, 0, none⟩ = some (.string xu) := r0
      replace r1 : u9.cell? ⟨qe, 1, none⟩ = some (.int .i64 xs) := r1
      replace r2 : u9.cell? ⟨qe, 2, none⟩ = some (.int .i64 xk) := r2
      replace t0 : u9.cell? ⟨qk, 0, none⟩ = some (.string u) := t0
      replace t1 : u9.cell? ⟨qk, 1, none⟩ = some (.int .i64 s) := t1
      replace t2 : u9.cell? ⟨qk, 2, none⟩ = some (.int .i64 k) := t2
      clear k0
      go_wp2_with (go_at_call 37; (refine (HCM.out _).mono ?_); rintro e w8 ⟨rfl, hb8⟩; have HB8 := Lib.hid (HB9.out.trans (hb8.mono HB9.out.size)); clear hb8)
      go_ret
      exact ⟨rfl, HB8.out⟩
  · skip
    refine PlanX.exec2 (fun K hK => ⟨by kernel_rfl, ?_⟩)
    go_simp
    obtain ⟨u9, hu⟩ : ∃ u9, u9 = (w.alloc (.cells #[.string ⟨#[]⟩, .int .i64 0, .int .i64 0, .string ⟨#[]⟩] 36)).drew := ⟨_, rfl⟩
    rw [← hu]
    have P9 := Lib.hid (show u9.heap[w.heap.size]? = some (.cells #[.string ⟨#[]⟩, .int .i64 0, .int .i64 0, .string ⟨#[]⟩] 36 (0, 0)) by rw [hu]; exact heap_alloc_new w _)
    have HB9 : Hid (Below w.heap.size w u9) := Lib.hid (by rw [hu]; exact ((Below.refl _ _).alloc (Nat.le_refl _) _).drew)
    clear hu
    refine hK.out _ _ (fun _ => True) HB9.out trivial HB9.out ?_
    clear hK K
    (try simp only [Act.put, List.setIfInBounds_toArray, List.set_cons_zero, List.set_cons_succ])
    refine PlanX.exec2 (fun K hK => ⟨by kernel_rfl, ?_⟩)
    go_simp
    go_at_fn 46
    refine (HW.out _ HB9.out).mono ?_
    rintro e u9_3 ⟨rfl, hbc⟩
    have HB9_3 : Hid (Below w.heap.size w u9_3) := Lib.hid ((HB9.out).trans (hbc.mono (HB9.out).size))
    have P9_3 := Lib.hid ((hbc.block _ (blk_lt P9.out)).trans P9.out)
    clear hbc
    go_wp2_with fail
    refine hK.out _ _ (fun _ => True) ⟨HB9_3.out, trivial⟩ trivial HB9_3.out ?_
    clear hK K
    (try simp only [Act.put, List.setIfInBounds_toArray, List.set_cons_zero, List.set_cons_succ])
    refine PlanX.exec2 (fun K hK => ⟨by kernel_rfl, ?_⟩)
    go_simp
    go_at_call 36
    refine (HRD.out _ HB9_3.out).mono ?_
    rintro e u9_3_4 ⟨rfl, hbc⟩
    have HB9_3_4 : Hid (Below w.heap.size w u9_3_4) := Lib.hid ((HB9_3.out).trans (hbc.mono (HB9_3.out).size))
    have P9_3_4 := Lib.hid ((hbc.block _ (blk_lt P9_3.out)).trans P9_3.out)
    clear hbc
    go_wp2_with fail
    refine hK.out _ _ (fun _ => True) ⟨⟨HB9_3_4.out, trivial⟩, trivial⟩ trivial HB9_3_4.out ?_
    clear hK K
    (try simp only [Act.put, List.setIfInBounds_toArray, List.set_cons_zero, List.set_cons_succ])
    refine PlanX.take0 (v := ?v_9_3_4T5) (by kernel_rfl) ?y_9_3_4T5 ?r_9_3_4T5
    case y_9_3_4T5 => (intro wz hz; go_simp; try with_reducible rfl)
    (try simp only [Act.put, List.setIfInBounds_toArray, List.set_cons_zero, List.set_cons_succ])
    refine PlanX.take0 (v := ?v_9_3_4T6) (by kernel_rfl) ?y_9_3_4T6 ?r_9_3_4T6
    case y_9_3_4T6 => (intro wz hz; go_simp; try with_reducible rfl)
    (try simp only [Act.put, List.setIfInBounds_toArray, List.set_cons_zero, List.set_cons_succ])
    refine PlanX.take1 (v := ?v_9_3_4T7) (by kernel_rfl) ?y_9_3_4T7 ?r_9_3_4T7
    case y_9_3_4T7 => (intro wz hz; go_simp; try with_reducible rfl)
    (try simp only [Act.put, List.setIfInBounds_toArray, List.set_cons_zero, List.set_cons_succ])
    refine PlanX.take1 (v := ?v_9_3_4T8) (by kernel_rfl) ?y_9_3_4T8 ?r_9_3_4T8
    case y_9_3_4T8 => (intro wz hz; go_simp; try with_reducible rfl)
    (try simp only [Act.put, List.setIfInBounds_toArray, List.set_cons_zero, List.set_cons_succ])
    refine PlanX.exec3 (fun K hK => ⟨by kernel_rfl, ?_⟩)
    have r0 := blk_cell (i := 0) P9_3_4.out
    have r1 := blk_cell (i := 1) P9_3_4.out
    have r2 := blk_cell (i := 2) P9_3_4.out
    have r3 := blk_cell (i := 3) P9_3_4.out
    have s0 := blk_free (i := 0) P9_3_4.out
    have s1 := blk_free (i := 1) P9_3_4.out
    have s2 := blk_free (i := 2) P9_3_4.out
    have s3 := blk_free (i := 3) P9_3_4.out
    go_simp
    obtain ⟨u9, hu9⟩ : ∃ u9, u9 = (((u9_3_4.setCell ⟨w.heap.size, 0, none⟩ (.string xu)).setCell ⟨w.heap.size, 1, none⟩ (.int .i64 xs)).setCell ⟨w.heap.size, 2, none⟩ (.int .i64 xk)).setCell ⟨w.heap.size, 3, none⟩ (.string xv) := ⟨_, rfl⟩
    rw [← hu9]
    have hst := set4 P9_3_4.out rfl rfl rfl hu9
    have HBX := Lib.hid hst.1
    have HB9 : Hid (Below w.heap.size w u9) := Lib.hid (hst.2 _ (by omega) _ HB9_3_4.out)
    clear hu9 hst r0 r1 r2 r3 s0 s1 s2 s3
    refine hK.out _ _ HB9.out ?_
    clear hK K
    (try simp only [Act.put, List.setIfInBounds_toArray, List.set_cons_zero, List.set_cons_succ])
    refine PlanX.take1 (v := ?v_9_3_4_10T11) (by kernel_rfl) ?y_9_3_4_10T11 ?r_9_3_4_10T11
    case y_9_3_4_10T11 => (intro wz hz; go_simp; try with_reducible rfl)
    (try simp only [Act.put, List.setIfInBounds_toArray, List.set_cons_zero, List.set_cons_succ])
    refine PlanX.take1 (v := ?v_9_3_4_10T12) (by kernel_rfl) ?y_9_3_4_10T12 ?r_9_3_4_10T12
    case y_9_3_4_10T12 => (intro wz hz; go_simp; try with_reducible rfl)
    (try simp only [Act.put, List.setIfInBounds_toArray, List.set_cons_zero, List.set_cons_succ])
    refine PlanX.done (NoPanic.normal ?_)
    obtain ⟨qe, hqe⟩ : ∃ qe, qe = w.heap.size := ⟨_, rfl⟩
    rw [← hqe] at HBX
    rw [← hqe]
    clear hqe
    have r0 := blk_cell (i := 0) HBX.out
    have r1 := blk_cell (i := 1) HBX.out
    have r2 := blk_cell (i := 2) HBX.out
    have k0 := (HB9.out.block _ HQK.out).trans HK.out
    have t0 := blk_cell (i := 0) k0
    have t1 := blk_cell (i := 1) k0
    have t2 := blk_cell (i := 2) k0
    replace r0 : u9.cell? ⟨qe, 0, none⟩ = some (.string xu) := r0
    replace r1 : u9.cell? ⟨qe, 1, none⟩ = some (.int .i64 xs) := r1
    replace r2 : u9.cell? ⟨qe, 2, none⟩ = some (.int .i64 xk) := r2
    replace t0 : u9.cell? ⟨qk, 0, none⟩ = some (.string u) := t0
    replace t1 : u9.cell? ⟨qk, 1, none⟩ = some (.int .i64 s) := t1
    replace t2 : u9.cell? ⟨qk, 2, none⟩ = some (.int .i64 k) := t2
    clear k0
    go_wp2_with (go_at_call 37; (refine (HCM.out _).mono ?_); rintro e w8 ⟨rfl, hb8⟩; have HB8 := Lib.hid (HB9.out.trans (hb8.mono HB9.out.size)); clear hb8)
    go_ret
    exact ⟨rfl, HB8.out⟩

end Go.Proofs.Ytdcjfgbngmdkfaa
