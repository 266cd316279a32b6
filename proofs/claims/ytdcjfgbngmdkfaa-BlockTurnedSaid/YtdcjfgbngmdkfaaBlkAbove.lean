/-
  The first entry of a list that is not below a key, as the document seeks it.
-/
import Derived.Test.YtdcjfgbngmdkfaaBlkGet
import Derived.Test.YtdcjfgbngmdkfaaOwnEnt
import Derived.Test.YtdcjfgbngmdkfaaKeyRefCmp
import Derived.Test.YtdcjfgbngmdkfaaRegion
import Derived.Deep.Cut
namespace Go.Proofs.Ytdcjfgbngmdkfaa
open Go.RowKit

set_option maxRecDepth 100000 in
set_option maxHeartbeats 1000000 in
theorem rabove_any {v : Value} {L : List Ent} {w : World} (hv : RdE w v L) (u : ByteArray) (s k : Int) :
    Calls Try.prog 14 #[v, .agg #[.string u, .int .i64 s, .int .i64 k]] w fun r w' => r = .returned (ansN (aboveL L u s k)) ∧ Below w.heap.size w w' := by
  obtain ⟨va, vc, rfl, hc1, hc2⟩ := hv.form
  unfold maxLen at hc2
  have HV := Lib.hid hv
  clear hv
  go_enter Try.func14, Try.ntmps14
  go_wp2
  go_loopw [6] (fun i wr => ∃ j : Nat, j ≤ L.length ∧ i = .int .i64 (j : Int) ∧ Hid (∀ a, a < j → (L.getD a Ent.none_).cmp ⟨u, s, k, ⟨#[]⟩⟩ < 0) ∧ Hid (Below w.heap.size w wr ∧ wr.heap[w.heap.size]? = some (.cells #[.string u, .int .i64 s, .int .i64 k] 25 (0, 0)) ∧ wr.heap[w.heap.size + 1]? = some (.cells #[.string ⟨#[]⟩, .int .i64 0, .int .i64 0, .string ⟨#[]⟩] 36 (0, 0)))) (fun i _ => L.length - (intOf i).toNat)
  case atStart => exact ⟨0, Nat.zero_le _, rfl, Lib.hid (fun j h => by omega), Lib.hid ⟨((Below.refl _ _).alloc (Nat.le_refl _) _).alloc (by simp) _, by rw [Below.heap_alloc _ _ _ (by simp)]; exact heap_alloc_new w _, heap_new2 w _ _⟩⟩
  case round =>
    obtain ⟨i, hi, rfl, HK, HB⟩ := hrel
    by_cases hlt : i < L.length
    · obtain ⟨_, _, hva, hone⟩ := HV.out.one
      cases hva
      obtain ⟨b, off, rfl, hbw, c0, c1, c2, c3, hfit⟩ := hone i hlt
      have HBW := Lib.hid hbw
      have HC0 := Lib.hid c0
      have HC1 := Lib.hid c1
      have HC2 := Lib.hid c2
      have HC3 := Lib.hid c3
      have z0 := (HB.out.1.cell (p := ⟨b, off + i * 4, none⟩) hbw).trans c0
      have z1 := (HB.out.1.cell (p := ⟨b, off + i * 4 + 1, none⟩) hbw).trans c1
      have z2 := (HB.out.1.cell (p := ⟨b, off + i * 4 + 2, none⟩) hbw).trans c2
      have y0 := blk_cell (i := 0) HB.out.2.1
      have y1 := blk_cell (i := 1) HB.out.2.1
      have y2 := blk_cell (i := 2) HB.out.2.1
      replace y0 : wr.cell? ⟨w.heap.size, 0, none⟩ = some (.string u) := y0
      replace y1 : wr.cell? ⟨w.heap.size, 1, none⟩ = some (.int .i64 s) := y1
      replace y2 : wr.cell? ⟨w.heap.size, 2, none⟩ = some (.int .i64 k) := y2
      have HAT := Lib.hid (@above_at L u s k i hlt HK.out)
      have HMO := Lib.hid (show (L.getD i Ent.none_).cmp ⟨u, s, k, ⟨#[]⟩⟩ < 0 → ∀ a, a < i + 1 → (L.getD a Ent.none_).cmp ⟨u, s, k, ⟨#[]⟩⟩ < 0 from fun h2 a ha => by
        rcases Nat.lt_or_ge a i with h1 | h1
        · exact HK.out a h1
        · obtain rfl : a = i := by omega
          exact h2)
      clear hone c0 c1 c2 c3 hfit hbw
      generalize L.getD i Ent.none_ = X at *
      obtain ⟨xu, xs, xk, xv⟩ := X
      simp only at z0 z1 z2 HC0 HC1 HC2 HC3
      obtain ⟨cm, hcm⟩ : ∃ cm, (Ent.mk xu xs xk xv).cmp ⟨u, s, k, ⟨#[]⟩⟩ = cm := ⟨_, rfl⟩
      have HC : Hid (∀ wz, Calls Try.prog 38 #[.agg #[.string xu, .int .i64 xs, .int .i64 xk], .agg #[.string u, .int .i64 s, .int .i64 k]] wz fun e w' => e = .returned (.int .i64 cm) ∧ Below wz.heap.size wz w') := Lib.hid fun wz => by rw [← hcm]; exact rcmp_any xu xs xk u s k wz
      rw [hcm] at HAT HMO
      clear hcm
      have hin : ((i : Nat) : Int) < (L.length : Int) := by omega
      go_upto_region 4 with (fail)
      refine wp_region_plan [(true, 0), (true, 1), (true, 2), (true, 3), (true, 4), (true, 5), (false, 6), (true, 7)] (by kernel_rfl) (by kernel_rfl) (by kernel_rfl) (by kernel_rfl) (by kernel_rfl) ?_
      simp only [planO, List.drop_succ_cons, List.drop_zero]
      refine PlanO.take (v := ?v0) (by kernel_rfl) ?y0 ?r0
      case y0 => (intro wz hz; go_simp; try with_reducible rfl)
      (try simp only [Act.put, List.setIfInBounds_toArray, List.set_cons_zero, List.set_cons_succ])
      refine PlanO.take (v := ?v1) (by kernel_rfl) ?y1 ?r1
      case y1 => (intro wz hz; go_simp; try with_reducible rfl)
      (try simp only [Act.put, List.setIfInBounds_toArray, List.set_cons_zero, List.set_cons_succ])
      refine PlanO.take (v := .pointer (some ⟨b, off + i * 4, none⟩)) (by kernel_rfl) ?y2 ?r2
      case y2 => (intro wz hz; go_simp; try (intro hkc; omega))
      (try simp only [Act.put, List.setIfInBounds_toArray, List.set_cons_zero, List.set_cons_succ])
      refine PlanO.take (v := .pointer (some ⟨b, off + i * 4, none⟩)) (by kernel_rfl) ?y3 ?r3
      case y3 => (intro wz hz; go_simp; try with_reducible rfl)
      (try simp only [Act.put, List.setIfInBounds_toArray, List.set_cons_zero, List.set_cons_succ])
      refine PlanO.take (v := .agg #[.string xu, .int .i64 xs, .int .i64 xk]) (by kernel_rfl) ?y4 ?r4
      case y4 => (intro wz hz; have c0 := Ext.at_ hz z0; have c1 := Ext.at_ hz z1; have c2 := Ext.at_ hz z2; go_simp; try with_reducible rfl)
      (try simp only [Act.put, List.setIfInBounds_toArray, List.set_cons_zero, List.set_cons_succ])
      refine PlanO.take (v := .agg #[.string u, .int .i64 s, .int .i64 k]) (by kernel_rfl) ?y5 ?r5
      case y5 => (intro wz hz; have c0 := Ext.at_ hz y0; have c1 := Ext.at_ hz y1; have c2 := Ext.at_ hz y2; go_simp; try with_reducible rfl)
      (try simp only [Act.put, List.setIfInBounds_toArray, List.set_cons_zero, List.set_cons_succ])
      refine PlanO.exec (fun K hK => ?_)
      go_simp
      go_at_call 38
      (refine (HC.out _).mono ?_)
      rintro e w3 ⟨rfl, hb3⟩
      have HB3 := Lib.hid hb3
      go_wp2_with fail
      refine hK.out _ _ HB3.out ?_
      clear hK K
      (try simp only [Act.put, List.setIfInBounds_toArray, List.set_cons_zero, List.set_cons_succ])
      refine PlanO.take (v := ?v7) (by kernel_rfl) ?y7 ?r7
      case y7 => (intro wz hz; go_simp; try with_reducible rfl)
      (try simp only [Act.put, List.setIfInBounds_toArray, List.set_cons_zero, List.set_cons_succ])
      refine PlanO.done (NoPanic.normal ?_)
      have hbr := below_draw10 HB3.out
      have HBR := Lib.hid hbr
      have HW3 := Lib.hid (HB.out.1.trans (hbr.mono HB.out.1.size))
      have HBX := Lib.hid (show w3.heap[w.heap.size]? = some (.cells #[.string u, .int .i64 s, .int .i64 k] 25 (0, 0)) ∧ w3.heap[w.heap.size + 1]? = some (.cells #[.string ⟨#[]⟩, .int .i64 0, .int .i64 0, .string ⟨#[]⟩] 36 (0, 0)) from ⟨(hbr.block _ (blk_lt HB.out.2.1)).trans HB.out.2.1, (hbr.block _ (blk_lt HB.out.2.2)).trans HB.out.2.2⟩)
      clear hb3 hbr z0 z1 z2 y0 y1 y2
      by_cases hcm : 0 ≤ cm
      · have hd : decide (0 ≤ cm) = true := by simpa using hcm
        have HR := Lib.hid (HAT.out (by omega))
        have x0 := (HW3.out.cell (p := ⟨b, off + i * 4, none⟩) HBW.out).trans HC0.out
        have x1 := (HW3.out.cell (p := ⟨b, off + i * 4 + 1, none⟩) HBW.out).trans HC1.out
        have x2 := (HW3.out.cell (p := ⟨b, off + i * 4 + 2, none⟩) HBW.out).trans HC2.out
        have x3 := (HW3.out.cell (p := ⟨b, off + i * 4 + 3, none⟩) HBW.out).trans HC3.out
        have hsr := HBX.out.2
        have s0 := blk_cell (i := 0) hsr
        have s1 := blk_cell (i := 1) hsr
        have s2 := blk_cell (i := 2) hsr
        have s3 := blk_cell (i := 3) hsr
        have t0 := blk_free (i := 0) hsr
        have t1 := blk_free (i := 1) hsr
        have t2 := blk_free (i := 2) hsr
        have t3 := blk_free (i := 3) hsr
        clear hsr HAT HMO
        go_wp2
        refine bodyPost_ret (results_row_tmp rfl _ _ (w.heap.size + 1) 36 #[.string xu, .int .i64 xs, .int .i64 xk, .string xv] (0, 0) _ rfl ?hgA Try.underlying36 rfl (by kernel_rfl)) rfl ?_
        case hgA => exact (set4 HBX.out.2 rfl rfl rfl rfl).1
        rw [HR.out]
        exact ⟨rfl, (set4 HBX.out.2 rfl rfl rfl rfl).2 _ (Nat.le_succ _) _ HW3.out⟩
      · have hd : decide (0 ≤ cm) = false := by simpa using hcm
        have HN := Lib.hid (HMO.out (by omega))
        clear HAT HMO
        go_wp2
        exact ⟨⟨i + 1, hlt, by go_num, HN, Lib.hid ⟨HW3.out, HBX.out⟩⟩, by simp [intOf]; omega⟩
    · have hie : i = L.length := by omega
      have HR := Lib.hid (above_no (es := L) (u := u) (s := s) (k := k) (fun j hj => HK.out j (by omega)))
      have hsr := HB.out.2.2
      have s0 := blk_cell (i := 0) hsr
      have s1 := blk_cell (i := 1) hsr
      have s2 := blk_cell (i := 2) hsr
      have s3 := blk_cell (i := 3) hsr
      have t0 := blk_free (i := 0) hsr
      have t1 := blk_free (i := 1) hsr
      have t2 := blk_free (i := 2) hsr
      have t3 := blk_free (i := 3) hsr
      clear hsr hie
      go_wp2
      refine bodyPost_ret (results_row_tmp rfl _ _ (w.heap.size + 1) 36 #[.string ⟨#[]⟩, .int .i64 0, .int .i64 0, .string ⟨#[]⟩] (0, 0) _ rfl ?hgB Try.underlying36 rfl (by kernel_rfl)) rfl ?_
      case hgB => exact (set4 HB.out.2.2 rfl rfl rfl rfl).1
      rw [HR.out]
      exact ⟨rfl, (set4 HB.out.2.2 rfl rfl rfl rfl).2 _ (Nat.le_succ _) _ HB.out.1⟩
end Go.Proofs.Ytdcjfgbngmdkfaa
