/-
  The walk of MemAll: whatever entries are added: what is there, all of it, and the newest of any key, are the document's.
-/
import Derived.Test.YtjiefffmcohcbaaMemBoth
namespace Go.Proofs.Ytjiefffmcohcbaa
open Go.RowKit

set_option maxRecDepth 100000 in
set_option maxHeartbeats 32000000 in
theorem memAll_walk (v0 : Value) (l : List Ent) (v1 : Value) (hs : List Int) (v2 : Value) (us : List ByteArray) (v3 : Value) (ss : List Int) (W : World) (h0 : RdE W v0 l) (h1 : RdI .i64 W v1 hs) (h2 : RdS W v2 us) (h3 : RdI .i64 W v3 ss) :
    Calls Try.prog 3 #[v0, v1, v2, v3] W fun r w' => r = .returned (.bool true) ∧ Below W.heap.size W w' := by
  obtain ⟨a0, c0, rfl, x0⟩ := h0.one
  obtain ⟨a1, c1, rfl, x1⟩ := h1.at_
  obtain ⟨a2, c2, rfl, x2⟩ := h2.at_
  obtain ⟨a3, c3, rfl, x3⟩ := h3.at_
  have X0 := Lib.hid x0
  have X1 := Lib.hid x1
  have X2 := Lib.hid x2
  have X3 := Lib.hid x3
  clear x0 x1 x2 x3 h0 h1 h2 h3
  go_enter Try.func3, Try.ntmps3
  by_cases g0 : 80 < l.length
  · skip
    go_wp2_with (go_at_call 7; (refine (awake10_any _).mono ?_); rintro r wZ ⟨rfl, hbZ⟩)
    go_ret
    exact ⟨rfl, hbZ⟩
  by_cases g1 : hs.length < l.length
  · skip
    go_wp2_with (go_at_call 7; (refine (awake10_any _).mono ?_); rintro r wZ ⟨rfl, hbZ⟩)
    go_ret
    exact ⟨rfl, hbZ⟩
  by_cases g2 : 20 < us.length
  · skip
    go_wp2_with (go_at_call 7; (refine (awake10_any _).mono ?_); rintro r wZ ⟨rfl, hbZ⟩)
    go_ret
    exact ⟨rfl, hbZ⟩
  by_cases g3 : 20 < ss.length
  · skip
    go_wp2_with (go_at_call 7; (refine (awake10_any _).mono ?_); rintro r wZ ⟨rfl, hbZ⟩)
    go_ret
    exact ⟨rfl, hbZ⟩
  have n0 : (l.length : Int) ≤ 80 := by omega
  have n1 : (l.length : Int) ≤ (hs.length : Int) := by omega
  have n2 : (us.length : Int) ≤ 20 := by omega
  have n3 : (ss.length : Int) ≤ 20 := by omega
  go_wp2_with (go_at_call 8; (refine (mo_new _).mono ?_); rintro r w1 ⟨p, F, rfl, hm1, hf1, hb1⟩; (have HM1 := Lib.hid hm1); (have HF1 := Lib.hid hf1); (have HB1 := Lib.hid hb1); clear hm1 hf1 hb1)
  obtain ⟨w2, hw2⟩ : ∃ w2, w2 = w1.alloc (.cells #[.slice none 0 0] 30) := ⟨_, rfl⟩
  obtain ⟨q, hq⟩ : ∃ q, q = w1.heap.size := ⟨_, rfl⟩
  have haw : AllW W w2 p q [] [] := by
    rw [hw2, hq]; exact aw_start HM1.out HF1.out HB1.out
  rw [← hw2, ← hq]
  have HAW0 := Lib.hid haw
  clear haw hw2 hq
  go_loopw [11] (fun i wr => ∃ k : Nat, k ≤ l.length ∧ i = .int .i64 (k : Int) ∧ Hid (AllW W wr p q (build (l.take k)) (build (l.take k)))) (fun i _ => l.length - (intOf i).toNat)
  case atStart => exact ⟨0, Nat.zero_le _, rfl, HAW0⟩
  case round =>
    obtain ⟨k, hk, rfl, HAWR⟩ := hrel
    by_cases hlt : k < l.length
    · obtain ⟨xb, xo, hxa, hxb, x0, x1, x2, x3, hXf⟩ := X0.out k hlt
      obtain ⟨hb, ho, hha, hhb, x4, _⟩ := X1.out k (by omega)
      subst hxa hha
      have HBT := Lib.hid (build_take hlt)
      have HLK : Hid ((build (l.take k)).length < 100000) := Lib.hid (by have h1 := build_len (l.take k); rw [List.length_take] at h1; omega)
      have HLN0 : Hid ((build (l.take (k + 1))).length < 100000) := Lib.hid (by have h1 := build_len (l.take (k + 1)); rw [List.length_take] at h1; omega)
      have hlh : (k : Int) < (hs.length : Int) := by omega
      generalize l.getD k Ent.none_ = X at *
      have HXF := Lib.hid hXf
      generalize hs.getD k 0 = hgt at *
      clear hXf
      have y0 := (HAWR.out.bel.cell (p := ⟨xb, xo + k * 4, none⟩) hxb).trans x0
      have y3 := (HAWR.out.bel.cell (p := ⟨xb, xo + k * 4 + 3, none⟩) hxb).trans x3
      by_cases g5 : 500 < X.u.size
      · skip
        go_wp2_with (go_at_call 7; (refine (awake10_any _).mono ?_); rintro r wZ ⟨rfl, hbZ⟩)
        go_ret
        exact ⟨rfl, belowT HAWR.out.bel hbZ⟩
      by_cases g6 : 1000 < X.v.size
      · skip
        go_wp2_with (go_at_call 7; (refine (awake10_any _).mono ?_); rintro r wZ ⟨rfl, hbZ⟩)
        go_ret
        exact ⟨rfl, belowT HAWR.out.bel hbZ⟩
      have n5 : (X.u.size : Int) ≤ 500 := by omega
      have n6 : (X.v.size : Int) ≤ 1000 := by omega
      go_wp2
      obtain ⟨w5, hw5⟩ : ∃ w5, w5 = wr.drew := ⟨_, rfl⟩
      have haw5 : AllW W w5 p q (build (l.take k)) (build (l.take k)) := by rw [hw5]; exact HAWR.out.below (Below.refl _ _).drew
      have Hw5 := Lib.hid hw5
      have HAW := Lib.hid haw5
      have hadd := aw_add haw5 X HXF.out hgt HLK.out
      have HADD := Lib.hid hadd
      rw [HBT.out] at HLN0
      have HLN := HLN0
      clear hw5 haw5 hadd y0 y3 HLN0
      generalize hbk : build (l.take k) = Lk at *
      have HBK := Lib.hid hbk
      clear hbk
      refine wp_region_three (fun wz => Below W.heap.size W wz) (fun _ => True) [(0, 0), (0, 1), (0, 2), (0, 3), (0, 4), (0, 5), (0, 6), (0, 7), (0, 8), (0, 10), (0, 11), (0, 12), (0, 13), (0, 14), (2, 9), (2, 15), (0, 16), (0, 17), (0, 18), (0, 20), (0, 21), (0, 22), (0, 23), (0, 24), (2, 19), (0, 25), (0, 26), (0, 27), (0, 28), (0, 30), (2, 29), (2, 31), (0, 32), (0, 33)] [] (by kernel_rfl) (by kernel_rfl) (by kernel_rfl) (by kernel_rfl) (by kernel_rfl) (by rw [← Hw5.out]; exact HAW.out.bel) trivial ?_
      simp only [planT, List.drop_succ_cons, List.drop_zero]
      rw [← Hw5.out]
      refine PlanV.take0 (v := ?vE0) (by kernel_rfl) ?yE0 ?rE0
      case yE0 => (intro wz hz; go_simp; try with_reducible rfl)
      (try simp only [Act.put, List.setIfInBounds_toArray, List.set_cons_zero, List.set_cons_succ])
      refine PlanV.take0 (v := ?vE1) (by kernel_rfl) ?yE1 ?rE1
      case yE1 => (intro wz hz; go_simp; try with_reducible rfl)
      (try simp only [Act.put, List.setIfInBounds_toArray, List.set_cons_zero, List.set_cons_succ])
      refine PlanV.take0 (v := ?vE2) (by kernel_rfl) ?yE2 ?rE2
      case yE2 => (intro wz hz; go_simp; try with_reducible rfl)
      (try simp only [Act.put, List.setIfInBounds_toArray, List.set_cons_zero, List.set_cons_succ])
      refine PlanV.take0 (v := ?vE3) (by kernel_rfl) ?yE3 ?rE3
      case yE3 => (intro wz hz; go_simp; try with_reducible rfl)
      (try simp only [Act.put, List.setIfInBounds_toArray, List.set_cons_zero, List.set_cons_succ])
      refine PlanV.take0 (v := ?vE4) (by kernel_rfl) ?yE4 ?rE4
      case yE4 => (intro wz hz; have k0 := (hz.cell (p := ⟨xb, xo + k * 4, none⟩) hxb).trans x0; have k1 := (hz.cell (p := ⟨xb, xo + k * 4 + 1, none⟩) hxb).trans x1; have k2 := (hz.cell (p := ⟨xb, xo + k * 4 + 2, none⟩) hxb).trans x2; have k3 := (hz.cell (p := ⟨xb, xo + k * 4 + 3, none⟩) hxb).trans x3; go_simp; try with_reducible rfl)
      (try simp only [Act.put, List.setIfInBounds_toArray, List.set_cons_zero, List.set_cons_succ])
      refine PlanV.take0 (v := ?vE5) (by kernel_rfl) ?yE5 ?rE5
      case yE5 => (intro wz hz; go_simp; try with_reducible rfl)
      (try simp only [Act.put, List.setIfInBounds_toArray, List.set_cons_zero, List.set_cons_succ])
      refine PlanV.take0 (v := ?vE6) (by kernel_rfl) ?yE6 ?rE6
      case yE6 => (intro wz hz; go_simp; try with_reducible rfl)
      (try simp only [Act.put, List.setIfInBounds_toArray, List.set_cons_zero, List.set_cons_succ])
      refine PlanV.take0 (v := ?vE7) (by kernel_rfl) ?yE7 ?rE7
      case yE7 => (intro wz hz; go_simp; try with_reducible rfl)
      (try simp only [Act.put, List.setIfInBounds_toArray, List.set_cons_zero, List.set_cons_succ])
      refine PlanV.take0 (v := ?vE8) (by kernel_rfl) ?yE8 ?rE8
      case yE8 => (intro wz hz; have k0 := (hz.cell (p := ⟨hb, ho + k, none⟩) hhb).trans x4; go_simp; try with_reducible rfl)
      (try simp only [Act.put, List.setIfInBounds_toArray, List.set_cons_zero, List.set_cons_succ])
      refine PlanV.take0 (v := ?vE10) (by kernel_rfl) ?yE10 ?rE10
      case yE10 => (intro wz hz; go_simp; try with_reducible rfl)
      (try simp only [Act.put, List.setIfInBounds_toArray, List.set_cons_zero, List.set_cons_succ])
      refine PlanV.take0 (v := ?vE11) (by kernel_rfl) ?yE11 ?rE11
      case yE11 => (intro wz hz; go_simp; try with_reducible rfl)
      (try simp only [Act.put, List.setIfInBounds_toArray, List.set_cons_zero, List.set_cons_succ])
      refine PlanV.take0 (v := ?vE12) (by kernel_rfl) ?yE12 ?rE12
      case yE12 => (intro wz hz; go_simp; try with_reducible rfl)
      (try simp only [Act.put, List.setIfInBounds_toArray, List.set_cons_zero, List.set_cons_succ])
      refine PlanV.take0 (v := ?vE13) (by kernel_rfl) ?yE13 ?rE13
      case yE13 => (intro wz hz; go_simp; try with_reducible rfl)
      (try simp only [Act.put, List.setIfInBounds_toArray, List.set_cons_zero, List.set_cons_succ])
      refine PlanV.take0 (v := ?vE14) (by kernel_rfl) ?yE14 ?rE14
      case yE14 => (intro wz hz; have k0 := (hz.cell (p := ⟨xb, xo + k * 4, none⟩) hxb).trans x0; have k1 := (hz.cell (p := ⟨xb, xo + k * 4 + 1, none⟩) hxb).trans x1; have k2 := (hz.cell (p := ⟨xb, xo + k * 4 + 2, none⟩) hxb).trans x2; have k3 := (hz.cell (p := ⟨xb, xo + k * 4 + 3, none⟩) hxb).trans x3; go_simp; try with_reducible rfl)
      (try simp only [Act.put, List.setIfInBounds_toArray, List.set_cons_zero, List.set_cons_succ])
      refine PlanV.exec2 (fun K hK => ⟨by kernel_rfl, ?_⟩)
      go_simp
      go_at_call 9
      (with_reducible refine HADD.out.mono ?_)
      rintro r u1 ⟨rfl, ha1⟩
      have HA1 := Lib.hid ha1
      clear ha1
      go_wp2_with fail
      refine hK.out _ _ (fun _ => True) HA1.out.bel trivial trivial ?_
      clear hK K
      (try simp only [Act.put, List.setIfInBounds_toArray, List.set_cons_zero, List.set_cons_succ])
      refine PlanV.exec2 (fun K hK => ⟨by kernel_rfl, ?_⟩)
      go_simp
      go_at_call 10
      (refine (aw_radd HA1.out X HXF.out HLK.out).mono ?_)
      rintro r u2 ⟨rfl, ha2⟩
      obtain ⟨ra, rc, hrq, _⟩ := ha2.doc
      have HA2 := Lib.hid ha2
      have HRQ := Lib.hid hrq
      clear ha2 hrq
      go_wp2_with fail
      refine hK.out _ _ (fun wz => wz.heap[q]? = some (.cells #[.slice ra (addL X (Lk)).length rc] 30 (0, 0))) ⟨HA2.out.bel, trivial⟩ HRQ.out trivial ?_
      clear hK K
      (try simp only [Act.put, List.setIfInBounds_toArray, List.set_cons_zero, List.set_cons_succ])
      refine PlanV.take0 (v := .bool false) (by kernel_rfl) ?yE16 ?rE16
      case yE16 => (intro wz hz; go_simp; try simp)
      (try simp only [Act.put, List.setIfInBounds_toArray, List.set_cons_zero, List.set_cons_succ])
      refine PlanV.take0 (v := .bool false) (by kernel_rfl) ?yE17 ?rE17
      case yE17 => (intro wz hz; go_simp; try simp)
      (try simp only [Act.put, List.setIfInBounds_toArray, List.set_cons_zero, List.set_cons_succ])
      refine PlanV.take0 (v := ?vE18) (by kernel_rfl) ?yE18 ?rE18
      case yE18 => (intro wz hz; go_simp; try with_reducible rfl)
      (try simp only [Act.put, List.setIfInBounds_toArray, List.set_cons_zero, List.set_cons_succ])
      refine PlanV.take0 (v := ?vE20) (by kernel_rfl) ?yE20 ?rE20
      case yE20 => (intro wz hz; go_simp; try with_reducible rfl)
      (try simp only [Act.put, List.setIfInBounds_toArray, List.set_cons_zero, List.set_cons_succ])
      refine PlanV.take0 (v := ?vE21) (by kernel_rfl) ?yE21 ?rE21
      case yE21 => (intro wz hz; go_simp; try with_reducible rfl)
      (try simp only [Act.put, List.setIfInBounds_toArray, List.set_cons_zero, List.set_cons_succ])
      refine PlanV.take0 (v := ?vE22) (by kernel_rfl) ?yE22 ?rE22
      case yE22 => (intro wz hz; go_simp; try with_reducible rfl)
      (try simp only [Act.put, List.setIfInBounds_toArray, List.set_cons_zero, List.set_cons_succ])
      refine PlanV.take0 (v := ?vE23) (by kernel_rfl) ?yE23 ?rE23
      case yE23 => (intro wz hz; have kq := blk_cell (i := 0) hz.2; go_simp; try with_reducible rfl)
      (try simp only [Act.put, List.setIfInBounds_toArray, List.set_cons_zero, List.set_cons_succ])
      refine PlanV.take0 (v := ?vE24) (by kernel_rfl) ?yE24 ?rE24
      case yE24 => (intro wz hz; go_simp; try with_reducible rfl)
      (try simp only [Act.put, List.setIfInBounds_toArray, List.set_cons_zero, List.set_cons_succ])
      refine PlanV.exec2 (fun K hK => ⟨by kernel_rfl, ?_⟩)
      go_simp
      go_at_call 11
      (refine (aw_len HA2.out).mono ?_)
      rintro r u9 ⟨rfl, rfl⟩
      go_wp2_with fail
      refine hK.out _ _ (fun _ => True) ⟨⟨HA2.out.bel, trivial⟩, HRQ.out⟩ trivial trivial ?_
      clear hK K
      (try simp only [Act.put, List.setIfInBounds_toArray, List.set_cons_zero, List.set_cons_succ])
      refine PlanV.take0 (v := .bool false) (by kernel_rfl) ?yE25 ?rE25
      case yE25 => (intro wz hz; go_simp; try simp)
      (try simp only [Act.put, List.setIfInBounds_toArray, List.set_cons_zero, List.set_cons_succ])
      refine PlanV.take0 (v := .bool false) (by kernel_rfl) ?yE26 ?rE26
      case yE26 => (intro wz hz; go_simp; try simp)
      (try simp only [Act.put, List.setIfInBounds_toArray, List.set_cons_zero, List.set_cons_succ])
      refine PlanV.take0 (v := .bool false) (by kernel_rfl) ?yE27 ?rE27
      case yE27 => (intro wz hz; go_simp; try simp)
      (try simp only [Act.put, List.setIfInBounds_toArray, List.set_cons_zero, List.set_cons_succ])
      refine PlanV.take0 (v := ?vE28) (by kernel_rfl) ?yE28 ?rE28
      case yE28 => (intro wz hz; go_simp; try with_reducible rfl)
      (try simp only [Act.put, List.setIfInBounds_toArray, List.set_cons_zero, List.set_cons_succ])
      refine PlanV.take0 (v := ?vE30) (by kernel_rfl) ?yE30 ?rE30
      case yE30 => (intro wz hz; go_simp; try with_reducible rfl)
      (try simp only [Act.put, List.setIfInBounds_toArray, List.set_cons_zero, List.set_cons_succ])
      refine PlanV.exec2 (fun K hK => ⟨by kernel_rfl, ?_⟩)
      go_simp
      go_at_call 12
      (refine (aw_size HA2.out).mono ?_)
      rintro r u9 ⟨rfl, rfl⟩
      go_wp2_with fail
      refine hK.out _ _ (fun _ => True) ⟨⟨⟨HA2.out.bel, trivial⟩, HRQ.out⟩, trivial⟩ trivial trivial ?_
      clear hK K
      (try simp only [Act.put, List.setIfInBounds_toArray, List.set_cons_zero, List.set_cons_succ])
      refine PlanV.exec2 (fun K hK => ⟨by kernel_rfl, ?_⟩)
      go_simp
      go_at_call 13
      (refine (aw_rsize HA2.out HLN.out).mono ?_)
      rintro r u3 ⟨rfl, hb3⟩
      have HRQ3 := Lib.hid ((hb3.block q (blk_lt HRQ.out)).trans HRQ.out)
      have HA3 := Lib.hid (HA2.out.below hb3)
      clear hb3
      go_wp2_with fail
      refine hK.out _ _ (fun _ => True) ⟨⟨⟨⟨HA3.out.bel, trivial⟩, HRQ3.out⟩, trivial⟩, trivial⟩ trivial trivial ?_
      clear hK K
      (try simp only [Act.put, List.setIfInBounds_toArray, List.set_cons_zero, List.set_cons_succ])
      refine PlanV.take0 (v := .bool false) (by kernel_rfl) ?yE32 ?rE32
      case yE32 => (intro wz hz; go_simp; try simp)
      (try simp only [Act.put, List.setIfInBounds_toArray, List.set_cons_zero, List.set_cons_succ])
      refine PlanV.take0 (v := .bool false) (by kernel_rfl) ?yE33 ?rE33
      case yE33 => (intro wz hz; go_simp; try simp)
      (try simp only [Act.put, List.setIfInBounds_toArray, List.set_cons_zero, List.set_cons_succ])
      refine PlanV.done (NoPanic.normal ?_)
      go_wp2
      refine ⟨⟨k + 1, hlt, by go_num, ?_⟩, ?_⟩
      · rw [HBT.out]; exact HA3
      · simp [intOf]; omega
    · obtain rfl : k = l.length := by omega
      have hAW := HAWR.out
      rw [List.take_length] at hAW
      have HLM : Hid ((build l).length < 1000000) := Lib.hid (by have := build_len l; omega)
      have HLL : Hid ((build l).length < 100000) := Lib.hid (by have := build_len l; omega)
      clear HAWR hlt
      generalize build l = L at *
      obtain ⟨ra, rc, hrq, hro⟩ := hAW.doc
      have HDQ := Lib.hid hrq
      have HDO := Lib.hid hro
      have HAW := Lib.hid hAW
      obtain ⟨w5, hw5⟩ : ∃ w5, w5 = wr := ⟨_, rfl⟩
      subst hw5
      have hall := aw_all (hAW.below (Below.refl _ _).drew) HLL.out
      have HALL := Lib.hid hall
      have rq0 : w5.cell? ⟨q, 0, none⟩ = some (.slice ra L.length rc) := blk_cell hrq
      clear hrq hro hAW hall
      go_wp2
      refine wp_region_plan [(true, 0), (true, 2), (true, 3), (true, 4), (true, 5), (false, 1), (false, 6), (true, 7)] (by kernel_rfl) (by kernel_rfl) (by kernel_rfl) (by kernel_rfl) (by kernel_rfl) ?_
      simp only [planO, List.drop_succ_cons, List.drop_zero]
      refine PlanO.take (v := ?vS0) (by kernel_rfl) ?yS0 ?rS0
      case yS0 => (intro wz hz; go_simp; try with_reducible rfl)
      (try simp only [Act.put, List.setIfInBounds_toArray, List.set_cons_zero, List.set_cons_succ])
      refine PlanO.take (v := ?vS2) (by kernel_rfl) ?yS2 ?rS2
      case yS2 => (intro wz hz; go_simp; try with_reducible rfl)
      (try simp only [Act.put, List.setIfInBounds_toArray, List.set_cons_zero, List.set_cons_succ])
      refine PlanO.take (v := ?vS3) (by kernel_rfl) ?yS3 ?rS3
      case yS3 => (intro wz hz; go_simp; try with_reducible rfl)
      (try simp only [Act.put, List.setIfInBounds_toArray, List.set_cons_zero, List.set_cons_succ])
      refine PlanO.take (v := ?vS4) (by kernel_rfl) ?yS4 ?rS4
      case yS4 => (intro wz hz; go_simp; try with_reducible rfl)
      (try simp only [Act.put, List.setIfInBounds_toArray, List.set_cons_zero, List.set_cons_succ])
      refine PlanO.take (v := ?vS5) (by kernel_rfl) ?yS5 ?rS5
      case yS5 => (intro wz hz; have kq := Ext.at_ hz rq0; go_simp; try with_reducible rfl)
      (try simp only [Act.put, List.setIfInBounds_toArray, List.set_cons_zero, List.set_cons_succ])
      refine PlanO.exec (fun K hK => ?_)
      go_simp
      go_at_call 15
      (refine HALL.out.mono ?_)
      rintro r u1 ⟨va, rfl, hva, hb1⟩
      have HVA := Lib.hid hva
      have hE1 : Ext w5.drew u1 := hb1
      go_wp2_with fail
      refine hK.out _ _ hb1 ?_
      clear hK K
      (try simp only [Act.put, List.setIfInBounds_toArray, List.set_cons_zero, List.set_cons_succ])
      refine PlanO.exec (fun K hK => ?_)
      go_simp
      go_at_call 14
      (refine (rsame_ent _ _ _ _ HLM.out HVA.out ((HDO.out.below (Below.refl _ _).drew).below hE1)).mono ?_)
      rintro r u2 ⟨rfl, hb2⟩
      have hE2 : Ext w5.drew u2 := Ext.trans hE1 hb2
      go_wp2_with fail
      refine hK.out _ _ hb2 ?_
      clear hK K
      (try simp only [Act.put, List.setIfInBounds_toArray, List.set_cons_zero, List.set_cons_succ])
      refine PlanO.take (v := ?vS7) (by kernel_rfl) ?yS7 ?rS7
      case yS7 => (intro wz hz; go_simp; try with_reducible rfl)
      (try simp only [Act.put, List.setIfInBounds_toArray, List.set_cons_zero, List.set_cons_succ])
      refine PlanO.done (NoPanic.normal ?_)
      have HAW2 := Lib.hid (HAW.out.below (below_draw10 hE2))
      clear HAW HDQ HDO HALL rq0 hE1 hE2 hb1 hb2
      go_wp2
      go_loopw [12] (fun i wr => ∃ k : Nat, k ≤ us.length ∧ i = .int .i64 (k : Int) ∧ Hid (AllW W wr p q L L)) (fun i _ => us.length - (intOf i).toNat)
      case atStart => exact ⟨0, Nat.zero_le _, rfl, HAW2⟩
      case round =>
        obtain ⟨i, hi, rfl, HAWI⟩ := hrel
        by_cases hius : i < us.length
        · obtain ⟨ub, uo, hua, hub, cu0, hUf⟩ := X2.out i hius
          subst hua
          generalize us.getD i ⟨#[]⟩ = U at *
          go_wp2
          go_loopw [13] (fun j wr => ∃ k : Nat, k ≤ ss.length ∧ j = .int .i64 (k : Int) ∧ Hid (AllW W wr p q L L)) (fun j _ => ss.length - (intOf j).toNat)
          case atStart => exact ⟨0, Nat.zero_le _, rfl, HAWI⟩
          case round =>
            obtain ⟨k, hk', rfl, HAW⟩ := hrel
            by_cases hks : k < ss.length
            · obtain ⟨sb, so, hsa, hsb, cs0, hSf⟩ := X3.out k hks
              subst hsa
              generalize ss.getD k 0 = s at *
              obtain ⟨w5, hw5⟩ : ∃ w5, w5 = wr := ⟨_, rfl⟩
              subst hw5
              obtain ⟨ra, rc, hrq, hro⟩ := HAW.out.doc
              obtain ⟨ya, yb, yc, yd, yf, hnf⟩ := ansN_form (newest L U s)
              have hget := aw_get HAW.out U s hUf hSf
              have HGET := Lib.hid (fun z hz => hget z hz _ hnf)
              have HNF := Lib.hid hnf
              have HDQ := Lib.hid hrq
              have HDO := Lib.hid hro
              have HQL := Lib.hid (blk_lt hrq)
              have cu := (HAW.out.bel.cell (p := ⟨ub, uo + i, none⟩) hub).trans cu0
              have cs := (HAW.out.bel.cell (p := ⟨sb, so + k, none⟩) hsb).trans cs0
              have hubr : ub < w5.heap.size := Nat.lt_of_lt_of_le hub HAW.out.bel.size
              have hsbr : sb < w5.heap.size := Nat.lt_of_lt_of_le hsb HAW.out.bel.size
              clear hget hnf hrq hro
              go_wp2
              refine wp_region_fork (fun wz => Below w5.heap.size w5 wz) (fun wz => Below w5.heap.size w5 wz) [(0, 0), (0, 1), (0, 2), (0, 3), (0, 4), (0, 5), (0, 6), (0, 7), (0, 8)] 9 13 [(0, 10), (0, 11), (1, 12), (2, 13), (3, 14), (1, 15)] [(2, 9), (0, 10), (0, 11), (1, 12), (3, 14), (1, 15)] [14] (by kernel_rfl) (by kernel_rfl) (by kernel_rfl) (by kernel_rfl) (by kernel_rfl) (Below.refl _ _).drew (Below.refl _ _).drew ?_
              simp only [planT, List.drop_succ_cons, List.drop_zero]
              refine ForkV.take (v := ?vtG0) (by kernel_rfl) ?ytG0 ?rtG0
              case ytG0 => (intro wz hz; go_simp; try with_reducible rfl)
              (try simp only [Act.put, List.setIfInBounds_toArray, List.set_cons_zero, List.set_cons_succ])
              refine ForkV.take (v := ?vtG1) (by kernel_rfl) ?ytG1 ?rtG1
              case ytG1 => (intro wz hz; go_simp; try with_reducible rfl)
              (try simp only [Act.put, List.setIfInBounds_toArray, List.set_cons_zero, List.set_cons_succ])
              refine ForkV.take (v := ?vtG2) (by kernel_rfl) ?ytG2 ?rtG2
              case ytG2 => (intro wz hz; go_simp; try with_reducible rfl)
              (try simp only [Act.put, List.setIfInBounds_toArray, List.set_cons_zero, List.set_cons_succ])
              refine ForkV.take (v := ?vtG3) (by kernel_rfl) ?ytG3 ?rtG3
              case ytG3 => (intro wz hz; go_simp; try with_reducible rfl)
              (try simp only [Act.put, List.setIfInBounds_toArray, List.set_cons_zero, List.set_cons_succ])
              refine ForkV.take (v := ?vtG4) (by kernel_rfl) ?ytG4 ?rtG4
              case ytG4 => (intro wz hz; have ku := (hz.cell (p := ⟨ub, uo + i, none⟩) hubr).trans cu; go_simp; try with_reducible rfl)
              (try simp only [Act.put, List.setIfInBounds_toArray, List.set_cons_zero, List.set_cons_succ])
              refine ForkV.take (v := ?vtG5) (by kernel_rfl) ?ytG5 ?rtG5
              case ytG5 => (intro wz hz; go_simp; try with_reducible rfl)
              (try simp only [Act.put, List.setIfInBounds_toArray, List.set_cons_zero, List.set_cons_succ])
              refine ForkV.take (v := ?vtG6) (by kernel_rfl) ?ytG6 ?rtG6
              case ytG6 => (intro wz hz; go_simp; try with_reducible rfl)
              (try simp only [Act.put, List.setIfInBounds_toArray, List.set_cons_zero, List.set_cons_succ])
              refine ForkV.take (v := ?vtG7) (by kernel_rfl) ?ytG7 ?rtG7
              case ytG7 => (intro wz hz; go_simp; try with_reducible rfl)
              (try simp only [Act.put, List.setIfInBounds_toArray, List.set_cons_zero, List.set_cons_succ])
              refine ForkV.take (v := ?vtG8) (by kernel_rfl) ?ytG8 ?rtG8
              case ytG8 => (intro wz hz; have ks := (hz.cell (p := ⟨sb, so + k, none⟩) hsbr).trans cs; go_simp; try with_reducible rfl)
              (try simp only [Act.put, List.setIfInBounds_toArray, List.set_cons_zero, List.set_cons_succ])
              refine ForkV.both ?_ ?_
              · skip
                refine PlanV.exec2 (fun K hK => ⟨by kernel_rfl, ?_⟩)
                go_simp
                go_at_call 16
                refine (HGET.out _ (Below.refl _ _).drew).mono ?_
                rintro r u1 ⟨rfl, hbc⟩
                go_wp2_with fail
                have HC1 : Hid (Below w5.heap.size w5 u1) := Lib.hid (below_draw10 hbc)
                clear hbc
                refine hK.out _ _ (fun _ => True) HC1.out trivial HC1.out ?_
                clear hK K
                (try simp only [Act.put, List.setIfInBounds_toArray, List.set_cons_zero, List.set_cons_succ])
                refine PlanV.take0 (v := ?vfGA10) (by kernel_rfl) ?yfGA10 ?rfGA10
                case yfGA10 => (intro wz hz; go_simp; try with_reducible rfl)
                (try simp only [Act.put, List.setIfInBounds_toArray, List.set_cons_zero, List.set_cons_succ])
                refine PlanV.take0 (v := ?vfGA11) (by kernel_rfl) ?yfGA11 ?rfGA11
                case yfGA11 => (intro wz hz; go_simp; try with_reducible rfl)
                (try simp only [Act.put, List.setIfInBounds_toArray, List.set_cons_zero, List.set_cons_succ])
                refine PlanV.take1 (v := ?vfGA12) (by kernel_rfl) ?yfGA12 ?rfGA12
                case yfGA12 => (intro wz hz; go_simp; try with_reducible rfl)
                (try simp only [Act.put, List.setIfInBounds_toArray, List.set_cons_zero, List.set_cons_succ])
                refine PlanV.exec2 (fun K hK => ⟨by kernel_rfl, ?_⟩)
                go_simp
                obtain ⟨u2, hu2⟩ : ∃ u2, u2 = u1.alloc (.cells #[.string ⟨#[]⟩, .int .i64 0, .int .i64 0, .string ⟨#[]⟩] 34) := ⟨_, rfl⟩
                rw [← hu2]
                have P0 := Lib.hid (show u2.heap[u1.heap.size]? = some (.cells #[.string ⟨#[]⟩, .int .i64 0, .int .i64 0, .string ⟨#[]⟩] 34 (0, 0)) by rw [hu2]; exact heap_alloc_new u1 _)
                have HC2 : Hid (Below w5.heap.size w5 u2) := Lib.hid (by rw [hu2]; exact HC1.out.alloc HC1.out.size _)
                clear hu2
                refine hK.out _ _ (fun _ => True) ⟨HC2.out, trivial⟩ trivial HC2.out ?_
                clear hK K
                (try simp only [Act.put, List.setIfInBounds_toArray, List.set_cons_zero, List.set_cons_succ])
                have r0 := blk_cell (i := 0) P0.out
                have r1 := blk_cell (i := 1) P0.out
                have r2 := blk_cell (i := 2) P0.out
                have r3 := blk_cell (i := 3) P0.out
                have s0 := blk_free (i := 0) P0.out
                have s1 := blk_free (i := 1) P0.out
                have s2 := blk_free (i := 2) P0.out
                have s3 := blk_free (i := 3) P0.out
                refine PlanV.exec3 (fun K hK => ⟨by kernel_rfl, ?_⟩)
                go_simp
                obtain ⟨u3G, hu3⟩ : ∃ u3, u3 = (((u2.setCell ⟨u1.heap.size, 0, none⟩ (.string ya)).setCell ⟨u1.heap.size, 1, none⟩ (.int .i64 yb)).setCell ⟨u1.heap.size, 2, none⟩ (.int .i64 yc)).setCell ⟨u1.heap.size, 3, none⟩ (.string yd) := ⟨_, rfl⟩
                rw [← hu3]
                have hst := set4 P0.out rfl rfl rfl hu3
                have ENG := Lib.hid hst.1
                have HCG : Hid (Below w5.heap.size w5 u3G) := Lib.hid (hst.2 _ (by have := HC1.out.size; omega) _ HC2.out)
                clear hu3 hst r0 r1 r2 r3 s0 s1 s2 s3
                refine hK.out _ _ HCG.out ?_
                clear hK K
                (try simp only [Act.put, List.setIfInBounds_toArray, List.set_cons_zero, List.set_cons_succ])
                refine PlanV.take1 (v := ?vfGA15) (by kernel_rfl) ?yfGA15 ?rfGA15
                case yfGA15 => (intro wz hz; go_simp; try with_reducible rfl)
                (try simp only [Act.put, List.setIfInBounds_toArray, List.set_cons_zero, List.set_cons_succ])
                refine PlanV.done (NoPanic.normal ?_)
                obtain ⟨qe, hqe⟩ : ∃ qe, qe = u1.heap.size := ⟨_, rfl⟩
                have HEE := Lib.hid (show u3G.heap[qe]? = some (.cells #[.string ya, .int .i64 yb, .int .i64 yc, .string yd] 34 (0, 0)) by rw [hqe]; exact ENG.out)
                rw [← hqe]
                clear hqe ENG HC1 HC2 P0
                go_wp2
                have hNEW := fun z (hz : Below u3G.heap.size u3G z) => rnewest_any ((HDO.out.below HCG.out).below hz) U s
                rw [HNF.out] at hNEW
                have HNEW := Lib.hid hNEW
                clear hNEW
                have uq := blk_cell (i := 0) ((HCG.out.block q HQL.out).trans HDQ.out)
                have uu := (HCG.out.cell (p := ⟨ub, uo + i, none⟩) hubr).trans cu
                have us' := (HCG.out.cell (p := ⟨sb, so + k, none⟩) hsbr).trans cs
                have hq3 : q < u3G.heap.size := Nat.lt_of_lt_of_le HQL.out HCG.out.size
                have hub3 : ub < u3G.heap.size := Nat.lt_of_lt_of_le hubr HCG.out.size
                have hsb3 : sb < u3G.heap.size := Nat.lt_of_lt_of_le hsbr HCG.out.size
                refine wp_region_fork (fun wz => Below u3G.heap.size u3G wz) (fun wz => Below u3G.heap.size u3G wz) [(0, 0), (0, 1), (0, 2), (0, 3), (0, 4), (0, 5), (0, 6), (0, 7), (0, 8), (0, 9), (0, 10), (0, 11)] 12 16 [(0, 13), (0, 14), (1, 15), (2, 16), (3, 17), (1, 18)] [(2, 12), (0, 13), (0, 14), (1, 15), (3, 17), (1, 18)] [17] (by kernel_rfl) (by kernel_rfl) (by kernel_rfl) (by kernel_rfl) (by kernel_rfl) (Below.refl _ _).drew (Below.refl _ _).drew ?_
                simp only [planT, List.drop_succ_cons, List.drop_zero]
                refine ForkV.take (v := ?vtNGA0) (by kernel_rfl) ?ytNGA0 ?rtNGA0
                case ytNGA0 => (intro wz hz; go_simp; try with_reducible rfl)
                (try simp only [Act.put, List.setIfInBounds_toArray, List.set_cons_zero, List.set_cons_succ])
                refine ForkV.take (v := ?vtNGA1) (by kernel_rfl) ?ytNGA1 ?rtNGA1
                case ytNGA1 => (intro wz hz; go_simp; try with_reducible rfl)
                (try simp only [Act.put, List.setIfInBounds_toArray, List.set_cons_zero, List.set_cons_succ])
                refine ForkV.take (v := ?vtNGA2) (by kernel_rfl) ?ytNGA2 ?rtNGA2
                case ytNGA2 => (intro wz hz; go_simp; try with_reducible rfl)
                (try simp only [Act.put, List.setIfInBounds_toArray, List.set_cons_zero, List.set_cons_succ])
                refine ForkV.take (v := ?vtNGA3) (by kernel_rfl) ?ytNGA3 ?rtNGA3
                case ytNGA3 => (intro wz hz; have kq := (hz.cell (p := ⟨q, 0, none⟩) hq3).trans uq; go_simp; try with_reducible rfl)
                (try simp only [Act.put, List.setIfInBounds_toArray, List.set_cons_zero, List.set_cons_succ])
                refine ForkV.take (v := ?vtNGA4) (by kernel_rfl) ?ytNGA4 ?rtNGA4
                case ytNGA4 => (intro wz hz; go_simp; try with_reducible rfl)
                (try simp only [Act.put, List.setIfInBounds_toArray, List.set_cons_zero, List.set_cons_succ])
                refine ForkV.take (v := ?vtNGA5) (by kernel_rfl) ?ytNGA5 ?rtNGA5
                case ytNGA5 => (intro wz hz; go_simp; try with_reducible rfl)
                (try simp only [Act.put, List.setIfInBounds_toArray, List.set_cons_zero, List.set_cons_succ])
                refine ForkV.take (v := ?vtNGA6) (by kernel_rfl) ?ytNGA6 ?rtNGA6
                case ytNGA6 => (intro wz hz; go_simp; try with_reducible rfl)
                (try simp only [Act.put, List.setIfInBounds_toArray, List.set_cons_zero, List.set_cons_succ])
                refine ForkV.take (v := ?vtNGA7) (by kernel_rfl) ?ytNGA7 ?rtNGA7
                case ytNGA7 => (intro wz hz; have ku := (hz.cell (p := ⟨ub, uo + i, none⟩) hub3).trans uu; go_simp; try with_reducible rfl)
                (try simp only [Act.put, List.setIfInBounds_toArray, List.set_cons_zero, List.set_cons_succ])
                refine ForkV.take (v := ?vtNGA8) (by kernel_rfl) ?ytNGA8 ?rtNGA8
                case ytNGA8 => (intro wz hz; go_simp; try with_reducible rfl)
                (try simp only [Act.put, List.setIfInBounds_toArray, List.set_cons_zero, List.set_cons_succ])
                refine ForkV.take (v := ?vtNGA9) (by kernel_rfl) ?ytNGA9 ?rtNGA9
                case ytNGA9 => (intro wz hz; go_simp; try with_reducible rfl)
                (try simp only [Act.put, List.setIfInBounds_toArray, List.set_cons_zero, List.set_cons_succ])
                refine ForkV.take (v := ?vtNGA10) (by kernel_rfl) ?ytNGA10 ?rtNGA10
                case ytNGA10 => (intro wz hz; go_simp; try with_reducible rfl)
                (try simp only [Act.put, List.setIfInBounds_toArray, List.set_cons_zero, List.set_cons_succ])
                refine ForkV.take (v := ?vtNGA11) (by kernel_rfl) ?ytNGA11 ?rtNGA11
                case ytNGA11 => (intro wz hz; have ks := (hz.cell (p := ⟨sb, so + k, none⟩) hsb3).trans us'; go_simp; try with_reducible rfl)
                (try simp only [Act.put, List.setIfInBounds_toArray, List.set_cons_zero, List.set_cons_succ])
                refine ForkV.both ?_ ?_
                · skip
                  refine PlanV.exec2 (fun K hK => ⟨by kernel_rfl, ?_⟩)
                  go_simp
                  go_at_call 17
                  refine (HNEW.out _ (Below.refl _ _).drew).mono ?_
                  rintro r u1 ⟨rfl, hbc⟩
                  go_wp2_with fail
                  have HC1 : Hid (Below u3G.heap.size u3G u1) := Lib.hid (below_draw10 hbc)
                  clear hbc
                  refine hK.out _ _ (fun _ => True) HC1.out trivial HC1.out ?_
                  clear hK K
                  (try simp only [Act.put, List.setIfInBounds_toArray, List.set_cons_zero, List.set_cons_succ])
                  refine PlanV.take0 (v := ?vfNGAA13) (by kernel_rfl) ?yfNGAA13 ?rfNGAA13
                  case yfNGAA13 => (intro wz hz; go_simp; try with_reducible rfl)
                  (try simp only [Act.put, List.setIfInBounds_toArray, List.set_cons_zero, List.set_cons_succ])
                  refine PlanV.take0 (v := ?vfNGAA14) (by kernel_rfl) ?yfNGAA14 ?rfNGAA14
                  case yfNGAA14 => (intro wz hz; go_simp; try with_reducible rfl)
                  (try simp only [Act.put, List.setIfInBounds_toArray, List.set_cons_zero, List.set_cons_succ])
                  refine PlanV.take1 (v := ?vfNGAA15) (by kernel_rfl) ?yfNGAA15 ?rfNGAA15
                  case yfNGAA15 => (intro wz hz; go_simp; try with_reducible rfl)
                  (try simp only [Act.put, List.setIfInBounds_toArray, List.set_cons_zero, List.set_cons_succ])
                  refine PlanV.exec2 (fun K hK => ⟨by kernel_rfl, ?_⟩)
                  go_simp
                  obtain ⟨u2, hu2⟩ : ∃ u2, u2 = u1.alloc (.cells #[.string ⟨#[]⟩, .int .i64 0, .int .i64 0, .string ⟨#[]⟩] 34) := ⟨_, rfl⟩
                  rw [← hu2]
                  have P0 := Lib.hid (show u2.heap[u1.heap.size]? = some (.cells #[.string ⟨#[]⟩, .int .i64 0, .int .i64 0, .string ⟨#[]⟩] 34 (0, 0)) by rw [hu2]; exact heap_alloc_new u1 _)
                  have HC2 : Hid (Below u3G.heap.size u3G u2) := Lib.hid (by rw [hu2]; exact HC1.out.alloc HC1.out.size _)
                  clear hu2
                  refine hK.out _ _ (fun _ => True) ⟨HC2.out, trivial⟩ trivial HC2.out ?_
                  clear hK K
                  (try simp only [Act.put, List.setIfInBounds_toArray, List.set_cons_zero, List.set_cons_succ])
                  have r0 := blk_cell (i := 0) P0.out
                  have r1 := blk_cell (i := 1) P0.out
                  have r2 := blk_cell (i := 2) P0.out
                  have r3 := blk_cell (i := 3) P0.out
                  have s0 := blk_free (i := 0) P0.out
                  have s1 := blk_free (i := 1) P0.out
                  have s2 := blk_free (i := 2) P0.out
                  have s3 := blk_free (i := 3) P0.out
                  refine PlanV.exec3 (fun K hK => ⟨by kernel_rfl, ?_⟩)
                  go_simp
                  obtain ⟨u3N, hu3⟩ : ∃ u3, u3 = (((u2.setCell ⟨u1.heap.size, 0, none⟩ (.string ya)).setCell ⟨u1.heap.size, 1, none⟩ (.int .i64 yb)).setCell ⟨u1.heap.size, 2, none⟩ (.int .i64 yc)).setCell ⟨u1.heap.size, 3, none⟩ (.string yd) := ⟨_, rfl⟩
                  rw [← hu3]
                  have hst := set4 P0.out rfl rfl rfl hu3
                  have ENN := Lib.hid hst.1
                  have HCN : Hid (Below u3G.heap.size u3G u3N) := Lib.hid (hst.2 _ (by have := HC1.out.size; omega) _ HC2.out)
                  clear hu3 hst r0 r1 r2 r3 s0 s1 s2 s3
                  refine hK.out _ _ HCN.out ?_
                  clear hK K
                  (try simp only [Act.put, List.setIfInBounds_toArray, List.set_cons_zero, List.set_cons_succ])
                  refine PlanV.take1 (v := ?vfNGAA18) (by kernel_rfl) ?yfNGAA18 ?rfNGAA18
                  case yfNGAA18 => (intro wz hz; go_simp; try with_reducible rfl)
                  (try simp only [Act.put, List.setIfInBounds_toArray, List.set_cons_zero, List.set_cons_succ])
                  refine PlanV.done (NoPanic.normal ?_)
                  have e0 := blk_cell (i := 0) HEE.out
                  have e1 := blk_cell (i := 1) HEE.out
                  have e2 := blk_cell (i := 2) HEE.out
                  have e3 := blk_cell (i := 3) HEE.out
                  replace e0 := (HCN.out.cell (p := ⟨qe, 0, none⟩) (blk_lt HEE.out)).trans e0
                  replace e1 := (HCN.out.cell (p := ⟨qe, 1, none⟩) (blk_lt HEE.out)).trans e1
                  replace e2 := (HCN.out.cell (p := ⟨qe, 2, none⟩) (blk_lt HEE.out)).trans e2
                  replace e3 := (HCN.out.cell (p := ⟨qe, 3, none⟩) (blk_lt HEE.out)).trans e3
                  have n0 := blk_cell (i := 0) ENN.out
                  have n1 := blk_cell (i := 1) ENN.out
                  have n2 := blk_cell (i := 2) ENN.out
                  have n3 := blk_cell (i := 3) ENN.out
                  go_wp2
                  refine ⟨⟨k + 1, hks, by go_num, Lib.hid (HAW.out.below (belowT HCG.out HCN.out))⟩, ?_⟩
                  simp [intOf]; omega
                · skip
                  refine PlanV.exec2 (fun K hK => ⟨by kernel_rfl, ?_⟩)
                  go_simp
                  obtain ⟨u1, hu1⟩ : ∃ u1, u1 = (u3G.alloc (.cells #[.string ⟨#[]⟩, .int .i64 0, .int .i64 0, .string ⟨#[]⟩] 34)).drew := ⟨_, rfl⟩
                  rw [← hu1]
                  have P0 := Lib.hid (show u1.heap[u3G.heap.size]? = some (.cells #[.string ⟨#[]⟩, .int .i64 0, .int .i64 0, .string ⟨#[]⟩] 34 (0, 0)) by rw [hu1]; exact heap_alloc_new u3G _)
                  have HC1 : Hid (Below u3G.heap.size u3G u1) := Lib.hid (by rw [hu1]; exact ((Below.refl _ _).alloc (Nat.le_refl _) _).drew)
                  clear hu1
                  refine hK.out _ _ (fun _ => True) HC1.out trivial HC1.out ?_
                  clear hK K
                  (try simp only [Act.put, List.setIfInBounds_toArray, List.set_cons_zero, List.set_cons_succ])
                  refine PlanV.exec2 (fun K hK => ⟨by kernel_rfl, ?_⟩)
                  go_simp
                  go_at_call 17
                  refine (HNEW.out _ HC1.out).mono ?_
                  rintro r u2 ⟨rfl, hbc⟩
                  go_wp2_with fail
                  have P1 := Lib.hid ((hbc.block u3G.heap.size (blk_lt P0.out)).trans P0.out)
                  have HC2 : Hid (Below u3G.heap.size u3G u2) := Lib.hid (belowT HC1.out hbc)
                  clear hbc
                  refine hK.out _ _ (fun _ => True) ⟨HC2.out, trivial⟩ trivial HC2.out ?_
                  clear hK K
                  (try simp only [Act.put, List.setIfInBounds_toArray, List.set_cons_zero, List.set_cons_succ])
                  refine PlanV.take0 (v := ?vfNGAB13) (by kernel_rfl) ?yfNGAB13 ?rfNGAB13
                  case yfNGAB13 => (intro wz hz; go_simp; try with_reducible rfl)
                  (try simp only [Act.put, List.setIfInBounds_toArray, List.set_cons_zero, List.set_cons_succ])
                  refine PlanV.take0 (v := ?vfNGAB14) (by kernel_rfl) ?yfNGAB14 ?rfNGAB14
                  case yfNGAB14 => (intro wz hz; go_simp; try with_reducible rfl)
                  (try simp only [Act.put, List.setIfInBounds_toArray, List.set_cons_zero, List.set_cons_succ])
                  refine PlanV.take1 (v := ?vfNGAB15) (by kernel_rfl) ?yfNGAB15 ?rfNGAB15
                  case yfNGAB15 => (intro wz hz; go_simp; try with_reducible rfl)
                  (try simp only [Act.put, List.setIfInBounds_toArray, List.set_cons_zero, List.set_cons_succ])
                  have r0 := blk_cell (i := 0) P1.out
                  have r1 := blk_cell (i := 1) P1.out
                  have r2 := blk_cell (i := 2) P1.out
                  have r3 := blk_cell (i := 3) P1.out
                  have s0 := blk_free (i := 0) P1.out
                  have s1 := blk_free (i := 1) P1.out
                  have s2 := blk_free (i := 2) P1.out
                  have s3 := blk_free (i := 3) P1.out
                  refine PlanV.exec3 (fun K hK => ⟨by kernel_rfl, ?_⟩)
                  go_simp
                  obtain ⟨u3N, hu3⟩ : ∃ u3, u3 = (((u2.setCell ⟨u3G.heap.size, 0, none⟩ (.string ya)).setCell ⟨u3G.heap.size, 1, none⟩ (.int .i64 yb)).setCell ⟨u3G.heap.size, 2, none⟩ (.int .i64 yc)).setCell ⟨u3G.heap.size, 3, none⟩ (.string yd) := ⟨_, rfl⟩
                  rw [← hu3]
                  have hst := set4 P1.out rfl rfl rfl hu3
                  have ENN := Lib.hid hst.1
                  have HCN : Hid (Below u3G.heap.size u3G u3N) := Lib.hid (hst.2 _ (by omega) _ HC2.out)
                  clear hu3 hst r0 r1 r2 r3 s0 s1 s2 s3
                  refine hK.out _ _ HCN.out ?_
                  clear hK K
                  (try simp only [Act.put, List.setIfInBounds_toArray, List.set_cons_zero, List.set_cons_succ])
                  refine PlanV.take1 (v := ?vfNGAB18) (by kernel_rfl) ?yfNGAB18 ?rfNGAB18
                  case yfNGAB18 => (intro wz hz; go_simp; try with_reducible rfl)
                  (try simp only [Act.put, List.setIfInBounds_toArray, List.set_cons_zero, List.set_cons_succ])
                  refine PlanV.done (NoPanic.normal ?_)
                  have e0 := blk_cell (i := 0) HEE.out
                  have e1 := blk_cell (i := 1) HEE.out
                  have e2 := blk_cell (i := 2) HEE.out
                  have e3 := blk_cell (i := 3) HEE.out
                  replace e0 := (HCN.out.cell (p := ⟨qe, 0, none⟩) (blk_lt HEE.out)).trans e0
                  replace e1 := (HCN.out.cell (p := ⟨qe, 1, none⟩) (blk_lt HEE.out)).trans e1
                  replace e2 := (HCN.out.cell (p := ⟨qe, 2, none⟩) (blk_lt HEE.out)).trans e2
                  replace e3 := (HCN.out.cell (p := ⟨qe, 3, none⟩) (blk_lt HEE.out)).trans e3
                  have n0 := blk_cell (i := 0) ENN.out
                  have n1 := blk_cell (i := 1) ENN.out
                  have n2 := blk_cell (i := 2) ENN.out
                  have n3 := blk_cell (i := 3) ENN.out
                  go_wp2
                  refine ⟨⟨k + 1, hks, by go_num, Lib.hid (HAW.out.below (belowT HCG.out HCN.out))⟩, ?_⟩
                  simp [intOf]; omega
              · skip
                refine PlanV.exec2 (fun K hK => ⟨by kernel_rfl, ?_⟩)
                go_simp
                obtain ⟨u1, hu1⟩ : ∃ u1, u1 = (w5.alloc (.cells #[.string ⟨#[]⟩, .int .i64 0, .int .i64 0, .string ⟨#[]⟩] 34)).drew := ⟨_, rfl⟩
                rw [← hu1]
                have P0 := Lib.hid (show u1.heap[w5.heap.size]? = some (.cells #[.string ⟨#[]⟩, .int .i64 0, .int .i64 0, .string ⟨#[]⟩] 34 (0, 0)) by rw [hu1]; exact heap_alloc_new w5 _)
                have HC1 : Hid (Below w5.heap.size w5 u1) := Lib.hid (by rw [hu1]; exact ((Below.refl _ _).alloc (Nat.le_refl _) _).drew)
                clear hu1
                refine hK.out _ _ (fun _ => True) HC1.out trivial HC1.out ?_
                clear hK K
                (try simp only [Act.put, List.setIfInBounds_toArray, List.set_cons_zero, List.set_cons_succ])
                refine PlanV.exec2 (fun K hK => ⟨by kernel_rfl, ?_⟩)
                go_simp
                go_at_call 16
                refine (HGET.out _ HC1.out).mono ?_
                rintro r u2 ⟨rfl, hbc⟩
                go_wp2_with fail
                have P1 := Lib.hid ((hbc.block w5.heap.size (blk_lt P0.out)).trans P0.out)
                have HC2 : Hid (Below w5.heap.size w5 u2) := Lib.hid (belowT HC1.out hbc)
                clear hbc
                refine hK.out _ _ (fun _ => True) ⟨HC2.out, trivial⟩ trivial HC2.out ?_
                clear hK K
                (try simp only [Act.put, List.setIfInBounds_toArray, List.set_cons_zero, List.set_cons_succ])
                refine PlanV.take0 (v := ?vfGB10) (by kernel_rfl) ?yfGB10 ?rfGB10
                case yfGB10 => (intro wz hz; go_simp; try with_reducible rfl)
                (try simp only [Act.put, List.setIfInBounds_toArray, List.set_cons_zero, List.set_cons_succ])
                refine PlanV.take0 (v := ?vfGB11) (by kernel_rfl) ?yfGB11 ?rfGB11
                case yfGB11 => (intro wz hz; go_simp; try with_reducible rfl)
                (try simp only [Act.put, List.setIfInBounds_toArray, List.set_cons_zero, List.set_cons_succ])
                refine PlanV.take1 (v := ?vfGB12) (by kernel_rfl) ?yfGB12 ?rfGB12
                case yfGB12 => (intro wz hz; go_simp; try with_reducible rfl)
                (try simp only [Act.put, List.setIfInBounds_toArray, List.set_cons_zero, List.set_cons_succ])
                have r0 := blk_cell (i := 0) P1.out
                have r1 := blk_cell (i := 1) P1.out
                have r2 := blk_cell (i := 2) P1.out
                have r3 := blk_cell (i := 3) P1.out
                have s0 := blk_free (i := 0) P1.out
                have s1 := blk_free (i := 1) P1.out
                have s2 := blk_free (i := 2) P1.out
                have s3 := blk_free (i := 3) P1.out
                refine PlanV.exec3 (fun K hK => ⟨by kernel_rfl, ?_⟩)
                go_simp
                obtain ⟨u3G, hu3⟩ : ∃ u3, u3 = (((u2.setCell ⟨w5.heap.size, 0, none⟩ (.string ya)).setCell ⟨w5.heap.size, 1, none⟩ (.int .i64 yb)).setCell ⟨w5.heap.size, 2, none⟩ (.int .i64 yc)).setCell ⟨w5.heap.size, 3, none⟩ (.string yd) := ⟨_, rfl⟩
                rw [← hu3]
                have hst := set4 P1.out rfl rfl rfl hu3
                have ENG := Lib.hid hst.1
                have HCG : Hid (Below w5.heap.size w5 u3G) := Lib.hid (hst.2 _ (by omega) _ HC2.out)
                clear hu3 hst r0 r1 r2 r3 s0 s1 s2 s3
                refine hK.out _ _ HCG.out ?_
                clear hK K
                (try simp only [Act.put, List.setIfInBounds_toArray, List.set_cons_zero, List.set_cons_succ])
                refine PlanV.take1 (v := ?vfGB15) (by kernel_rfl) ?yfGB15 ?rfGB15
                case yfGB15 => (intro wz hz; go_simp; try with_reducible rfl)
                (try simp only [Act.put, List.setIfInBounds_toArray, List.set_cons_zero, List.set_cons_succ])
                refine PlanV.done (NoPanic.normal ?_)
                obtain ⟨qe, hqe⟩ : ∃ qe, qe = w5.heap.size := ⟨_, rfl⟩
                have HEE := Lib.hid (show u3G.heap[qe]? = some (.cells #[.string ya, .int .i64 yb, .int .i64 yc, .string yd] 34 (0, 0)) by rw [hqe]; exact ENG.out)
                rw [← hqe]
                clear hqe ENG HC1 HC2 P0 P1
                go_wp2
                have hNEW := fun z (hz : Below u3G.heap.size u3G z) => rnewest_any ((HDO.out.below HCG.out).below hz) U s
                rw [HNF.out] at hNEW
                have HNEW := Lib.hid hNEW
                clear hNEW
                have uq := blk_cell (i := 0) ((HCG.out.block q HQL.out).trans HDQ.out)
                have uu := (HCG.out.cell (p := ⟨ub, uo + i, none⟩) hubr).trans cu
                have us' := (HCG.out.cell (p := ⟨sb, so + k, none⟩) hsbr).trans cs
                have hq3 : q < u3G.heap.size := Nat.lt_of_lt_of_le HQL.out HCG.out.size
                have hub3 : ub < u3G.heap.size := Nat.lt_of_lt_of_le hubr HCG.out.size
                have hsb3 : sb < u3G.heap.size := Nat.lt_of_lt_of_le hsbr HCG.out.size
                refine wp_region_fork (fun wz => Below u3G.heap.size u3G wz) (fun wz => Below u3G.heap.size u3G wz) [(0, 0), (0, 1), (0, 2), (0, 3), (0, 4), (0, 5), (0, 6), (0, 7), (0, 8), (0, 9), (0, 10), (0, 11)] 12 16 [(0, 13), (0, 14), (1, 15), (2, 16), (3, 17), (1, 18)] [(2, 12), (0, 13), (0, 14), (1, 15), (3, 17), (1, 18)] [17] (by kernel_rfl) (by kernel_rfl) (by kernel_rfl) (by kernel_rfl) (by kernel_rfl) (Below.refl _ _).drew (Below.refl _ _).drew ?_
                simp only [planT, List.drop_succ_cons, List.drop_zero]
                refine ForkV.take (v := ?vtNGB0) (by kernel_rfl) ?ytNGB0 ?rtNGB0
                case ytNGB0 => (intro wz hz; go_simp; try with_reducible rfl)
                (try simp only [Act.put, List.setIfInBounds_toArray, List.set_cons_zero, List.set_cons_succ])
                refine ForkV.take (v := ?vtNGB1) (by kernel_rfl) ?ytNGB1 ?rtNGB1
                case ytNGB1 => (intro wz hz; go_simp; try with_reducible rfl)
                (try simp only [Act.put, List.setIfInBounds_toArray, List.set_cons_zero, List.set_cons_succ])
                refine ForkV.take (v := ?vtNGB2) (by kernel_rfl) ?ytNGB2 ?rtNGB2
                case ytNGB2 => (intro wz hz; go_simp; try with_reducible rfl)
                (try simp only [Act.put, List.setIfInBounds_toArray, List.set_cons_zero, List.set_cons_succ])
                refine ForkV.take (v := ?vtNGB3) (by kernel_rfl) ?ytNGB3 ?rtNGB3
                case ytNGB3 => (intro wz hz; have kq := (hz.cell (p := ⟨q, 0, none⟩) hq3).trans uq; go_simp; try with_reducible rfl)
                (try simp only [Act.put, List.setIfInBounds_toArray, List.set_cons_zero, List.set_cons_succ])
                refine ForkV.take (v := ?vtNGB4) (by kernel_rfl) ?ytNGB4 ?rtNGB4
                case ytNGB4 => (intro wz hz; go_simp; try with_reducible rfl)
                (try simp only [Act.put, List.setIfInBounds_toArray, List.set_cons_zero, List.set_cons_succ])
                refine ForkV.take (v := ?vtNGB5) (by kernel_rfl) ?ytNGB5 ?rtNGB5
                case ytNGB5 => (intro wz hz; go_simp; try with_reducible rfl)
                (try simp only [Act.put, List.setIfInBounds_toArray, List.set_cons_zero, List.set_cons_succ])
                refine ForkV.take (v := ?vtNGB6) (by kernel_rfl) ?ytNGB6 ?rtNGB6
                case ytNGB6 => (intro wz hz; go_simp; try with_reducible rfl)
                (try simp only [Act.put, List.setIfInBounds_toArray, List.set_cons_zero, List.set_cons_succ])
                refine ForkV.take (v := ?vtNGB7) (by kernel_rfl) ?ytNGB7 ?rtNGB7
                case ytNGB7 => (intro wz hz; have ku := (hz.cell (p := ⟨ub, uo + i, none⟩) hub3).trans uu; go_simp; try with_reducible rfl)
                (try simp only [Act.put, List.setIfInBounds_toArray, List.set_cons_zero, List.set_cons_succ])
                refine ForkV.take (v := ?vtNGB8) (by kernel_rfl) ?ytNGB8 ?rtNGB8
                case ytNGB8 => (intro wz hz; go_simp; try with_reducible rfl)
                (try simp only [Act.put, List.setIfInBounds_toArray, List.set_cons_zero, List.set_cons_succ])
                refine ForkV.take (v := ?vtNGB9) (by kernel_rfl) ?ytNGB9 ?rtNGB9
                case ytNGB9 => (intro wz hz; go_simp; try with_reducible rfl)
                (try simp only [Act.put, List.setIfInBounds_toArray, List.set_cons_zero, List.set_cons_succ])
                refine ForkV.take (v := ?vtNGB10) (by kernel_rfl) ?ytNGB10 ?rtNGB10
                case ytNGB10 => (intro wz hz; go_simp; try with_reducible rfl)
                (try simp only [Act.put, List.setIfInBounds_toArray, List.set_cons_zero, List.set_cons_succ])
                refine ForkV.take (v := ?vtNGB11) (by kernel_rfl) ?ytNGB11 ?rtNGB11
                case ytNGB11 => (intro wz hz; have ks := (hz.cell (p := ⟨sb, so + k, none⟩) hsb3).trans us'; go_simp; try with_reducible rfl)
                (try simp only [Act.put, List.setIfInBounds_toArray, List.set_cons_zero, List.set_cons_succ])
                refine ForkV.both ?_ ?_
                · skip
                  refine PlanV.exec2 (fun K hK => ⟨by kernel_rfl, ?_⟩)
                  go_simp
                  go_at_call 17
                  refine (HNEW.out _ (Below.refl _ _).drew).mono ?_
                  rintro r u1 ⟨rfl, hbc⟩
                  go_wp2_with fail
                  have HC1 : Hid (Below u3G.heap.size u3G u1) := Lib.hid (below_draw10 hbc)
                  clear hbc
                  refine hK.out _ _ (fun _ => True) HC1.out trivial HC1.out ?_
                  clear hK K
                  (try simp only [Act.put, List.setIfInBounds_toArray, List.set_cons_zero, List.set_cons_succ])
                  refine PlanV.take0 (v := ?vfNGBA13) (by kernel_rfl) ?yfNGBA13 ?rfNGBA13
                  case yfNGBA13 => (intro wz hz; go_simp; try with_reducible rfl)
                  (try simp only [Act.put, List.setIfInBounds_toArray, List.set_cons_zero, List.set_cons_succ])
                  refine PlanV.take0 (v := ?vfNGBA14) (by kernel_rfl) ?yfNGBA14 ?rfNGBA14
                  case yfNGBA14 => (intro wz hz; go_simp; try with_reducible rfl)
                  (try simp only [Act.put, List.setIfInBounds_toArray, List.set_cons_zero, List.set_cons_succ])
                  refine PlanV.take1 (v := ?vfNGBA15) (by kernel_rfl) ?yfNGBA15 ?rfNGBA15
                  case yfNGBA15 => (intro wz hz; go_simp; try with_reducible rfl)
                  (try simp only [Act.put, List.setIfInBounds_toArray, List.set_cons_zero, List.set_cons_succ])
                  refine PlanV.exec2 (fun K hK => ⟨by kernel_rfl, ?_⟩)
                  go_simp
                  obtain ⟨u2, hu2⟩ : ∃ u2, u2 = u1.alloc (.cells #[.string ⟨#[]⟩, .int .i64 0, .int .i64 0, .string ⟨#[]⟩] 34) := ⟨_, rfl⟩
                  rw [← hu2]
                  have P0 := Lib.hid (show u2.heap[u1.heap.size]? = some (.cells #[.string ⟨#[]⟩, .int .i64 0, .int .i64 0, .string ⟨#[]⟩] 34 (0, 0)) by rw [hu2]; exact heap_alloc_new u1 _)
                  have HC2 : Hid (Below u3G.heap.size u3G u2) := Lib.hid (by rw [hu2]; exact HC1.out.alloc HC1.out.size _)
                  clear hu2
                  refine hK.out _ _ (fun _ => True) ⟨HC2.out, trivial⟩ trivial HC2.out ?_
                  clear hK K
                  (try simp only [Act.put, List.setIfInBounds_toArray, List.set_cons_zero, List.set_cons_succ])
                  have r0 := blk_cell (i := 0) P0.out
                  have r1 := blk_cell (i := 1) P0.out
                  have r2 := blk_cell (i := 2) P0.out
                  have r3 := blk_cell (i := 3) P0.out
                  have s0 := blk_free (i := 0) P0.out
                  have s1 := blk_free (i := 1) P0.out
                  have s2 := blk_free (i := 2) P0.out
                  have s3 := blk_free (i := 3) P0.out
                  refine PlanV.exec3 (fun K hK => ⟨by kernel_rfl, ?_⟩)
                  go_simp
                  obtain ⟨u3N, hu3⟩ : ∃ u3, u3 = (((u2.setCell ⟨u1.heap.size, 0, none⟩ (.string ya)).setCell ⟨u1.heap.size, 1, none⟩ (.int .i64 yb)).setCell ⟨u1.heap.size, 2, none⟩ (.int .i64 yc)).setCell ⟨u1.heap.size, 3, none⟩ (.string yd) := ⟨_, rfl⟩
                  rw [← hu3]
                  have hst := set4 P0.out rfl rfl rfl hu3
                  have ENN := Lib.hid hst.1
                  have HCN : Hid (Below u3G.heap.size u3G u3N) := Lib.hid (hst.2 _ (by have := HC1.out.size; omega) _ HC2.out)
                  clear hu3 hst r0 r1 r2 r3 s0 s1 s2 s3
                  refine hK.out _ _ HCN.out ?_
                  clear hK K
                  (try simp only [Act.put, List.setIfInBounds_toArray, List.set_cons_zero, List.set_cons_succ])
                  refine PlanV.take1 (v := ?vfNGBA18) (by kernel_rfl) ?yfNGBA18 ?rfNGBA18
                  case yfNGBA18 => (intro wz hz; go_simp; try with_reducible rfl)
                  (try simp only [Act.put, List.setIfInBounds_toArray, List.set_cons_zero, List.set_cons_succ])
                  refine PlanV.done (NoPanic.normal ?_)
                  have e0 := blk_cell (i := 0) HEE.out
                  have e1 := blk_cell (i := 1) HEE.out
                  have e2 := blk_cell (i := 2) HEE.out
                  have e3 := blk_cell (i := 3) HEE.out
                  replace e0 := (HCN.out.cell (p := ⟨qe, 0, none⟩) (blk_lt HEE.out)).trans e0
                  replace e1 := (HCN.out.cell (p := ⟨qe, 1, none⟩) (blk_lt HEE.out)).trans e1
                  replace e2 := (HCN.out.cell (p := ⟨qe, 2, none⟩) (blk_lt HEE.out)).trans e2
                  replace e3 := (HCN.out.cell (p := ⟨qe, 3, none⟩) (blk_lt HEE.out)).trans e3
                  have n0 := blk_cell (i := 0) ENN.out
                  have n1 := blk_cell (i := 1) ENN.out
                  have n2 := blk_cell (i := 2) ENN.out
                  have n3 := blk_cell (i := 3) ENN.out
                  go_wp2
                  refine ⟨⟨k + 1, hks, by go_num, Lib.hid (HAW.out.below (belowT HCG.out HCN.out))⟩, ?_⟩
                  simp [intOf]; omega
                · skip
                  refine PlanV.exec2 (fun K hK => ⟨by kernel_rfl, ?_⟩)
                  go_simp
                  obtain ⟨u1, hu1⟩ : ∃ u1, u1 = (u3G.alloc (.cells #[.string ⟨#[]⟩, .int .i64 0, .int .i64 0, .string ⟨#[]⟩] 34)).drew := ⟨_, rfl⟩
                  rw [← hu1]
                  have P0 := Lib.hid (show u1.heap[u3G.heap.size]? = some (.cells #[.string ⟨#[]⟩, .int .i64 0, .int .i64 0, .string ⟨#[]⟩] 34 (0, 0)) by rw [hu1]; exact heap_alloc_new u3G _)
                  have HC1 : Hid (Below u3G.heap.size u3G u1) := Lib.hid (by rw [hu1]; exact ((Below.refl _ _).alloc (Nat.le_refl _) _).drew)
                  clear hu1
                  refine hK.out _ _ (fun _ => True) HC1.out trivial HC1.out ?_
                  clear hK K
                  (try simp only [Act.put, List.setIfInBounds_toArray, List.set_cons_zero, List.set_cons_succ])
                  refine PlanV.exec2 (fun K hK => ⟨by kernel_rfl, ?_⟩)
                  go_simp
                  go_at_call 17
                  refine (HNEW.out _ HC1.out).mono ?_
                  rintro r u2 ⟨rfl, hbc⟩
                  go_wp2_with fail
                  have P1 := Lib.hid ((hbc.block u3G.heap.size (blk_lt P0.out)).trans P0.out)
                  have HC2 : Hid (Below u3G.heap.size u3G u2) := Lib.hid (belowT HC1.out hbc)
                  clear hbc
                  refine hK.out _ _ (fun _ => True) ⟨HC2.out, trivial⟩ trivial HC2.out ?_
                  clear hK K
                  (try simp only [Act.put, List.setIfInBounds_toArray, List.set_cons_zero, List.set_cons_succ])
                  refine PlanV.take0 (v := ?vfNGBB13) (by kernel_rfl) ?yfNGBB13 ?rfNGBB13
                  case yfNGBB13 => (intro wz hz; go_simp; try with_reducible rfl)
                  (try simp only [Act.put, List.setIfInBounds_toArray, List.set_cons_zero, List.set_cons_succ])
                  refine PlanV.take0 (v := ?vfNGBB14) (by kernel_rfl) ?yfNGBB14 ?rfNGBB14
                  case yfNGBB14 => (intro wz hz; go_simp; try with_reducible rfl)
                  (try simp only [Act.put, List.setIfInBounds_toArray, List.set_cons_zero, List.set_cons_succ])
                  refine PlanV.take1 (v := ?vfNGBB15) (by kernel_rfl) ?yfNGBB15 ?rfNGBB15
                  case yfNGBB15 => (intro wz hz; go_simp; try with_reducible rfl)
                  (try simp only [Act.put, List.setIfInBounds_toArray, List.set_cons_zero, List.set_cons_succ])
                  have r0 := blk_cell (i := 0) P1.out
                  have r1 := blk_cell (i := 1) P1.out
                  have r2 := blk_cell (i := 2) P1.out
                  have r3 := blk_cell (i := 3) P1.out
                  have s0 := blk_free (i := 0) P1.out
                  have s1 := blk_free (i := 1) P1.out
                  have s2 := blk_free (i := 2) P1.out
                  have s3 := blk_free (i := 3) P1.out
                  refine PlanV.exec3 (fun K hK => ⟨by kernel_rfl, ?_⟩)
                  go_simp
                  obtain ⟨u3N, hu3⟩ : ∃ u3, u3 = (((u2.setCell ⟨u3G.heap.size, 0, none⟩ (.string ya)).setCell ⟨u3G.heap.size, 1, none⟩ (.int .i64 yb)).setCell ⟨u3G.heap.size, 2, none⟩ (.int .i64 yc)).setCell ⟨u3G.heap.size, 3, none⟩ (.string yd) := ⟨_, rfl⟩
                  rw [← hu3]
                  have hst := set4 P1.out rfl rfl rfl hu3
                  have ENN := Lib.hid hst.1
                  have HCN : Hid (Below u3G.heap.size u3G u3N) := Lib.hid (hst.2 _ (by omega) _ HC2.out)
                  clear hu3 hst r0 r1 r2 r3 s0 s1 s2 s3
                  refine hK.out _ _ HCN.out ?_
                  clear hK K
                  (try simp only [Act.put, List.setIfInBounds_toArray, List.set_cons_zero, List.set_cons_succ])
                  refine PlanV.take1 (v := ?vfNGBB18) (by kernel_rfl) ?yfNGBB18 ?rfNGBB18
                  case yfNGBB18 => (intro wz hz; go_simp; try with_reducible rfl)
                  (try simp only [Act.put, List.setIfInBounds_toArray, List.set_cons_zero, List.set_cons_succ])
                  refine PlanV.done (NoPanic.normal ?_)
                  have e0 := blk_cell (i := 0) HEE.out
                  have e1 := blk_cell (i := 1) HEE.out
                  have e2 := blk_cell (i := 2) HEE.out
                  have e3 := blk_cell (i := 3) HEE.out
                  replace e0 := (HCN.out.cell (p := ⟨qe, 0, none⟩) (blk_lt HEE.out)).trans e0
                  replace e1 := (HCN.out.cell (p := ⟨qe, 1, none⟩) (blk_lt HEE.out)).trans e1
                  replace e2 := (HCN.out.cell (p := ⟨qe, 2, none⟩) (blk_lt HEE.out)).trans e2
                  replace e3 := (HCN.out.cell (p := ⟨qe, 3, none⟩) (blk_lt HEE.out)).trans e3
                  have n0 := blk_cell (i := 0) ENN.out
                  have n1 := blk_cell (i := 1) ENN.out
                  have n2 := blk_cell (i := 2) ENN.out
                  have n3 := blk_cell (i := 3) ENN.out
                  go_wp2
                  refine ⟨⟨k + 1, hks, by go_num, Lib.hid (HAW.out.below (belowT HCG.out HCN.out))⟩, ?_⟩
                  simp [intOf]; omega
            · go_wp2
              refine ⟨⟨i + 1, hius, by go_num, HAW⟩, ?_⟩
              simp [intOf]; omega
        · skip
          go_wp2_with (go_at_call 7; (refine (awake10_any _).mono ?_); rintro r wZ ⟨rfl, hbZ⟩)
          go_ret
          exact ⟨rfl, belowT HAWI.out.bel hbZ⟩
end Go.Proofs.Ytjiefffmcohcbaa
