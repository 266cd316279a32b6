/-
  The walk of MemSees: at any number a key has what was said of it last up to there.
-/
import Derived.Test.YtjiefffmcohcbaaMemSeesMath
import Derived.Test.YtjiefffmcohcbaaTwo
namespace Go.Proofs.Ytjiefffmcohcbaa
open Go.RowKit

theorem see_call {W w : World} {p : Nat} {nn : Nat → Nat} {i : Nat} (h : OneM W w p (build (seeL nn i))) (hi : i < 100) (hgt : Int) :
    Calls Try.prog 9 #[.pointer (some ⟨p, 0, none⟩), .agg #[.string (strB (117 :: digL (nn i % 5))), .int .i64 (i : Int), .int .i64 1, .string (strB (digL i))], .int .i64 hgt] w fun r w' => r = .returned (.bool true) ∧ OneM W w' p (build (seeL nn (i + 1))) := by
  obtain ⟨h1, h2⟩ := see_add nn hi
  have hl : (build (seeL nn i)).length < 100000 := by
    have := build_len (seeL nn i)
    unfold seeL at this
    rw [List.length_map, List.length_range] at this
    unfold seeL
    omega
  have := om_add h (seeE nn i) (Ent.may_fits (see_may nn hi)) hgt hl
  rw [h1, h2] at this
  exact this

theorem rdB_one {w : World} {v : Value} {l : List UInt8} (h : RdB w v l) : ∃ a c, v = .slice a l.length c ∧ ∀ i, i < l.length → ∃ b off, a = some ⟨b, off, none⟩ ∧ b < w.heap.size ∧ w.cell? ⟨b, off + i, none⟩ = some (.int .u8 ((l.getD i 0).toNat : Int)) := by
  obtain ⟨a, cap, rfl, h1, h2, h0, h3⟩ := h
  refine ⟨a, cap, rfl, fun i hi => ?_⟩
  rcases h3 with ⟨h3, _⟩ | ⟨b, off, rfl, h4, h5⟩
  · omega
  · refine ⟨b, off, rfl, h4, h5 i _ ?_⟩
    rw [List.getElem?_map, List.getElem?_eq_getElem hi]; simp [List.getD, hi, bv]

theorem u_add (n : Nat) : (⟨#[117]⟩ : ByteArray) ++ strB (digL n) = strB (117 :: digL n) := strB_app9 [117] (digL n)

set_option maxRecDepth 100000 in
set_option maxHeartbeats 32000000 in
theorem memSees_walk (v0 : Value) (l : List UInt8) (v1 : Value) (hs : List Int) (at_ which : Int) (W : World) (h0 : RdB W v0 l) (h1 : RdI .i64 W v1 hs) (wa : (Lit.int .u8 at_).wf = true) (ww : (Lit.int .u8 which).wf = true) :
    Calls Try.prog 5 #[v0, v1, .int .u8 at_, .int .u8 which] W fun r w' => r = .returned (.bool true) ∧ Below W.heap.size W w' := by
  obtain ⟨a0, c0, rfl, x0⟩ := rdB_one h0
  obtain ⟨a1, c1, rfl, x1⟩ := h1.at_
  obtain ⟨A, rfl⟩ : ∃ A : Nat, at_ = (A : Int) := ⟨at_.toNat, by have := bounds_u8 wa; omega⟩
  obtain ⟨C, rfl⟩ : ∃ C : Nat, which = (C : Int) := ⟨which.toNat, by have := bounds_u8 ww; omega⟩
  have hA : A ≤ 255 := by have := bounds_u8 wa; omega
  have hC : C ≤ 255 := by have := bounds_u8 ww; omega
  have X0 := Lib.hid x0
  have X1 := Lib.hid x1
  obtain ⟨nn, hnn⟩ : ∃ nn : Nat → Nat, nn = fun i => (l.getD i 0).toNat := ⟨_, rfl⟩
  have HNN := Lib.hid hnn
  have tA : (A : Int).tmod 64 = ((A % 64 : Nat) : Int) := by rw [Int.tmod_eq_emod_of_nonneg (by omega)]; omega
  have tC : (C : Int).tmod 5 = ((C % 5 : Nat) : Int) := by rw [Int.tmod_eq_emod_of_nonneg (by omega)]; omega
  clear x0 x1 h0 h1 wa ww hnn
  go_enter Try.func5, Try.ntmps5
  by_cases g0 : 60 < l.length
  · skip
    go_wp2_with (go_at_call 7; (refine (awake10_any _).mono ?_); rintro r wZ ⟨rfl, hbZ⟩)
    go_ret
    exact ⟨rfl, hbZ⟩
  by_cases g1 : hs.length < l.length
  · skip
    go_wp2_with (go_at_call 7; (refine (awake10_any _).mono ?_); rintro r wZ ⟨rfl, hbZ⟩)
    go_ret
    exact ⟨rfl, hbZ⟩
  have n0 : (l.length : Int) ≤ 60 := by omega
  have n1 : (l.length : Int) ≤ (hs.length : Int) := by omega
  generalize hs64 : A % 64 = s at *
  generalize hc5 : C % 5 = c at *
  have hs' : s < 64 := by omega
  have hc' : c < 5 := by omega
  clear hs64 hc5
  go_wp2_with (go_at_call 8; (refine (mo_new _).mono ?_); rintro r w1 ⟨p, F, rfl, hm1, hf1, hb1⟩; (have HON0 := Lib.hid (show OneM W w1 p [] from ⟨hb1, F, hm1, hf1⟩)); clear hm1 hf1 hb1)
  go_loopw [10, 11] (fun z i wr => ∃ (i' : Nat) (z' : Int), i' ≤ l.length ∧ i = .int .i64 (i' : Int) ∧ z = .int .i64 z' ∧ Hid (OneM W wr p (build (seeL nn i'))) ∧ Hid (LastIs nn c s i' z')) (fun _ i _ => l.length - (intOf i).toNat)
  case atStart => exact ⟨0, -1, Nat.zero_le _, rfl, rfl, HON0, Lib.hid (last_start nn c s)⟩
  case round =>
    obtain ⟨i, z, hi, rfl, rfl, HOR, HLA⟩ := hrel
    by_cases hlt : i < l.length
    · obtain ⟨nb, no, hna, hnb, x0⟩ := X0.out i hlt
      obtain ⟨hb, ho, hha, hhb, x4, _⟩ := X1.out i (by omega)
      subst hna hha
      have hni : (l.getD i 0).toNat = nn i := by rw [HNN.out]
      have hnl : nn i ≤ 255 := by rw [← hni]; have := (l.getD i 0).toNat_lt; omega
      rw [hni] at x0
      have hlh : (i : Int) < (hs.length : Int) := by omega
      generalize hs.getD i 0 = hgt at *
      clear hni
      have hm5 : ((nn i : Nat) : Int).tmod 5 = ((nn i % 5 : Nat) : Int) := by rw [Int.tmod_eq_emod_of_nonneg (by omega)]; omega
      have hT := u_add (nn i % 5)
      have hll := digL_len (nn i % 5)
      have hlim : ¬ 9223372036854775807 < 1 + (digL (nn i % 5)).length := by omega
      obtain ⟨w5, hw5⟩ : ∃ w5, w5 = wr.drew := ⟨_, rfl⟩
      have hon5 : OneM W w5 p (build (seeL nn i)) := by rw [hw5]; exact HOR.out.below (Below.refl _ _).drew
      have Hw5 := Lib.hid hw5
      have HON := Lib.hid hon5
      clear hw5 hon5
      go_wp2
      refine wp_region_two (fun wz => Below W.heap.size W wz) (fun wz => Below W.heap.size W wz) [(0, 0), (0, 1), (0, 2), (0, 3), (0, 4), (0, 5), (0, 6), (0, 9), (0, 11), (0, 14), (0, 15), (0, 16), (0, 17), (2, 7), (0, 8), (0, 10), (2, 12), (0, 13), (2, 18), (0, 19)] [] (by kernel_rfl) (by kernel_rfl) (by kernel_rfl) (by kernel_rfl) (by kernel_rfl) (by rw [← Hw5.out]; exact HON.out.bel) (by rw [← Hw5.out]; exact HON.out.bel) ?_
      simp only [planT, List.drop_succ_cons, List.drop_zero]
      rw [← Hw5.out]
      refine PlanT.take0 (v := ?vR0) (by kernel_rfl) ?yR0 ?rR0
      case yR0 => (intro wz hz; go_simp; try with_reducible rfl)
      (try simp only [Act.put, List.setIfInBounds_toArray, List.set_cons_zero, List.set_cons_succ])
      refine PlanT.take0 (v := ?vR1) (by kernel_rfl) ?yR1 ?rR1
      case yR1 => (intro wz hz; go_simp; try with_reducible rfl)
      (try simp only [Act.put, List.setIfInBounds_toArray, List.set_cons_zero, List.set_cons_succ])
      refine PlanT.take0 (v := ?vR2) (by kernel_rfl) ?yR2 ?rR2
      case yR2 => (intro wz hz; go_simp; try with_reducible rfl)
      (try simp only [Act.put, List.setIfInBounds_toArray, List.set_cons_zero, List.set_cons_succ])
      refine PlanT.take0 (v := ?vR3) (by kernel_rfl) ?yR3 ?rR3
      case yR3 => (intro wz hz; go_simp; try with_reducible rfl)
      (try simp only [Act.put, List.setIfInBounds_toArray, List.set_cons_zero, List.set_cons_succ])
      refine PlanT.take0 (v := ?vR4) (by kernel_rfl) ?yR4 ?rR4
      case yR4 => (intro wz hz; have k0 := (hz.cell (p := ⟨nb, no + i, none⟩) hnb).trans x0; go_simp; try with_reducible rfl)
      (try simp only [Act.put, List.setIfInBounds_toArray, List.set_cons_zero, List.set_cons_succ])
      refine PlanT.take0 (v := .int .i64 (nn i : Int)) (by kernel_rfl) ?yR5 ?rR5
      case yR5 => (intro wz hz; go_simp; exact IntWalk.i64_in _ (by omega))
      (try simp only [Act.put, List.setIfInBounds_toArray, List.set_cons_zero, List.set_cons_succ])
      refine PlanT.take0 (v := .int .i64 ((nn i % 5 : Nat) : Int)) (by kernel_rfl) ?yR6 ?rR6
      case yR6 => (intro wz hz; go_simp)
      (try simp only [Act.put, List.setIfInBounds_toArray, List.set_cons_zero, List.set_cons_succ])
      refine PlanT.take0 (v := ?vR9) (by kernel_rfl) ?yR9 ?rR9
      case yR9 => (intro wz hz; go_simp; try with_reducible rfl)
      (try simp only [Act.put, List.setIfInBounds_toArray, List.set_cons_zero, List.set_cons_succ])
      refine PlanT.take0 (v := ?vR11) (by kernel_rfl) ?yR11 ?rR11
      case yR11 => (intro wz hz; go_simp; try with_reducible rfl)
      (try simp only [Act.put, List.setIfInBounds_toArray, List.set_cons_zero, List.set_cons_succ])
      refine PlanT.take0 (v := ?vR14) (by kernel_rfl) ?yR14 ?rR14
      case yR14 => (intro wz hz; go_simp; try with_reducible rfl)
      (try simp only [Act.put, List.setIfInBounds_toArray, List.set_cons_zero, List.set_cons_succ])
      refine PlanT.take0 (v := ?vR15) (by kernel_rfl) ?yR15 ?rR15
      case yR15 => (intro wz hz; go_simp; try with_reducible rfl)
      (try simp only [Act.put, List.setIfInBounds_toArray, List.set_cons_zero, List.set_cons_succ])
      refine PlanT.take0 (v := ?vR16) (by kernel_rfl) ?yR16 ?rR16
      case yR16 => (intro wz hz; go_simp; try with_reducible rfl)
      (try simp only [Act.put, List.setIfInBounds_toArray, List.set_cons_zero, List.set_cons_succ])
      refine PlanT.take0 (v := ?vR17) (by kernel_rfl) ?yR17 ?rR17
      case yR17 => (intro wz hz; have k4 := (hz.cell (p := ⟨hb, ho + i, none⟩) hhb).trans x4; go_simp; try with_reducible rfl)
      (try simp only [Act.put, List.setIfInBounds_toArray, List.set_cons_zero, List.set_cons_succ])
      refine PlanT.exec2 (fun K hK => ⟨by kernel_rfl, ?_⟩)
      go_simp
      go_at_call 19
      (refine (rdigits_any (nn i % 5) (by omega) _).mono ?_)
      rintro r u1 ⟨rfl, hbd⟩
      have HO1 := Lib.hid (HON.out.below hbd)
      clear hbd
      go_wp2_with fail
      refine hK.out _ _ HO1.out.bel HO1.out.bel ?_
      clear hK K
      (try simp only [Act.put, List.setIfInBounds_toArray, List.set_cons_zero, List.set_cons_succ])
      refine PlanT.take0 (v := .string (strB (117 :: digL (nn i % 5)))) (by kernel_rfl) ?yR8 ?rR8
      case yR8 => (intro wz hz; go_simp; try with_reducible rfl)
      (try simp only [Act.put, List.setIfInBounds_toArray, List.set_cons_zero, List.set_cons_succ])
      refine PlanT.take0 (v := ?vR10) (by kernel_rfl) ?yR10 ?rR10
      case yR10 => (intro wz hz; go_simp; try with_reducible rfl)
      (try simp only [Act.put, List.setIfInBounds_toArray, List.set_cons_zero, List.set_cons_succ])
      refine PlanT.exec2 (fun K hK => ⟨by kernel_rfl, ?_⟩)
      go_simp
      go_at_call 19
      (refine (rdigits_any i (by omega) _).mono ?_)
      rintro r u2 ⟨rfl, hbd⟩
      have HO2 := Lib.hid (HO1.out.below hbd)
      clear hbd
      go_wp2_with fail
      refine hK.out _ _ HO2.out.bel HO2.out.bel ?_
      clear hK K
      (try simp only [Act.put, List.setIfInBounds_toArray, List.set_cons_zero, List.set_cons_succ])
      refine PlanT.take0 (v := ?vR13) (by kernel_rfl) ?yR13 ?rR13
      case yR13 => (intro wz hz; go_simp; try with_reducible rfl)
      (try simp only [Act.put, List.setIfInBounds_toArray, List.set_cons_zero, List.set_cons_succ])
      refine PlanT.exec2 (fun K hK => ⟨by kernel_rfl, ?_⟩)
      go_simp
      go_at_call 9
      (refine (see_call HO2.out (show i < 100 by omega) hgt).mono ?_)
      rintro r u3 ⟨rfl, ha3⟩
      have HO3 := Lib.hid ha3
      clear ha3
      go_wp2_with fail
      refine hK.out _ _ HO3.out.bel HO3.out.bel ?_
      clear hK K
      (try simp only [Act.put, List.setIfInBounds_toArray, List.set_cons_zero, List.set_cons_succ])
      refine PlanT.take0 (v := ?vR19) (by kernel_rfl) ?yR19 ?rR19
      case yR19 => (intro wz hz; go_simp; try with_reducible rfl)
      (try simp only [Act.put, List.setIfInBounds_toArray, List.set_cons_zero, List.set_cons_succ])
      refine PlanT.done (NoPanic.normal ?_)
      have x0' := (HO3.out.bel.cell (p := ⟨nb, no + i, none⟩) hnb).trans x0
      have hnb3 : nb < u3.heap.size := Nat.lt_of_lt_of_le hnb HO3.out.bel.size
      clear hT hlim hll
      by_cases hM : SeeM nn c s i
      · have HL2 := Lib.hid (last_yes hM)
        obtain ⟨m1, m2⟩ := hM
        have m1' : (i : Int) ≤ (s : Int) := by omega
        rw [m2] at hm5
        go_wp2
        refine ⟨⟨i + 1, (i : Int), hlt, by go_num, rfl, HO3, HL2⟩, ?_⟩
        simp [intOf]; omega
      · have HL2 := Lib.hid (last_no hM HLA.out)
        by_cases hle : i ≤ s
        · have hle' : (i : Int) ≤ (s : Int) := by omega
          have hnc : ¬ nn i % 5 = c := fun h => hM ⟨hle, h⟩
          generalize nn i % 5 = d at *
          have hdc : ¬ (d : Int) = (c : Int) := by omega
          clear hM
          go_wp2
          refine ⟨⟨i + 1, z, hlt, by go_num, rfl, HO3, HL2⟩, ?_⟩
          simp [intOf]; omega
        · have hle' : ¬ (i : Int) ≤ (s : Int) := by omega
          have hle2 : (s : Int) < (i : Int) := by omega
          clear hM
          go_wp2
          refine ⟨⟨i + 1, z, hlt, by go_num, rfl, HO3, HL2⟩, ?_⟩
          simp [intOf]; omega
    · have hie : i = l.length := by omega
      have HSN := Lib.hid (see_newest (by omega : i ≤ 100) hc' HLA.out)
      have hT := u_add c
      have hll := digL_len c
      have hlim : ¬ 9223372036854775807 < 1 + (digL c).length := by omega
      have HUS : Hid ((strB (117 :: digL c)).size ≤ maxLen) := Lib.hid (by rw [strB_size]; simp only [List.length_cons]; unfold maxLen; omega)
      have HSW : Hid ((Lit.int .i64 (s : Int)).wf = true) := Lib.hid (by simp only [Lit.wf, IntKind.min, IntKind.max, IntKind.signed, IntKind.bits]; simp; omega)
      clear hie
      rcases HSN.out with ⟨rfl, hnw⟩ | ⟨j, hj, rfl, hnw⟩
      · have HNW := Lib.hid hnw
        clear hnw HSN HLA
        go_wp2_with (first | (go_at_call 19; (refine (rdigits_any c (by omega) _).mono ?_); rintro r u1 ⟨rfl, hbd⟩; (have HO1 := Lib.hid (HOR.out.below hbd)); clear hbd) | (go_at_call 16; (refine (om_get HO1.out (strB (117 :: digL c)) (s : Int) HUS.out HSW.out).mono ?_); rintro r u2 ⟨rfl, hbg⟩; rw [HNW.out]; unfold ansN; (have HO2 := Lib.hid (HO1.out.below hbg)); clear hbg) | (go_at_call 7; (refine (awake10_any _).mono ?_); rintro r wZ ⟨rfl, hbZ⟩))
        go_ret
        exact ⟨rfl, belowT (HO2.out.bel.alloc HO2.out.bel.size _) hbZ⟩
      · have HNW := Lib.hid hnw
        have hj0 : ¬ (j : Int) < 0 := by omega
        have hjl : j ≤ 60 := by omega
        clear hnw HSN HLA
        go_wp2_with (first | (go_at_call 19; (refine (rdigits_any c (by omega) _).mono ?_); rintro r u1 ⟨rfl, hbd⟩; (have HO1 := Lib.hid (HOR.out.below hbd)); clear hbd) | (go_at_call 16; (refine (om_get HO1.out (strB (117 :: digL c)) (s : Int) HUS.out HSW.out).mono ?_); rintro r u2 ⟨rfl, hbg⟩; rw [HNW.out]; unfold ansN; (have HO2 := Lib.hid (HO1.out.below hbg)); clear hbg))
        obtain ⟨w5, hw5⟩ : ∃ w5, w5 = u2.alloc (.cells #[.string (strB (117 :: digL c)), .int .i64 (j : Int), .int .i64 1, .string (strB (digL j))] 34) := ⟨_, rfl⟩
        rw [← hw5]
        have hg : w5.heap[u2.heap.size]? = some (.cells #[.string (strB (117 :: digL c)), .int .i64 (j : Int), .int .i64 1, .string (strB (digL j))] 34 (0, 0)) := by rw [hw5]; exact heap_alloc_new u2 _
        have HB5 : Hid (Below W.heap.size W w5) := Lib.hid (by rw [hw5]; exact HO2.out.bel.alloc HO2.out.bel.size _)
        have g1 := blk_cell (i := 1) hg
        have g3 := blk_cell (i := 3) hg
        clear hw5 hg
        refine wp_region_plan [(true, 0), (true, 1), (true, 2), (true, 3), (true, 4), (true, 5), (true, 6), (true, 7), (true, 8), (true, 9), (true, 10), (true, 11), (false, 12), (true, 13), (true, 14), (true, 15), (false, 16), (true, 17), (true, 18)] (by kernel_rfl) (by kernel_rfl) (by kernel_rfl) (by kernel_rfl) (by kernel_rfl) ?_
        simp only [planO, List.drop_succ_cons, List.drop_zero]
        refine PlanO.take (v := ?vS0) (by kernel_rfl) ?yS0 ?rS0
        case yS0 => (intro wz hz; go_simp; try with_reducible rfl)
        (try simp only [Act.put, List.setIfInBounds_toArray, List.set_cons_zero, List.set_cons_succ])
        refine PlanO.take (v := ?vS1) (by kernel_rfl) ?yS1 ?rS1
        case yS1 => (intro wz hz; go_simp; try with_reducible rfl)
        (try simp only [Act.put, List.setIfInBounds_toArray, List.set_cons_zero, List.set_cons_succ])
        refine PlanO.take (v := ?vS2) (by kernel_rfl) ?yS2 ?rS2
        case yS2 => (intro wz hz; go_simp; try with_reducible rfl)
        (try simp only [Act.put, List.setIfInBounds_toArray, List.set_cons_zero, List.set_cons_succ])
        refine PlanO.take (v := ?vS3) (by kernel_rfl) ?yS3 ?rS3
        case yS3 => (intro wz hz; go_simp; try with_reducible rfl)
        (try simp only [Act.put, List.setIfInBounds_toArray, List.set_cons_zero, List.set_cons_succ])
        refine PlanO.take (v := ?vS4) (by kernel_rfl) ?yS4 ?rS4
        case yS4 => (intro wz hz; have k1 := Ext.at_ hz g1; go_simp; try with_reducible rfl)
        (try simp only [Act.put, List.setIfInBounds_toArray, List.set_cons_zero, List.set_cons_succ])
        refine PlanO.take (v := ?vS5) (by kernel_rfl) ?yS5 ?rS5
        case yS5 => (intro wz hz; go_simp; try with_reducible rfl)
        (try simp only [Act.put, List.setIfInBounds_toArray, List.set_cons_zero, List.set_cons_succ])
        refine PlanO.take (v := .bool true) (by kernel_rfl) ?yS6 ?rS6
        case yS6 => (intro wz hz; go_simp; try with_reducible rfl)
        (try simp only [Act.put, List.setIfInBounds_toArray, List.set_cons_zero, List.set_cons_succ])
        refine PlanO.take (v := ?vS7) (by kernel_rfl) ?yS7 ?rS7
        case yS7 => (intro wz hz; go_simp; try with_reducible rfl)
        (try simp only [Act.put, List.setIfInBounds_toArray, List.set_cons_zero, List.set_cons_succ])
        refine PlanO.take (v := ?vS8) (by kernel_rfl) ?yS8 ?rS8
        case yS8 => (intro wz hz; go_simp; try with_reducible rfl)
        (try simp only [Act.put, List.setIfInBounds_toArray, List.set_cons_zero, List.set_cons_succ])
        refine PlanO.take (v := ?vS9) (by kernel_rfl) ?yS9 ?rS9
        case yS9 => (intro wz hz; go_simp; try with_reducible rfl)
        (try simp only [Act.put, List.setIfInBounds_toArray, List.set_cons_zero, List.set_cons_succ])
        refine PlanO.take (v := ?vS10) (by kernel_rfl) ?yS10 ?rS10
        case yS10 => (intro wz hz; have k3 := Ext.at_ hz g3; go_simp; try with_reducible rfl)
        (try simp only [Act.put, List.setIfInBounds_toArray, List.set_cons_zero, List.set_cons_succ])
        refine PlanO.take (v := ?vS11) (by kernel_rfl) ?yS11 ?rS11
        case yS11 => (intro wz hz; go_simp; try with_reducible rfl)
        (try simp only [Act.put, List.setIfInBounds_toArray, List.set_cons_zero, List.set_cons_succ])
        refine PlanO.exec (fun K hK => ?_)
        go_simp
        go_at_call 19
        (refine (rdigits_any j (by omega) _).mono ?_)
        rintro r u1 ⟨rfl, hbd⟩
        have hE1 : Ext w5.drew u1 := hbd
        go_wp2_with fail
        refine hK.out _ _ hbd ?_
        clear hK K
        (try simp only [Act.put, List.setIfInBounds_toArray, List.set_cons_zero, List.set_cons_succ])
        refine PlanO.take (v := .bool true) (by kernel_rfl) ?yS13 ?rS13
        case yS13 => (intro wz hz; go_simp; try with_reducible rfl)
        (try simp only [Act.put, List.setIfInBounds_toArray, List.set_cons_zero, List.set_cons_succ])
        refine PlanO.take (v := ?vS14) (by kernel_rfl) ?yS14 ?rS14
        case yS14 => (intro wz hz; go_simp; try with_reducible rfl)
        (try simp only [Act.put, List.setIfInBounds_toArray, List.set_cons_zero, List.set_cons_succ])
        refine PlanO.take (v := ?vS15) (by kernel_rfl) ?yS15 ?rS15
        case yS15 => (intro wz hz; go_simp; try with_reducible rfl)
        (try simp only [Act.put, List.setIfInBounds_toArray, List.set_cons_zero, List.set_cons_succ])
        refine PlanO.exec (fun K hK => ?_)
        go_simp
        go_at_call 7
        (refine (awake10_any _).mono ?_)
        rintro r u2 ⟨rfl, hba⟩
        have hE2 : Ext w5.drew u2 := Ext.trans hE1 hba
        go_wp2_with fail
        refine hK.out _ _ hba ?_
        clear hK K
        (try simp only [Act.put, List.setIfInBounds_toArray, List.set_cons_zero, List.set_cons_succ])
        refine PlanO.take (v := ?vS17) (by kernel_rfl) ?yS17 ?rS17
        case yS17 => (intro wz hz; go_simp; try with_reducible rfl)
        (try simp only [Act.put, List.setIfInBounds_toArray, List.set_cons_zero, List.set_cons_succ])
        refine PlanO.take (v := ?vS18) (by kernel_rfl) ?yS18 ?rS18
        case yS18 => (intro wz hz; go_simp; try with_reducible rfl)
        (try simp only [Act.put, List.setIfInBounds_toArray, List.set_cons_zero, List.set_cons_succ])
        refine PlanO.done (NoPanic.normal ?_)
        go_wp2
        go_ret
        exact ⟨rfl, HB5.out.trans ((below_draw10 hE2).mono HB5.out.size)⟩
end Go.Proofs.Ytjiefffmcohcbaa
