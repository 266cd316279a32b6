/-
  The walk of BatchBack: a batch that may be is told again, in its least form; what is read of bytes is told by just those.
-/
import Derived.Test.YtmcdkdoickbnlaaBatchSame
import Derived.Test.YtmcdkdoickbnlaaBatchAwake
import Derived.Test.YtmcdkdoickbnlaaRegion
import Derived.Deep.Cut
namespace Go.Proofs.Ytmcdkdoickbnlaa
open Go.RowKit

theorem mayBt_mk {s : Int} {N : List Ope} (h1 : 1 ≤ s) (h2 : s ≤ 9007199254740992) (h3 : mayOs N = 0) (h4 : normL N = N) : mayBt s N = true := by
  rw [← mayBt_all h1 h2 h3, h4]
  exact sameL_refl N

theorem putBat_no {s : Int} {N : List Ope} (h : mayOs N ≠ 0) : putBat s N = [] := by
  unfold putBat
  rw [← mayBt_ops (s := s) h]
  rfl

theorem putBat_pos {s : Int} {N : List Ope} (h : mayBt s N = true) : 0 < (putBat s N).length := by
  unfold putBat
  rw [if_pos h]
  unfold putBody
  have := List.length_pos_iff.2 (putL_ne s.toNat)
  simp only [List.length_append]
  omega

theorem getBat_nil : getBat [] = none := by
  unfold getBat
  have : batAt [] = none := by
    unfold batAt getAt
    simp
  rw [this]

theorem u32_bounds {a : Int} (h : (Lit.int .u32 a).wf = true) : 0 ≤ a ∧ a ≤ 4294967295 := by
  simpa [Lit.wf, IntKind.min, IntKind.max, IntKind.signed, IntKind.bits] using h

set_option maxRecDepth 100000 in
set_option maxHeartbeats 8000000 in
theorem batchBack_walk (v : Value) (l : List Ope) (seq : Int) (vb : Value) (bs : List UInt8) (W : World) (hv : RdO W v l) (wseq : (Lit.int .u32 seq).wf = true) (hb : RdB W vb bs) :
    Calls Try.prog 4 #[v, .int .u32 seq, vb] W fun e W' => e = .returned (.bool true) ∧ Below W.heap.size W W' := by
  obtain ⟨a, cap, rfl, hc1, hc2⟩ := hv.form
  obtain ⟨ab, capb, rfl, hcb1, hcb2⟩ := hb.form
  unfold maxLen at hc2 hcb2
  have bsq := u32_bounds wseq
  have hg := great_any (.slice a l.length cap) l W hv
  by_cases hgr : greatL l = true ∨ 3000 < bs.length
  · have HG := Lib.hid hg
    cases hgl : greatL l with
    | true =>
      rw [hgl] at HG
      clear hg hgr hgl hv hb
      go_enter Try.func4, Try.ntmps4
      go_wp2_with (first | (go_at_call 7; refine HG.out.mono ?_; rintro e w1 ⟨rfl, hb1⟩; have HB1 := Lib.hid hb1; clear hb1) | (go_at_call 8; refine (awake8_any _).mono ?_; rintro e w3 ⟨rfl, hb3⟩; have HB3 := Lib.hid (HB1.out.trans (hb3.mono HB1.out.size)); clear hb3))
      go_ret
      exact ⟨rfl, HB3.out⟩
    | false =>
      rw [hgl] at HG hgr
      have h3 : (3000 : Int) < (bs.length : Int) := by
        rcases hgr with h | h
        · cases h
        · omega
      clear hg hgr hgl hv hb
      go_enter Try.func4, Try.ntmps4
      go_wp2_with (first | (go_at_call 7; refine HG.out.mono ?_; rintro e w1 ⟨rfl, hb1⟩; have HB1 := Lib.hid hb1; clear hb1) | (go_at_call 8; refine (awake8_any _).mono ?_; rintro e w3 ⟨rfl, hb3⟩; have HB3 := Lib.hid (HB1.out.trans (hb3.mono HB1.out.size)); clear hb3))
      go_ret
      exact ⟨rfl, HB3.out⟩
  · have hgl : greatL l = false := by cases h : greatL l with | true => exact absurd (.inl h) hgr | false => rfl
    have h3 : (bs.length : Int) ≤ 3000 := by
      rcases Nat.lt_or_ge 3000 bs.length with h | h
      · exact absurd (.inr h) hgr
      · omega
    rw [hgl] at hg
    obtain ⟨hl60, _⟩ := greatL_false hgl
    have hnl := normL_len l
    have HG := Lib.hid hg
    have HV := Lib.hid hv
    have HVB := Lib.hid hb
    have HFN : Hid (∀ o ∈ normL l, o.fits) := Lib.hid fun o ho => hv.2 o (normL_mem ho)
    have HNN := Lib.hid (normL_norm l)
    have HNL : Hid ((normL l).length ≤ 100000) := Lib.hid (by omega)
    have hnorm := fun w (h : RdO w (.slice a l.length cap) l) => bnorm_any (.slice a l.length cap) l w h (by omega)
    generalize normL l = N at *
    have HNORM := Lib.hid hnorm
    clear hg hgr hgl hv hb hnorm
    obtain ⟨S, hS⟩ : ∃ S : Nat, (S : Int) = 1 + seq := ⟨(1 + seq).toNat, by omega⟩
    have hadd : IntKind.i64.wrap (1 + seq) = (S : Int) := by rw [IntWalk.i64_in _ (by omega)]; omega
    have hs1 : 1 ≤ (S : Int) := by omega
    have hs2 : (S : Int) ≤ 9007199254740992 := by omega
    clear hS
    have hways := mayOs_ways N
    generalize hmn : mayOs N = m at hways
    rcases hways with rfl | ⟨hm1, hm2⟩
    · have HMN : Hid (mayOs N = 0) := Lib.hid hmn
      have hmb := mayBt_mk hs1 hs2 hmn HNN.out
      have hgp : getBat (putBat (S : Int) N) = some (S, N) := getBat_put hmb
      have hput := fun (w : World) (v : Value) (h : RdO w v N) => bput_any (S : Int) v N w h HNL.out
      have hpp := putBat_pos hmb
      generalize putBat (S : Int) N = P at *
      have hpq : ((P.length : Int) == 0) = false := by simp; intro h; rw [h] at hpp; simp at hpp
      have HGP := Lib.hid hgp
      have HPUT := Lib.hid hput
      clear hmn hmb hpp hgp hput
      cases hgb : getBat bs with
      | none =>
        have HGB := Lib.hid hgb
        clear hgb
        go_enter Try.func4, Try.ntmps4
        go_upto_region 13 with (first | (go_at_call 7; refine HG.out.mono ?_; rintro e w1 ⟨rfl, hb1⟩; have HB1 := Lib.hid hb1; clear hb1) | (go_at_call 16; refine (HNORM.out _ (HV.out.below HB1.out (Nat.le_refl _))).mono ?_; rintro e w2 ⟨nv, rfl, ho2, hb2⟩; obtain ⟨na, ncap, rfl, hn1, hn2⟩ := ho2.form; have HN2 := Lib.hid (ho2.read HFN.out); have HB2 := Lib.hid (HB1.out.trans (hb2.mono HB1.out.size)); clear ho2 hb2) | (go_at_call 17; refine (HPUT.out _ _ (HN2.out.below ((Below.refl _ _).alloc (Nat.le_refl _) _) (Nat.le_refl _))).mono ?_; rintro e w3 ⟨pv, rfl, ho3, hb3⟩; obtain ⟨pa, pcap, rfl, _, _⟩ := ho3.read.form; have HP3 := Lib.hid ho3.read; have b0 := (hb3.cell (p := ⟨w2.heap.size, 0, none⟩) (by simp)).trans (by go_simp : _ = some (Value.int .i64 (S : Int))); have b1 := (hb3.cell (p := ⟨w2.heap.size, 1, none⟩) (by simp)).trans (by go_simp : _ = some (Value.slice na N.length ncap)); have hy3 : w2.heap.size < w3.heap.size := Nat.lt_of_lt_of_le (by simp) hb3.size; have HBC := Lib.hid (((Below.refl w2.heap.size w2).alloc (Nat.le_refl _) _).trans (hb3.mono (by simp))); clear ho3 hb3) | (go_at_call 9; with_reducible refine (bget_any _ _ _ HP3.out).mono ?_; rintro e w4 ⟨he, hb4⟩; rw [HGP.out] at he; unfold AnsGet at he; obtain ⟨xv, he, hox⟩ := he; obtain ⟨xa, xc, hxv, _, _⟩ := hox.form; subst hxv; subst he; have HX4 := Lib.hid (hox.read HFN.out); clear hox; have b0 := (hb4.cell (p := ⟨w2.heap.size, 0, none⟩) hy3).trans b0; have b1 := (hb4.cell (p := ⟨w2.heap.size, 1, none⟩) hy3).trans b1; have hy4 : w2.heap.size < w4.heap.size := Nat.lt_of_lt_of_le hy3 hb4.size; have HBC := Lib.hid (HBC.out.trans (hb4.mono HBC.out.size)); have HSZ := Lib.hid HBC.out.size; clear hb4) | (go_at_call 13; refine (bmay_any _ N _ (HN2.out.below (HBC.out.alloc HBC.out.size _) (Nat.le_refl _))).mono ?_; rw [HMN.out]; rintro e w5 ⟨rfl, hb5⟩; have x0 := (hb5.cell (p := ⟨w4.heap.size, 0, none⟩) (by simp)).trans (by go_simp : _ = some (Value.int .i64 (S : Int))); have x1 := (hb5.cell (p := ⟨w4.heap.size, 1, none⟩) (by simp)).trans (by go_simp : _ = some (Value.slice xa N.length xc)); have HX5 := Lib.hid ((HX4.out.below ((Below.refl _ _).alloc (Nat.le_refl _) _) (Nat.le_refl _)).below hb5 (Nat.le_refl _)); have b0 := (hb5.cell (p := ⟨w2.heap.size, 0, none⟩) (by simp; omega)).trans (by go_simp : _ = some (Value.int .i64 (S : Int))); have b1 := (hb5.cell (p := ⟨w2.heap.size, 1, none⟩) (by simp; omega)).trans (by go_simp : _ = some (Value.slice na N.length ncap)); have HBC := Lib.hid ((HBC.out.alloc HBC.out.size _).trans (hb5.mono (by have := HBC.out.size; simp; omega))); clear hb5) | (go_at_call 12; refine (num8_any _ _).mono ?_; rintro e wN ⟨rfl, rfl⟩) | (go_at_call 19; refine (rsameB_any _ _ _ _ N N _ HX5.out (HN2.out.below HBC.out (Nat.le_refl _))).mono ?_; rw [sameL_refl, show ((S : Int) == (S : Int) && true) = true by simp]; rintro e w6 ⟨rfl, hb6⟩; have HBC := Lib.hid (HBC.out.trans (hb6.mono HBC.out.size)); clear hb6) | (go_at_call 9; refine (bget_any _ _ _ (HVB.out.below (HB2.out.trans (HBC.out.mono HB2.out.size)) (Nat.le_refl _))).mono ?_; rintro e w7 ⟨he, hb7⟩; rw [HGB.out] at he; unfold AnsGet at he; subst he; have HB7 := Lib.hid (HB2.out.trans ((HBC.out.trans (hb7.mono HBC.out.size)).mono HB2.out.size)); clear hb7))
        obtain ⟨w9, hw9⟩ : ∃ w9, w9 = w7.alloc (.cells #[.int .i64 0, .slice none 0 0] 24) := ⟨_, rfl⟩
        rw [← hw9]
        have e0 : w9.cell? ⟨w7.heap.size, 0, none⟩ = some (.int .i64 0) := by rw [hw9]; go_simp
        have e1 : w9.cell? ⟨w7.heap.size, 1, none⟩ = some (.slice none 0 0) := by rw [hw9]; go_simp
        have HB9 : Hid (Below W.heap.size W w9) := Lib.hid (by rw [hw9]; exact HB7.out.alloc HB7.out.size _)
        clear hw9
        refine wp_region_plan [(true, 0), (true, 1), (true, 2), (true, 3), (true, 6), (true, 7), (false, 4), (true, 5), (true, 8), (true, 9), (true, 10), (true, 11), (true, 12), (true, 13), (true, 14), (true, 15), (true, 16), (true, 17), (true, 18), (true, 19), (true, 20), (true, 21), (true, 22), (true, 23), (true, 24), (false, 25), (true, 26), (true, 27)] (by kernel_rfl) (by kernel_rfl) (by kernel_rfl) (by kernel_rfl) (by kernel_rfl) ?_
        simp only [planO, List.drop_succ_cons, List.drop_zero]
        refine PlanO.take (v := ?vbk0) (by kernel_rfl) ?ybk0 ?rbk0
        case ybk0 => (intro wz hz; go_simp; try with_reducible rfl)
        (try simp only [Act.put, List.setIfInBounds_toArray, List.set_cons_zero, List.set_cons_succ])
        refine PlanO.take (v := ?vbk1) (by kernel_rfl) ?ybk1 ?rbk1
        case ybk1 => (intro wz hz; go_simp; try with_reducible rfl)
        (try simp only [Act.put, List.setIfInBounds_toArray, List.set_cons_zero, List.set_cons_succ])
        refine PlanO.take (v := ?vbk2) (by kernel_rfl) ?ybk2 ?rbk2
        case ybk2 => (intro wz hz; go_simp; try with_reducible rfl)
        (try simp only [Act.put, List.setIfInBounds_toArray, List.set_cons_zero, List.set_cons_succ])
        refine PlanO.skip (by kernel_rfl) ?_
        (try simp only [Act.put, List.setIfInBounds_toArray, List.set_cons_zero, List.set_cons_succ])
        refine PlanO.skip (by kernel_rfl) ?_
        (try simp only [Act.put, List.setIfInBounds_toArray, List.set_cons_zero, List.set_cons_succ])
        refine PlanO.skip (by kernel_rfl) ?_
        (try simp only [Act.put, List.setIfInBounds_toArray, List.set_cons_zero, List.set_cons_succ])
        refine PlanO.skip (by kernel_rfl) ?_
        (try simp only [Act.put, List.setIfInBounds_toArray, List.set_cons_zero, List.set_cons_succ])
        refine PlanO.skip (by kernel_rfl) ?_
        (try simp only [Act.put, List.setIfInBounds_toArray, List.set_cons_zero, List.set_cons_succ])
        refine PlanO.skip (by kernel_rfl) ?_
        (try simp only [Act.put, List.setIfInBounds_toArray, List.set_cons_zero, List.set_cons_succ])
        refine PlanO.take (v := ?vbk9) (by kernel_rfl) ?ybk9 ?rbk9
        case ybk9 => (intro wz hz; go_simp; try with_reducible rfl)
        (try simp only [Act.put, List.setIfInBounds_toArray, List.set_cons_zero, List.set_cons_succ])
        refine PlanO.take (v := ?vbk10) (by kernel_rfl) ?ybk10 ?rbk10
        case ybk10 => (intro wz hz; go_simp; try with_reducible rfl)
        (try simp only [Act.put, List.setIfInBounds_toArray, List.set_cons_zero, List.set_cons_succ])
        refine PlanO.take (v := ?vbk11) (by kernel_rfl) ?ybk11 ?rbk11
        case ybk11 => (intro wz hz; go_simp; try with_reducible rfl)
        (try simp only [Act.put, List.setIfInBounds_toArray, List.set_cons_zero, List.set_cons_succ])
        refine PlanO.take (v := ?vbk12) (by kernel_rfl) ?ybk12 ?rbk12
        case ybk12 => (intro wz hz; go_simp; try with_reducible rfl)
        (try simp only [Act.put, List.setIfInBounds_toArray, List.set_cons_zero, List.set_cons_succ])
        refine PlanO.take (v := ?vbk13) (by kernel_rfl) ?ybk13 ?rbk13
        case ybk13 => (intro wz hz; go_simp; try with_reducible rfl)
        (try simp only [Act.put, List.setIfInBounds_toArray, List.set_cons_zero, List.set_cons_succ])
        refine PlanO.take (v := ?vbk14) (by kernel_rfl) ?ybk14 ?rbk14
        case ybk14 => (intro wz hz; have c0 := Ext.at_ hz e0; have c1 := Ext.at_ hz e1; go_simp; try with_reducible rfl)
        (try simp only [Act.put, List.setIfInBounds_toArray, List.set_cons_zero, List.set_cons_succ])
        refine PlanO.take (v := ?vbk15) (by kernel_rfl) ?ybk15 ?rbk15
        case ybk15 => (intro wz hz; go_simp; try with_reducible rfl)
        (try simp only [Act.put, List.setIfInBounds_toArray, List.set_cons_zero, List.set_cons_succ])
        refine PlanO.take (v := ?vbk16) (by kernel_rfl) ?ybk16 ?rbk16
        case ybk16 => (intro wz hz; go_simp; try with_reducible rfl)
        (try simp only [Act.put, List.setIfInBounds_toArray, List.set_cons_zero, List.set_cons_succ])
        refine PlanO.take (v := ?vbk17) (by kernel_rfl) ?ybk17 ?rbk17
        case ybk17 => (intro wz hz; go_simp; try with_reducible rfl)
        (try simp only [Act.put, List.setIfInBounds_toArray, List.set_cons_zero, List.set_cons_succ])
        refine PlanO.take (v := ?vbk18) (by kernel_rfl) ?ybk18 ?rbk18
        case ybk18 => (intro wz hz; have c0 := Ext.at_ hz e0; have c1 := Ext.at_ hz e1; go_simp; try with_reducible rfl)
        (try simp only [Act.put, List.setIfInBounds_toArray, List.set_cons_zero, List.set_cons_succ])
        refine PlanO.take (v := ?vbk19) (by kernel_rfl) ?ybk19 ?rbk19
        case ybk19 => (intro wz hz; go_simp; try with_reducible rfl)
        (try simp only [Act.put, List.setIfInBounds_toArray, List.set_cons_zero, List.set_cons_succ])
        refine PlanO.take (v := ?vbk20) (by kernel_rfl) ?ybk20 ?rbk20
        case ybk20 => (intro wz hz; go_simp; try with_reducible rfl)
        (try simp only [Act.put, List.setIfInBounds_toArray, List.set_cons_zero, List.set_cons_succ])
        refine PlanO.take (v := ?vbk21) (by kernel_rfl) ?ybk21 ?rbk21
        case ybk21 => (intro wz hz; go_simp; try with_reducible rfl)
        (try simp only [Act.put, List.setIfInBounds_toArray, List.set_cons_zero, List.set_cons_succ])
        refine PlanO.take (v := ?vbk22) (by kernel_rfl) ?ybk22 ?rbk22
        case ybk22 => (intro wz hz; go_simp; try with_reducible rfl)
        (try simp only [Act.put, List.setIfInBounds_toArray, List.set_cons_zero, List.set_cons_succ])
        refine PlanO.take (v := ?vbk23) (by kernel_rfl) ?ybk23 ?rbk23
        case ybk23 => (intro wz hz; go_simp; try with_reducible rfl)
        (try simp only [Act.put, List.setIfInBounds_toArray, List.set_cons_zero, List.set_cons_succ])
        refine PlanO.take (v := ?vbk24) (by kernel_rfl) ?ybk24 ?rbk24
        case ybk24 => (intro wz hz; go_simp; try with_reducible rfl)
        (try simp only [Act.put, List.setIfInBounds_toArray, List.set_cons_zero, List.set_cons_succ])
        refine PlanO.exec (fun K hK => ?_)
        go_simp
        go_at_call 8
        refine (awake8_any _).mono ?_
        rintro e u2 ⟨rfl, hb6⟩
        have hE2 : Ext w9.drew u2 := hb6
        go_wp2_with fail
        refine hK.out _ _ hb6 ?_
        clear hK K
        (try simp only [Act.put, List.setIfInBounds_toArray, List.set_cons_zero, List.set_cons_succ])
        refine PlanO.take (v := ?vbk26) (by kernel_rfl) ?ybk26 ?rbk26
        case ybk26 => (intro wz hz; go_simp; try with_reducible rfl)
        (try simp only [Act.put, List.setIfInBounds_toArray, List.set_cons_zero, List.set_cons_succ])
        refine PlanO.take (v := ?vbk27) (by kernel_rfl) ?ybk27 ?rbk27
        case ybk27 => (intro wz hz; go_simp; try with_reducible rfl)
        (try simp only [Act.put, List.setIfInBounds_toArray, List.set_cons_zero, List.set_cons_succ])
        refine PlanO.done (NoPanic.normal ?_)
        go_wp2
        go_ret
        exact ⟨rfl, HB9.out.trans ((below_draw hE2).mono HB9.out.size)⟩
      | some x =>
        obtain ⟨ys, yo⟩ := x
        have HGB := Lib.hid hgb
        obtain ⟨hp1, hp2, hp3⟩ := getBat_some hgb
        obtain ⟨_, _, hp4, _⟩ := mayBt_true hp3
        have HPY := Lib.hid hp1
        have HYL : Hid (yo.length ≤ 100000) := Lib.hid (by have := (mayOs_zero hp4).2.1; omega)
        have HYF : Hid (∀ o ∈ yo, o.fits) := Lib.hid fun o ho => by
          obtain ⟨k1, k2, k3, _⟩ := mayO_zero ((mayOs_zero hp4).2.2 o ho)
          refine ⟨by rcases k1 with k | k <;> rw [k] <;> decide, by unfold maxLen; omega, by unfold maxLen; omega⟩
        clear hgb hp1 hp2 hp3 hp4
        go_enter Try.func4, Try.ntmps4
        go_upto_region 13 with (first | (go_at_call 7; refine HG.out.mono ?_; rintro e w1 ⟨rfl, hb1⟩; have HB1 := Lib.hid hb1; clear hb1) | (go_at_call 16; refine (HNORM.out _ (HV.out.below HB1.out (Nat.le_refl _))).mono ?_; rintro e w2 ⟨nv, rfl, ho2, hb2⟩; obtain ⟨na, ncap, rfl, hn1, hn2⟩ := ho2.form; have HN2 := Lib.hid (ho2.read HFN.out); have HB2 := Lib.hid (HB1.out.trans (hb2.mono HB1.out.size)); clear ho2 hb2) | (go_at_call 17; refine (HPUT.out _ _ (HN2.out.below ((Below.refl _ _).alloc (Nat.le_refl _) _) (Nat.le_refl _))).mono ?_; rintro e w3 ⟨pv, rfl, ho3, hb3⟩; obtain ⟨pa, pcap, rfl, _, _⟩ := ho3.read.form; have HP3 := Lib.hid ho3.read; have b0 := (hb3.cell (p := ⟨w2.heap.size, 0, none⟩) (by simp)).trans (by go_simp : _ = some (Value.int .i64 (S : Int))); have b1 := (hb3.cell (p := ⟨w2.heap.size, 1, none⟩) (by simp)).trans (by go_simp : _ = some (Value.slice na N.length ncap)); have hy3 : w2.heap.size < w3.heap.size := Nat.lt_of_lt_of_le (by simp) hb3.size; have HBC := Lib.hid (((Below.refl w2.heap.size w2).alloc (Nat.le_refl _) _).trans (hb3.mono (by simp))); clear ho3 hb3) | (go_at_call 9; with_reducible refine (bget_any _ _ _ HP3.out).mono ?_; rintro e w4 ⟨he, hb4⟩; rw [HGP.out] at he; unfold AnsGet at he; obtain ⟨xv, he, hox⟩ := he; obtain ⟨xa, xc, hxv, _, _⟩ := hox.form; subst hxv; subst he; have HX4 := Lib.hid (hox.read HFN.out); clear hox; have b0 := (hb4.cell (p := ⟨w2.heap.size, 0, none⟩) hy3).trans b0; have b1 := (hb4.cell (p := ⟨w2.heap.size, 1, none⟩) hy3).trans b1; have hy4 : w2.heap.size < w4.heap.size := Nat.lt_of_lt_of_le hy3 hb4.size; have HBC := Lib.hid (HBC.out.trans (hb4.mono HBC.out.size)); have HSZ := Lib.hid HBC.out.size; clear hb4) | (go_at_call 13; refine (bmay_any _ N _ (HN2.out.below (HBC.out.alloc HBC.out.size _) (Nat.le_refl _))).mono ?_; rw [HMN.out]; rintro e w5 ⟨rfl, hb5⟩; have x0 := (hb5.cell (p := ⟨w4.heap.size, 0, none⟩) (by simp)).trans (by go_simp : _ = some (Value.int .i64 (S : Int))); have x1 := (hb5.cell (p := ⟨w4.heap.size, 1, none⟩) (by simp)).trans (by go_simp : _ = some (Value.slice xa N.length xc)); have HX5 := Lib.hid ((HX4.out.below ((Below.refl _ _).alloc (Nat.le_refl _) _) (Nat.le_refl _)).below hb5 (Nat.le_refl _)); have b0 := (hb5.cell (p := ⟨w2.heap.size, 0, none⟩) (by simp; omega)).trans (by go_simp : _ = some (Value.int .i64 (S : Int))); have b1 := (hb5.cell (p := ⟨w2.heap.size, 1, none⟩) (by simp; omega)).trans (by go_simp : _ = some (Value.slice na N.length ncap)); have HBC := Lib.hid ((HBC.out.alloc HBC.out.size _).trans (hb5.mono (by have := HBC.out.size; simp; omega))); clear hb5) | (go_at_call 12; refine (num8_any _ _).mono ?_; rintro e wN ⟨rfl, rfl⟩) | (go_at_call 19; refine (rsameB_any _ _ _ _ N N _ HX5.out (HN2.out.below HBC.out (Nat.le_refl _))).mono ?_; rw [sameL_refl, show ((S : Int) == (S : Int) && true) = true by simp]; rintro e w6 ⟨rfl, hb6⟩; have HBC := Lib.hid (HBC.out.trans (hb6.mono HBC.out.size)); clear hb6) | (go_at_call 9; refine (bget_any _ _ _ (HVB.out.below (HB2.out.trans (HBC.out.mono HB2.out.size)) (Nat.le_refl _))).mono ?_; rintro e w7 ⟨he, hb7⟩; rw [HGB.out] at he; unfold AnsGet at he; obtain ⟨yv, he, hoy⟩ := he; obtain ⟨ya, yc, hyv, _, _⟩ := hoy.form; subst hyv; subst he; have HYO := Lib.hid (hoy.read HYF.out); clear hoy; have HB7 := Lib.hid (HB2.out.trans ((HBC.out.trans (hb7.mono HBC.out.size)).mono HB2.out.size)); clear hb7))
        obtain ⟨w9, hw9⟩ : ∃ w9, w9 = w7.alloc (.cells #[.int .i64 (ys : Int), .slice ya yo.length yc] 24) := ⟨_, rfl⟩
        rw [← hw9]
        have e0 : w9.cell? ⟨w7.heap.size, 0, none⟩ = some (.int .i64 (ys : Int)) := by rw [hw9]; go_simp
        have e1 : w9.cell? ⟨w7.heap.size, 1, none⟩ = some (.slice ya yo.length yc) := by rw [hw9]; go_simp
        have HB9 : Hid (Below W.heap.size W w9) := Lib.hid (by rw [hw9]; exact HB7.out.alloc HB7.out.size _)
        replace HYO : Hid (RdO w9 (.slice ya yo.length yc) yo) := Lib.hid (by rw [hw9]; exact HYO.out.below ((Below.refl _ _).alloc (Nat.le_refl _) _) (Nat.le_refl _))
        have HBY : Hid (RdB w9.drew (.slice ab bs.length capb) bs) := Lib.hid ((HVB.out.below HB9.out (Nat.le_refl _)).drew)
        clear hw9
        refine wp_region_plan [(true, 0), (true, 1), (true, 2), (true, 3), (true, 6), (true, 7), (false, 4), (true, 5), (true, 8), (true, 9), (true, 10), (true, 11), (true, 12), (true, 13), (true, 14), (true, 15), (true, 16), (true, 17), (true, 18), (true, 19), (true, 20), (true, 21), (true, 22), (true, 23), (true, 24), (false, 25), (true, 26), (true, 27)] (by kernel_rfl) (by kernel_rfl) (by kernel_rfl) (by kernel_rfl) (by kernel_rfl) ?_
        simp only [planO, List.drop_succ_cons, List.drop_zero]
        refine PlanO.take (v := ?vak0) (by kernel_rfl) ?yak0 ?rak0
        case yak0 => (intro wz hz; go_simp; try with_reducible rfl)
        (try simp only [Act.put, List.setIfInBounds_toArray, List.set_cons_zero, List.set_cons_succ])
        refine PlanO.take (v := ?vak1) (by kernel_rfl) ?yak1 ?rak1
        case yak1 => (intro wz hz; go_simp; try with_reducible rfl)
        (try simp only [Act.put, List.setIfInBounds_toArray, List.set_cons_zero, List.set_cons_succ])
        refine PlanO.take (v := ?vak2) (by kernel_rfl) ?yak2 ?rak2
        case yak2 => (intro wz hz; go_simp; try with_reducible rfl)
        (try simp only [Act.put, List.setIfInBounds_toArray, List.set_cons_zero, List.set_cons_succ])
        refine PlanO.take (v := ?vak3) (by kernel_rfl) ?yak3 ?rak3
        case yak3 => (intro wz hz; have c0 := Ext.at_ hz e0; have c1 := Ext.at_ hz e1; go_simp; try with_reducible rfl)
        (try simp only [Act.put, List.setIfInBounds_toArray, List.set_cons_zero, List.set_cons_succ])
        refine PlanO.take (v := ?vak6) (by kernel_rfl) ?yak6 ?rak6
        case yak6 => (intro wz hz; go_simp; try with_reducible rfl)
        (try simp only [Act.put, List.setIfInBounds_toArray, List.set_cons_zero, List.set_cons_succ])
        refine PlanO.take (v := .string (strB bs)) (by kernel_rfl) ?yak7 ?rak7
        case yak7 => (intro wz hz; have q1 := rdB_convert (P := Try.prog) (HBY.out.below hz (Nat.le_refl _)) 25 5 9 Try.underlying25 Try.underlying5 Try.underlying9; go_simp)
        (try simp only [Act.put, List.setIfInBounds_toArray, List.set_cons_zero, List.set_cons_succ])
        refine PlanO.exec (fun K hK => ?_)
        go_simp
        go_at_call 17
        refine (bput_any _ _ yo _ (HYO.out.below (Below.refl _ _).drew (Nat.le_refl _)) HYL.out).mono ?_
        rw [HPY.out]
        rintro e u1 ⟨p5, rfl, ho5, hb5⟩
        have HP5 := Lib.hid ho5.read
        have hE1 : Ext w9.drew u1 := hb5
        clear ho5
        go_wp2_with fail
        refine hK.out _ _ hb5 ?_
        clear hK K
        (try simp only [Act.put, List.setIfInBounds_toArray, List.set_cons_zero, List.set_cons_succ])
        refine PlanO.take (v := .string (strB bs)) (by kernel_rfl) ?yak5 ?rak5
        case yak5 => (intro wz hz; have q2 := rdB_convert (P := Try.prog) (HP5.out.below hz (Nat.le_refl _)) 25 5 9 Try.underlying25 Try.underlying5 Try.underlying9; go_simp)
        (try simp only [Act.put, List.setIfInBounds_toArray, List.set_cons_zero, List.set_cons_succ])
        refine PlanO.take (v := .bool true) (by kernel_rfl) ?yak8 ?rak8
        case yak8 => (intro wz hz; go_simp)
        (try simp only [Act.put, List.setIfInBounds_toArray, List.set_cons_zero, List.set_cons_succ])
        refine PlanO.take (v := ?vak9) (by kernel_rfl) ?yak9 ?rak9
        case yak9 => (intro wz hz; go_simp; try with_reducible rfl)
        (try simp only [Act.put, List.setIfInBounds_toArray, List.set_cons_zero, List.set_cons_succ])
        refine PlanO.take (v := ?vak10) (by kernel_rfl) ?yak10 ?rak10
        case yak10 => (intro wz hz; go_simp; try with_reducible rfl)
        (try simp only [Act.put, List.setIfInBounds_toArray, List.set_cons_zero, List.set_cons_succ])
        refine PlanO.take (v := ?vak11) (by kernel_rfl) ?yak11 ?rak11
        case yak11 => (intro wz hz; go_simp; try with_reducible rfl)
        (try simp only [Act.put, List.setIfInBounds_toArray, List.set_cons_zero, List.set_cons_succ])
        refine PlanO.take (v := ?vak12) (by kernel_rfl) ?yak12 ?rak12
        case yak12 => (intro wz hz; go_simp; try with_reducible rfl)
        (try simp only [Act.put, List.setIfInBounds_toArray, List.set_cons_zero, List.set_cons_succ])
        refine PlanO.skip (by kernel_rfl) ?_
        (try simp only [Act.put, List.setIfInBounds_toArray, List.set_cons_zero, List.set_cons_succ])
        refine PlanO.skip (by kernel_rfl) ?_
        (try simp only [Act.put, List.setIfInBounds_toArray, List.set_cons_zero, List.set_cons_succ])
        refine PlanO.skip (by kernel_rfl) ?_
        (try simp only [Act.put, List.setIfInBounds_toArray, List.set_cons_zero, List.set_cons_succ])
        refine PlanO.skip (by kernel_rfl) ?_
        (try simp only [Act.put, List.setIfInBounds_toArray, List.set_cons_zero, List.set_cons_succ])
        refine PlanO.skip (by kernel_rfl) ?_
        (try simp only [Act.put, List.setIfInBounds_toArray, List.set_cons_zero, List.set_cons_succ])
        refine PlanO.skip (by kernel_rfl) ?_
        (try simp only [Act.put, List.setIfInBounds_toArray, List.set_cons_zero, List.set_cons_succ])
        refine PlanO.skip (by kernel_rfl) ?_
        (try simp only [Act.put, List.setIfInBounds_toArray, List.set_cons_zero, List.set_cons_succ])
        refine PlanO.skip (by kernel_rfl) ?_
        (try simp only [Act.put, List.setIfInBounds_toArray, List.set_cons_zero, List.set_cons_succ])
        refine PlanO.skip (by kernel_rfl) ?_
        (try simp only [Act.put, List.setIfInBounds_toArray, List.set_cons_zero, List.set_cons_succ])
        refine PlanO.take (v := ?vak22) (by kernel_rfl) ?yak22 ?rak22
        case yak22 => (intro wz hz; go_simp; try with_reducible rfl)
        (try simp only [Act.put, List.setIfInBounds_toArray, List.set_cons_zero, List.set_cons_succ])
        refine PlanO.take (v := ?vak23) (by kernel_rfl) ?yak23 ?rak23
        case yak23 => (intro wz hz; go_simp; try with_reducible rfl)
        (try simp only [Act.put, List.setIfInBounds_toArray, List.set_cons_zero, List.set_cons_succ])
        refine PlanO.take (v := ?vak24) (by kernel_rfl) ?yak24 ?rak24
        case yak24 => (intro wz hz; go_simp; try with_reducible rfl)
        (try simp only [Act.put, List.setIfInBounds_toArray, List.set_cons_zero, List.set_cons_succ])
        refine PlanO.exec (fun K hK => ?_)
        go_simp
        go_at_call 8
        refine (awake8_any _).mono ?_
        rintro e u2 ⟨rfl, hb6⟩
        have hE2 : Ext w9.drew u2 := Ext.trans hE1 hb6
        go_wp2_with fail
        refine hK.out _ _ hb6 ?_
        clear hK K
        (try simp only [Act.put, List.setIfInBounds_toArray, List.set_cons_zero, List.set_cons_succ])
        refine PlanO.take (v := ?vak26) (by kernel_rfl) ?yak26 ?rak26
        case yak26 => (intro wz hz; go_simp; try with_reducible rfl)
        (try simp only [Act.put, List.setIfInBounds_toArray, List.set_cons_zero, List.set_cons_succ])
        refine PlanO.take (v := ?vak27) (by kernel_rfl) ?yak27 ?rak27
        case yak27 => (intro wz hz; go_simp; try with_reducible rfl)
        (try simp only [Act.put, List.setIfInBounds_toArray, List.set_cons_zero, List.set_cons_succ])
        refine PlanO.done (NoPanic.normal ?_)
        go_wp2
        go_ret
        exact ⟨rfl, HB9.out.trans ((below_draw hE2).mono HB9.out.size)⟩
    · have HMN : Hid (mayOs N = m) := Lib.hid hmn
      have hput := fun (w : World) (v : Value) (h : RdO w v N) => bput_any (S : Int) v N w h HNL.out
      rw [putBat_no (s := (S : Int)) (show mayOs N ≠ 0 by rw [hmn]; exact hm2)] at hput
      have HGP : Hid (getBat ([] : List UInt8) = none) := Lib.hid getBat_nil
      have HPUT := Lib.hid hput
      have hm3 : (m == 0) = false := by simpa using hm2
      clear hmn hm1 hm2 hput
      cases hgb : getBat bs with
      | none =>
        have HGB := Lib.hid hgb
        clear hgb
        go_enter Try.func4, Try.ntmps4
        go_upto_region 13 with (first | (go_at_call 7; refine HG.out.mono ?_; rintro e w1 ⟨rfl, hb1⟩; have HB1 := Lib.hid hb1; clear hb1) | (go_at_call 16; refine (HNORM.out _ (HV.out.below HB1.out (Nat.le_refl _))).mono ?_; rintro e w2 ⟨nv, rfl, ho2, hb2⟩; obtain ⟨na, ncap, rfl, hn1, hn2⟩ := ho2.form; have HN2 := Lib.hid (ho2.read HFN.out); have HB2 := Lib.hid (HB1.out.trans (hb2.mono HB1.out.size)); clear ho2 hb2) | (go_at_call 17; refine (HPUT.out _ _ (HN2.out.below ((Below.refl _ _).alloc (Nat.le_refl _) _) (Nat.le_refl _))).mono ?_; rintro e w3 ⟨pv, rfl, ho3, hb3⟩; obtain ⟨pa, pcap, rfl, _, _⟩ := ho3.read.form; have HP3 : Hid (RdB w3 (.slice pa 0 pcap) []) := Lib.hid ho3.read; have b0 := (hb3.cell (p := ⟨w2.heap.size, 0, none⟩) (by simp)).trans (by go_simp : _ = some (Value.int .i64 (S : Int))); have b1 := (hb3.cell (p := ⟨w2.heap.size, 1, none⟩) (by simp)).trans (by go_simp : _ = some (Value.slice na N.length ncap)); have hy3 : w2.heap.size < w3.heap.size := Nat.lt_of_lt_of_le (by simp) hb3.size; have HBC := Lib.hid (((Below.refl w2.heap.size w2).alloc (Nat.le_refl _) _).trans (hb3.mono (by simp))); clear ho3 hb3) | (go_at_call 9; with_reducible refine (bget_any _ _ _ HP3.out).mono ?_; rintro e w4 ⟨he, hb4⟩; rw [HGP.out] at he; unfold AnsGet at he; subst he; have b0 := (hb4.cell (p := ⟨w2.heap.size, 0, none⟩) hy3).trans b0; have b1 := (hb4.cell (p := ⟨w2.heap.size, 1, none⟩) hy3).trans b1; have hy4 : w2.heap.size < w4.heap.size := Nat.lt_of_lt_of_le hy3 hb4.size; have HBC := Lib.hid (HBC.out.trans (hb4.mono HBC.out.size)); have HSZ := Lib.hid HBC.out.size; clear hb4) | (go_at_call 13; refine (bmay_any _ N _ (HN2.out.below (HBC.out.alloc HBC.out.size _) (Nat.le_refl _))).mono ?_; rw [HMN.out]; rintro e w5 ⟨rfl, hb5⟩; skip; have b0 := (hb5.cell (p := ⟨w2.heap.size, 0, none⟩) (by simp; omega)).trans (by go_simp : _ = some (Value.int .i64 (S : Int))); have b1 := (hb5.cell (p := ⟨w2.heap.size, 1, none⟩) (by simp; omega)).trans (by go_simp : _ = some (Value.slice na N.length ncap)); have HBC := Lib.hid ((HBC.out.alloc HBC.out.size _).trans (hb5.mono (by have := HBC.out.size; simp; omega))); clear hb5) | (go_at_call 12; refine (num8_any _ _).mono ?_; rintro e wN ⟨rfl, rfl⟩) | (go_at_call 9; refine (bget_any _ _ _ (HVB.out.below (HB2.out.trans (HBC.out.mono HB2.out.size)) (Nat.le_refl _))).mono ?_; rintro e w7 ⟨he, hb7⟩; rw [HGB.out] at he; unfold AnsGet at he; subst he; have HB7 := Lib.hid (HB2.out.trans ((HBC.out.trans (hb7.mono HBC.out.size)).mono HB2.out.size)); clear hb7))
        obtain ⟨w9, hw9⟩ : ∃ w9, w9 = w7.alloc (.cells #[.int .i64 0, .slice none 0 0] 24) := ⟨_, rfl⟩
        rw [← hw9]
        have e0 : w9.cell? ⟨w7.heap.size, 0, none⟩ = some (.int .i64 0) := by rw [hw9]; go_simp
        have e1 : w9.cell? ⟨w7.heap.size, 1, none⟩ = some (.slice none 0 0) := by rw [hw9]; go_simp
        have HB9 : Hid (Below W.heap.size W w9) := Lib.hid (by rw [hw9]; exact HB7.out.alloc HB7.out.size _)
        clear hw9
        refine wp_region_plan [(true, 0), (true, 1), (true, 2), (true, 3), (true, 6), (true, 7), (false, 4), (true, 5), (true, 8), (true, 9), (true, 10), (true, 11), (true, 12), (true, 13), (true, 14), (true, 15), (true, 16), (true, 17), (true, 18), (true, 19), (true, 20), (true, 21), (true, 22), (true, 23), (true, 24), (false, 25), (true, 26), (true, 27)] (by kernel_rfl) (by kernel_rfl) (by kernel_rfl) (by kernel_rfl) (by kernel_rfl) ?_
        simp only [planO, List.drop_succ_cons, List.drop_zero]
        refine PlanO.take (v := ?vbn0) (by kernel_rfl) ?ybn0 ?rbn0
        case ybn0 => (intro wz hz; go_simp; try with_reducible rfl)
        (try simp only [Act.put, List.setIfInBounds_toArray, List.set_cons_zero, List.set_cons_succ])
        refine PlanO.take (v := ?vbn1) (by kernel_rfl) ?ybn1 ?rbn1
        case ybn1 => (intro wz hz; go_simp; try with_reducible rfl)
        (try simp only [Act.put, List.setIfInBounds_toArray, List.set_cons_zero, List.set_cons_succ])
        refine PlanO.take (v := ?vbn2) (by kernel_rfl) ?ybn2 ?rbn2
        case ybn2 => (intro wz hz; go_simp; try with_reducible rfl)
        (try simp only [Act.put, List.setIfInBounds_toArray, List.set_cons_zero, List.set_cons_succ])
        refine PlanO.skip (by kernel_rfl) ?_
        (try simp only [Act.put, List.setIfInBounds_toArray, List.set_cons_zero, List.set_cons_succ])
        refine PlanO.skip (by kernel_rfl) ?_
        (try simp only [Act.put, List.setIfInBounds_toArray, List.set_cons_zero, List.set_cons_succ])
        refine PlanO.skip (by kernel_rfl) ?_
        (try simp only [Act.put, List.setIfInBounds_toArray, List.set_cons_zero, List.set_cons_succ])
        refine PlanO.skip (by kernel_rfl) ?_
        (try simp only [Act.put, List.setIfInBounds_toArray, List.set_cons_zero, List.set_cons_succ])
        refine PlanO.skip (by kernel_rfl) ?_
        (try simp only [Act.put, List.setIfInBounds_toArray, List.set_cons_zero, List.set_cons_succ])
        refine PlanO.skip (by kernel_rfl) ?_
        (try simp only [Act.put, List.setIfInBounds_toArray, List.set_cons_zero, List.set_cons_succ])
        refine PlanO.take (v := ?vbn9) (by kernel_rfl) ?ybn9 ?rbn9
        case ybn9 => (intro wz hz; go_simp; try with_reducible rfl)
        (try simp only [Act.put, List.setIfInBounds_toArray, List.set_cons_zero, List.set_cons_succ])
        refine PlanO.take (v := ?vbn10) (by kernel_rfl) ?ybn10 ?rbn10
        case ybn10 => (intro wz hz; go_simp; try with_reducible rfl)
        (try simp only [Act.put, List.setIfInBounds_toArray, List.set_cons_zero, List.set_cons_succ])
        refine PlanO.take (v := ?vbn11) (by kernel_rfl) ?ybn11 ?rbn11
        case ybn11 => (intro wz hz; go_simp; try with_reducible rfl)
        (try simp only [Act.put, List.setIfInBounds_toArray, List.set_cons_zero, List.set_cons_succ])
        refine PlanO.take (v := ?vbn12) (by kernel_rfl) ?ybn12 ?rbn12
        case ybn12 => (intro wz hz; go_simp; try with_reducible rfl)
        (try simp only [Act.put, List.setIfInBounds_toArray, List.set_cons_zero, List.set_cons_succ])
        refine PlanO.take (v := ?vbn13) (by kernel_rfl) ?ybn13 ?rbn13
        case ybn13 => (intro wz hz; go_simp; try with_reducible rfl)
        (try simp only [Act.put, List.setIfInBounds_toArray, List.set_cons_zero, List.set_cons_succ])
        refine PlanO.take (v := ?vbn14) (by kernel_rfl) ?ybn14 ?rbn14
        case ybn14 => (intro wz hz; have c0 := Ext.at_ hz e0; have c1 := Ext.at_ hz e1; go_simp; try with_reducible rfl)
        (try simp only [Act.put, List.setIfInBounds_toArray, List.set_cons_zero, List.set_cons_succ])
        refine PlanO.take (v := ?vbn15) (by kernel_rfl) ?ybn15 ?rbn15
        case ybn15 => (intro wz hz; go_simp; try with_reducible rfl)
        (try simp only [Act.put, List.setIfInBounds_toArray, List.set_cons_zero, List.set_cons_succ])
        refine PlanO.take (v := ?vbn16) (by kernel_rfl) ?ybn16 ?rbn16
        case ybn16 => (intro wz hz; go_simp; try with_reducible rfl)
        (try simp only [Act.put, List.setIfInBounds_toArray, List.set_cons_zero, List.set_cons_succ])
        refine PlanO.take (v := ?vbn17) (by kernel_rfl) ?ybn17 ?rbn17
        case ybn17 => (intro wz hz; go_simp; try with_reducible rfl)
        (try simp only [Act.put, List.setIfInBounds_toArray, List.set_cons_zero, List.set_cons_succ])
        refine PlanO.take (v := ?vbn18) (by kernel_rfl) ?ybn18 ?rbn18
        case ybn18 => (intro wz hz; have c0 := Ext.at_ hz e0; have c1 := Ext.at_ hz e1; go_simp; try with_reducible rfl)
        (try simp only [Act.put, List.setIfInBounds_toArray, List.set_cons_zero, List.set_cons_succ])
        refine PlanO.take (v := ?vbn19) (by kernel_rfl) ?ybn19 ?rbn19
        case ybn19 => (intro wz hz; go_simp; try with_reducible rfl)
        (try simp only [Act.put, List.setIfInBounds_toArray, List.set_cons_zero, List.set_cons_succ])
        refine PlanO.take (v := ?vbn20) (by kernel_rfl) ?ybn20 ?rbn20
        case ybn20 => (intro wz hz; go_simp; try with_reducible rfl)
        (try simp only [Act.put, List.setIfInBounds_toArray, List.set_cons_zero, List.set_cons_succ])
        refine PlanO.take (v := ?vbn21) (by kernel_rfl) ?ybn21 ?rbn21
        case ybn21 => (intro wz hz; go_simp; try with_reducible rfl)
        (try simp only [Act.put, List.setIfInBounds_toArray, List.set_cons_zero, List.set_cons_succ])
        refine PlanO.take (v := ?vbn22) (by kernel_rfl) ?ybn22 ?rbn22
        case ybn22 => (intro wz hz; go_simp; try with_reducible rfl)
        (try simp only [Act.put, List.setIfInBounds_toArray, List.set_cons_zero, List.set_cons_succ])
        refine PlanO.take (v := ?vbn23) (by kernel_rfl) ?ybn23 ?rbn23
        case ybn23 => (intro wz hz; go_simp; try with_reducible rfl)
        (try simp only [Act.put, List.setIfInBounds_toArray, List.set_cons_zero, List.set_cons_succ])
        refine PlanO.take (v := ?vbn24) (by kernel_rfl) ?ybn24 ?rbn24
        case ybn24 => (intro wz hz; go_simp; try with_reducible rfl)
        (try simp only [Act.put, List.setIfInBounds_toArray, List.set_cons_zero, List.set_cons_succ])
        refine PlanO.exec (fun K hK => ?_)
        go_simp
        go_at_call 8
        refine (awake8_any _).mono ?_
        rintro e u2 ⟨rfl, hb6⟩
        have hE2 : Ext w9.drew u2 := hb6
        go_wp2_with fail
        refine hK.out _ _ hb6 ?_
        clear hK K
        (try simp only [Act.put, List.setIfInBounds_toArray, List.set_cons_zero, List.set_cons_succ])
        refine PlanO.take (v := ?vbn26) (by kernel_rfl) ?ybn26 ?rbn26
        case ybn26 => (intro wz hz; go_simp; try with_reducible rfl)
        (try simp only [Act.put, List.setIfInBounds_toArray, List.set_cons_zero, List.set_cons_succ])
        refine PlanO.take (v := ?vbn27) (by kernel_rfl) ?ybn27 ?rbn27
        case ybn27 => (intro wz hz; go_simp; try with_reducible rfl)
        (try simp only [Act.put, List.setIfInBounds_toArray, List.set_cons_zero, List.set_cons_succ])
        refine PlanO.done (NoPanic.normal ?_)
        go_wp2
        go_ret
        exact ⟨rfl, HB9.out.trans ((below_draw hE2).mono HB9.out.size)⟩
      | some x =>
        obtain ⟨ys, yo⟩ := x
        have HGB := Lib.hid hgb
        obtain ⟨hp1, hp2, hp3⟩ := getBat_some hgb
        obtain ⟨_, _, hp4, _⟩ := mayBt_true hp3
        have HPY := Lib.hid hp1
        have HYL : Hid (yo.length ≤ 100000) := Lib.hid (by have := (mayOs_zero hp4).2.1; omega)
        have HYF : Hid (∀ o ∈ yo, o.fits) := Lib.hid fun o ho => by
          obtain ⟨k1, k2, k3, _⟩ := mayO_zero ((mayOs_zero hp4).2.2 o ho)
          refine ⟨by rcases k1 with k | k <;> rw [k] <;> decide, by unfold maxLen; omega, by unfold maxLen; omega⟩
        clear hgb hp1 hp2 hp3 hp4
        go_enter Try.func4, Try.ntmps4
        go_upto_region 13 with (first | (go_at_call 7; refine HG.out.mono ?_; rintro e w1 ⟨rfl, hb1⟩; have HB1 := Lib.hid hb1; clear hb1) | (go_at_call 16; refine (HNORM.out _ (HV.out.below HB1.out (Nat.le_refl _))).mono ?_; rintro e w2 ⟨nv, rfl, ho2, hb2⟩; obtain ⟨na, ncap, rfl, hn1, hn2⟩ := ho2.form; have HN2 := Lib.hid (ho2.read HFN.out); have HB2 := Lib.hid (HB1.out.trans (hb2.mono HB1.out.size)); clear ho2 hb2) | (go_at_call 17; refine (HPUT.out _ _ (HN2.out.below ((Below.refl _ _).alloc (Nat.le_refl _) _) (Nat.le_refl _))).mono ?_; rintro e w3 ⟨pv, rfl, ho3, hb3⟩; obtain ⟨pa, pcap, rfl, _, _⟩ := ho3.read.form; have HP3 : Hid (RdB w3 (.slice pa 0 pcap) []) := Lib.hid ho3.read; have b0 := (hb3.cell (p := ⟨w2.heap.size, 0, none⟩) (by simp)).trans (by go_simp : _ = some (Value.int .i64 (S : Int))); have b1 := (hb3.cell (p := ⟨w2.heap.size, 1, none⟩) (by simp)).trans (by go_simp : _ = some (Value.slice na N.length ncap)); have hy3 : w2.heap.size < w3.heap.size := Nat.lt_of_lt_of_le (by simp) hb3.size; have HBC := Lib.hid (((Below.refl w2.heap.size w2).alloc (Nat.le_refl _) _).trans (hb3.mono (by simp))); clear ho3 hb3) | (go_at_call 9; with_reducible refine (bget_any _ _ _ HP3.out).mono ?_; rintro e w4 ⟨he, hb4⟩; rw [HGP.out] at he; unfold AnsGet at he; subst he; have b0 := (hb4.cell (p := ⟨w2.heap.size, 0, none⟩) hy3).trans b0; have b1 := (hb4.cell (p := ⟨w2.heap.size, 1, none⟩) hy3).trans b1; have hy4 : w2.heap.size < w4.heap.size := Nat.lt_of_lt_of_le hy3 hb4.size; have HBC := Lib.hid (HBC.out.trans (hb4.mono HBC.out.size)); have HSZ := Lib.hid HBC.out.size; clear hb4) | (go_at_call 13; refine (bmay_any _ N _ (HN2.out.below (HBC.out.alloc HBC.out.size _) (Nat.le_refl _))).mono ?_; rw [HMN.out]; rintro e w5 ⟨rfl, hb5⟩; skip; have b0 := (hb5.cell (p := ⟨w2.heap.size, 0, none⟩) (by simp; omega)).trans (by go_simp : _ = some (Value.int .i64 (S : Int))); have b1 := (hb5.cell (p := ⟨w2.heap.size, 1, none⟩) (by simp; omega)).trans (by go_simp : _ = some (Value.slice na N.length ncap)); have HBC := Lib.hid ((HBC.out.alloc HBC.out.size _).trans (hb5.mono (by have := HBC.out.size; simp; omega))); clear hb5) | (go_at_call 12; refine (num8_any _ _).mono ?_; rintro e wN ⟨rfl, rfl⟩) | (go_at_call 9; refine (bget_any _ _ _ (HVB.out.below (HB2.out.trans (HBC.out.mono HB2.out.size)) (Nat.le_refl _))).mono ?_; rintro e w7 ⟨he, hb7⟩; rw [HGB.out] at he; unfold AnsGet at he; obtain ⟨yv, he, hoy⟩ := he; obtain ⟨ya, yc, hyv, _, _⟩ := hoy.form; subst hyv; subst he; have HYO := Lib.hid (hoy.read HYF.out); clear hoy; have HB7 := Lib.hid (HB2.out.trans ((HBC.out.trans (hb7.mono HBC.out.size)).mono HB2.out.size)); clear hb7))
        obtain ⟨w9, hw9⟩ : ∃ w9, w9 = w7.alloc (.cells #[.int .i64 (ys : Int), .slice ya yo.length yc] 24) := ⟨_, rfl⟩
        rw [← hw9]
        have e0 : w9.cell? ⟨w7.heap.size, 0, none⟩ = some (.int .i64 (ys : Int)) := by rw [hw9]; go_simp
        have e1 : w9.cell? ⟨w7.heap.size, 1, none⟩ = some (.slice ya yo.length yc) := by rw [hw9]; go_simp
        have HB9 : Hid (Below W.heap.size W w9) := Lib.hid (by rw [hw9]; exact HB7.out.alloc HB7.out.size _)
        replace HYO : Hid (RdO w9 (.slice ya yo.length yc) yo) := Lib.hid (by rw [hw9]; exact HYO.out.below ((Below.refl _ _).alloc (Nat.le_refl _) _) (Nat.le_refl _))
        have HBY : Hid (RdB w9.drew (.slice ab bs.length capb) bs) := Lib.hid ((HVB.out.below HB9.out (Nat.le_refl _)).drew)
        clear hw9
        refine wp_region_plan [(true, 0), (true, 1), (true, 2), (true, 3), (true, 6), (true, 7), (false, 4), (true, 5), (true, 8), (true, 9), (true, 10), (true, 11), (true, 12), (true, 13), (true, 14), (true, 15), (true, 16), (true, 17), (true, 18), (true, 19), (true, 20), (true, 21), (true, 22), (true, 23), (true, 24), (false, 25), (true, 26), (true, 27)] (by kernel_rfl) (by kernel_rfl) (by kernel_rfl) (by kernel_rfl) (by kernel_rfl) ?_
        simp only [planO, List.drop_succ_cons, List.drop_zero]
        refine PlanO.take (v := ?van0) (by kernel_rfl) ?yan0 ?ran0
        case yan0 => (intro wz hz; go_simp; try with_reducible rfl)
        (try simp only [Act.put, List.setIfInBounds_toArray, List.set_cons_zero, List.set_cons_succ])
        refine PlanO.take (v := ?van1) (by kernel_rfl) ?yan1 ?ran1
        case yan1 => (intro wz hz; go_simp; try with_reducible rfl)
        (try simp only [Act.put, List.setIfInBounds_toArray, List.set_cons_zero, List.set_cons_succ])
        refine PlanO.take (v := ?van2) (by kernel_rfl) ?yan2 ?ran2
        case yan2 => (intro wz hz; go_simp; try with_reducible rfl)
        (try simp only [Act.put, List.setIfInBounds_toArray, List.set_cons_zero, List.set_cons_succ])
        refine PlanO.take (v := ?van3) (by kernel_rfl) ?yan3 ?ran3
        case yan3 => (intro wz hz; have c0 := Ext.at_ hz e0; have c1 := Ext.at_ hz e1; go_simp; try with_reducible rfl)
        (try simp only [Act.put, List.setIfInBounds_toArray, List.set_cons_zero, List.set_cons_succ])
        refine PlanO.take (v := ?van6) (by kernel_rfl) ?yan6 ?ran6
        case yan6 => (intro wz hz; go_simp; try with_reducible rfl)
        (try simp only [Act.put, List.setIfInBounds_toArray, List.set_cons_zero, List.set_cons_succ])
        refine PlanO.take (v := .string (strB bs)) (by kernel_rfl) ?yan7 ?ran7
        case yan7 => (intro wz hz; have q1 := rdB_convert (P := Try.prog) (HBY.out.below hz (Nat.le_refl _)) 25 5 9 Try.underlying25 Try.underlying5 Try.underlying9; go_simp)
        (try simp only [Act.put, List.setIfInBounds_toArray, List.set_cons_zero, List.set_cons_succ])
        refine PlanO.exec (fun K hK => ?_)
        go_simp
        go_at_call 17
        refine (bput_any _ _ yo _ (HYO.out.below (Below.refl _ _).drew (Nat.le_refl _)) HYL.out).mono ?_
        rw [HPY.out]
        rintro e u1 ⟨p5, rfl, ho5, hb5⟩
        have HP5 := Lib.hid ho5.read
        have hE1 : Ext w9.drew u1 := hb5
        clear ho5
        go_wp2_with fail
        refine hK.out _ _ hb5 ?_
        clear hK K
        (try simp only [Act.put, List.setIfInBounds_toArray, List.set_cons_zero, List.set_cons_succ])
        refine PlanO.take (v := .string (strB bs)) (by kernel_rfl) ?yan5 ?ran5
        case yan5 => (intro wz hz; have q2 := rdB_convert (P := Try.prog) (HP5.out.below hz (Nat.le_refl _)) 25 5 9 Try.underlying25 Try.underlying5 Try.underlying9; go_simp)
        (try simp only [Act.put, List.setIfInBounds_toArray, List.set_cons_zero, List.set_cons_succ])
        refine PlanO.take (v := .bool true) (by kernel_rfl) ?yan8 ?ran8
        case yan8 => (intro wz hz; go_simp)
        (try simp only [Act.put, List.setIfInBounds_toArray, List.set_cons_zero, List.set_cons_succ])
        refine PlanO.take (v := ?van9) (by kernel_rfl) ?yan9 ?ran9
        case yan9 => (intro wz hz; go_simp; try with_reducible rfl)
        (try simp only [Act.put, List.setIfInBounds_toArray, List.set_cons_zero, List.set_cons_succ])
        refine PlanO.take (v := ?van10) (by kernel_rfl) ?yan10 ?ran10
        case yan10 => (intro wz hz; go_simp; try with_reducible rfl)
        (try simp only [Act.put, List.setIfInBounds_toArray, List.set_cons_zero, List.set_cons_succ])
        refine PlanO.take (v := ?van11) (by kernel_rfl) ?yan11 ?ran11
        case yan11 => (intro wz hz; go_simp; try with_reducible rfl)
        (try simp only [Act.put, List.setIfInBounds_toArray, List.set_cons_zero, List.set_cons_succ])
        refine PlanO.take (v := ?van12) (by kernel_rfl) ?yan12 ?ran12
        case yan12 => (intro wz hz; go_simp; try with_reducible rfl)
        (try simp only [Act.put, List.setIfInBounds_toArray, List.set_cons_zero, List.set_cons_succ])
        refine PlanO.skip (by kernel_rfl) ?_
        (try simp only [Act.put, List.setIfInBounds_toArray, List.set_cons_zero, List.set_cons_succ])
        refine PlanO.skip (by kernel_rfl) ?_
        (try simp only [Act.put, List.setIfInBounds_toArray, List.set_cons_zero, List.set_cons_succ])
        refine PlanO.skip (by kernel_rfl) ?_
        (try simp only [Act.put, List.setIfInBounds_toArray, List.set_cons_zero, List.set_cons_succ])
        refine PlanO.skip (by kernel_rfl) ?_
        (try simp only [Act.put, List.setIfInBounds_toArray, List.set_cons_zero, List.set_cons_succ])
        refine PlanO.skip (by kernel_rfl) ?_
        (try simp only [Act.put, List.setIfInBounds_toArray, List.set_cons_zero, List.set_cons_succ])
        refine PlanO.skip (by kernel_rfl) ?_
        (try simp only [Act.put, List.setIfInBounds_toArray, List.set_cons_zero, List.set_cons_succ])
        refine PlanO.skip (by kernel_rfl) ?_
        (try simp only [Act.put, List.setIfInBounds_toArray, List.set_cons_zero, List.set_cons_succ])
        refine PlanO.skip (by kernel_rfl) ?_
        (try simp only [Act.put, List.setIfInBounds_toArray, List.set_cons_zero, List.set_cons_succ])
        refine PlanO.skip (by kernel_rfl) ?_
        (try simp only [Act.put, List.setIfInBounds_toArray, List.set_cons_zero, List.set_cons_succ])
        refine PlanO.take (v := ?van22) (by kernel_rfl) ?yan22 ?ran22
        case yan22 => (intro wz hz; go_simp; try with_reducible rfl)
        (try simp only [Act.put, List.setIfInBounds_toArray, List.set_cons_zero, List.set_cons_succ])
        refine PlanO.take (v := ?van23) (by kernel_rfl) ?yan23 ?ran23
        case yan23 => (intro wz hz; go_simp; try with_reducible rfl)
        (try simp only [Act.put, List.setIfInBounds_toArray, List.set_cons_zero, List.set_cons_succ])
        refine PlanO.take (v := ?van24) (by kernel_rfl) ?yan24 ?ran24
        case yan24 => (intro wz hz; go_simp; try with_reducible rfl)
        (try simp only [Act.put, List.setIfInBounds_toArray, List.set_cons_zero, List.set_cons_succ])
        refine PlanO.exec (fun K hK => ?_)
        go_simp
        go_at_call 8
        refine (awake8_any _).mono ?_
        rintro e u2 ⟨rfl, hb6⟩
        have hE2 : Ext w9.drew u2 := Ext.trans hE1 hb6
        go_wp2_with fail
        refine hK.out _ _ hb6 ?_
        clear hK K
        (try simp only [Act.put, List.setIfInBounds_toArray, List.set_cons_zero, List.set_cons_succ])
        refine PlanO.take (v := ?van26) (by kernel_rfl) ?yan26 ?ran26
        case yan26 => (intro wz hz; go_simp; try with_reducible rfl)
        (try simp only [Act.put, List.setIfInBounds_toArray, List.set_cons_zero, List.set_cons_succ])
        refine PlanO.take (v := ?van27) (by kernel_rfl) ?yan27 ?ran27
        case yan27 => (intro wz hz; go_simp; try with_reducible rfl)
        (try simp only [Act.put, List.setIfInBounds_toArray, List.set_cons_zero, List.set_cons_succ])
        refine PlanO.done (NoPanic.normal ?_)
        go_wp2
        go_ret
        exact ⟨rfl, HB9.out.trans ((below_draw hE2).mono HB9.out.size)⟩
end Go.Proofs.Ytmcdkdoickbnlaa
