/-
  The document's PutBatch, for every batch.
-/
import Derived.Test.YtmcdkdoickbnlaaBatchBox
namespace Go.Proofs.Ytmcdkdoickbnlaa
open Go.RowKit

set_option maxRecDepth 100000 in
set_option maxHeartbeats 4000000 in
theorem rputB_any (s : Int) (v : Value) (l : List Ope) (w : World) (hv : RdO w v l) (hn : l.length ≤ 100000) :
    Calls Try.prog 18 #[batV s v] w (RetB w.heap.size w (putBat s l)) := by
  obtain ⟨a, cap, rfl, hc1, hc2⟩ := hv.form
  obtain ⟨wB, hwB⟩ : ∃ wB, wB = w.alloc (.cells #[.int .i64 s, .slice a l.length cap] 24) := ⟨_, rfl⟩
  have e0 : wB.cell? ⟨w.heap.size, 0, none⟩ = some (.int .i64 s) := by rw [hwB]; go_simp
  have e1 : wB.cell? ⟨w.heap.size, 1, none⟩ = some (.slice a l.length cap) := by rw [hwB]; go_simp
  have hB : Below w.heap.size w wB := by rw [hwB]; exact (Below.refl _ _).alloc (Nat.le_refl _) _
  have hlt : w.heap.size < wB.heap.size := by rw [hwB]; simp
  have hmay := rmayB_any s (.slice a l.length cap) l wB (hv.below hB (Nat.le_refl _)) hn
  have HWB := Lib.hid hwB
  have HB := Lib.hid hB
  have HV := Lib.hid hv
  clear hB hv hwB
  cases hm : mayBt s l with
  | false =>
    rw [hm] at hmay
    have HM := Lib.hid hmay
    have HR : Hid (putBat s l = []) := Lib.hid (by unfold putBat; rw [hm]; rfl)
    clear hmay hm
    go_enter Try.func18, Try.ntmps18
    go_wp2_with (go_at_call 27; rw [← HWB.out]; refine HM.out.mono ?_; rintro e w1 ⟨rfl, hb⟩)
    go_ret
    exact ⟨_, rfl, by rw [HR.out]; exact OwnB.nil _ _ _, HB.out.trans (hb.mono HB.out.size)⟩
  | true =>
    rw [hm] at hmay
    have HM := Lib.hid hmay
    have HR : Hid (putBat s l = putL s.toNat ++ putL l.length ++ l.flatMap putOpL) := Lib.hid (by unfold putBat; rw [hm]; rfl)
    obtain ⟨hs1, hs2, hmo, _⟩ := mayBt_true hm
    obtain ⟨hl1, hl2, hall⟩ := mayOs_zero hmo
    have HALL := Lib.hid hall
    have HLS := Lib.hid (putL_length s.toNat (by omega))
    have HLN := Lib.hid (putL_length l.length (by omega))
    have hpl : ((l.length : Int)).toNat = l.length := by simp
    clear hmay hm hmo hall
    go_enter Try.func18, Try.ntmps18
    go_upto_region 3 with (go_at_call 27; rw [← HWB.out]; refine HM.out.mono ?_; rintro e w1 ⟨rfl, hb⟩)
    have hb1' := hb
    replace e0 := (hb.cell (p := ⟨w.heap.size, 0, none⟩) hlt).trans e0
    replace e1 := (hb.cell (p := ⟨w.heap.size, 1, none⟩) hlt).trans e1
    have HLT1 : Hid (w.heap.size < w1.heap.size) := Lib.hid (Nat.lt_of_lt_of_le hlt hb.size)
    have HBW := Lib.hid (HB.out.trans (hb.mono HB.out.size))
    have HV1 := Lib.hid (HV.out.below HBW.out (Nat.le_refl _))
    clear hb hb1' hlt
    refine wp_region_plan [(true, 0), (true, 1), (true, 3), (true, 4), (true, 5), (false, 2), (false, 6), (false, 7), (true, 8)] (by kernel_rfl) (by kernel_rfl) (by kernel_rfl) (by kernel_rfl) (by kernel_rfl) ?_
    simp only [planO, List.drop_succ_cons, List.drop_zero]
    refine PlanO.take (v := ?v0) (by kernel_rfl) ?y0 ?r0
    case y0 => (intro wz hz; go_simp; try with_reducible rfl)
    (try simp only [Act.put, List.setIfInBounds_toArray, List.set_cons_zero, List.set_cons_succ])
    refine PlanO.take (v := ?v1) (by kernel_rfl) ?y1 ?r1
    case y1 => (intro wz hz; have c0 := Ext.at_ hz e0; have c1 := Ext.at_ hz e1; go_simp; try with_reducible rfl)
    (try simp only [Act.put, List.setIfInBounds_toArray, List.set_cons_zero, List.set_cons_succ])
    refine PlanO.take (v := ?v3) (by kernel_rfl) ?y3 ?r3
    case y3 => (intro wz hz; go_simp; try with_reducible rfl)
    (try simp only [Act.put, List.setIfInBounds_toArray, List.set_cons_zero, List.set_cons_succ])
    refine PlanO.take (v := ?v4) (by kernel_rfl) ?y4 ?r4
    case y4 => (intro wz hz; have c0 := Ext.at_ hz e0; have c1 := Ext.at_ hz e1; go_simp; try with_reducible rfl)
    (try simp only [Act.put, List.setIfInBounds_toArray, List.set_cons_zero, List.set_cons_succ])
    refine PlanO.take (v := ?v5) (by kernel_rfl) ?y5 ?r5
    case y5 => (intro wz hz; have c0 := Ext.at_ hz e0; have c1 := Ext.at_ hz e1; go_simp; try with_reducible rfl)
    (try simp only [Act.put, List.setIfInBounds_toArray, List.set_cons_zero, List.set_cons_succ])
    refine PlanO.keep (fun K hK => ?_)
    go_simp
    go_at_call 35
    refine (orput_pos _ (by omega) (by omega) _).mono ?_
    rintro e u1 ⟨p1, rfl, ho1, hb1⟩
    have hE1 : Ext w1.drew u1 := hb1
    go_wp2_with fail
    refine hK.out _ _ hb1 ?_
    clear hK K
    (try simp only [Act.put, List.setIfInBounds_toArray, List.set_cons_zero, List.set_cons_succ])
    refine PlanO.keep (fun K hK => ?_)
    go_simp
    go_at_call 35
    refine (orput_pos _ (by omega) (by omega) _).mono ?_
    rintro e u2 ⟨p2, rfl, ho2, hb2⟩
    have hr2 := ho2.read
    clear ho2
    have hE2 : Ext w1.drew u2 := Ext.trans hE1 hb2
    have ho1' := ho1.below hb2 (Nat.le_refl _)
    clear ho1
    go_wp2_with fail
    refine hK.out _ _ (hb2.mono hE1.size) ?_
    clear hK K
    (try simp only [Act.put, List.setIfInBounds_toArray, List.set_cons_zero, List.set_cons_succ])
    refine PlanO.keep (fun K hK => ?_)
    refine step_append_bytes rfl (.tmp 11) (.tmp 15) 25 rfl w1.drew.heap.size 5 Try.underlying25 info_u8 _ _ _ _ rfl rfl ho1' hr2 ?b1 ?b2 ?_
    case b1 => exact hE2.size
    case b2 => (rw [hpl]; have := HLS.out; have := HLN.out; omega)
    intro v' w' hown' hb'
    have hE3 : Ext w1.drew w' := hb' _ _ (Nat.le_refl _) hE2
    refine hK.out _ _ (hb' _ _ (Nat.le_refl _) (Below.refl _ _)) ?_
    clear hK K
    (try simp only [Act.put, List.setIfInBounds_toArray, List.set_cons_zero, List.set_cons_succ])
    refine PlanO.take (v := ?v8) (by kernel_rfl) ?y8 ?r8
    case y8 => (intro wz hz; go_simp; try with_reducible rfl)
    (try simp only [Act.put, List.setIfInBounds_toArray, List.set_cons_zero, List.set_cons_succ])
    refine PlanO.done (NoPanic.normal ?_)
    rw [hpl] at hown'
    have HO := Lib.hid hown'
    have HB3 := Lib.hid (below_draw hE3)
    have k1 := (HB3.out.cell (p := ⟨w.heap.size, 1, none⟩) HLT1.out).trans e1
    have k0 := (HB3.out.cell (p := ⟨w.heap.size, 0, none⟩) HLT1.out).trans e0
    clear hE3 hown' hb1 hb2 hE1 hE2 ho1' hr2 hb' hpl
    go_wp2
    go_loopw [3, 4] (fun u i wr => ∃ (k : Nat) (u' : Value), k ≤ l.length ∧ u' = u ∧ i = .int .i64 k ∧ OwnB wr w1.drew.heap.size 5 u' (putL s.toNat ++ putL l.length ++ (l.take k).flatMap putOpL) ∧ Below w1.heap.size w1 wr) (fun _ i _ => l.length - (intOf i).toNat)
    case atStart => exact ⟨0, _, Nat.zero_le _, rfl, rfl, by simpa using HO.out, HB3.out⟩
    case round =>
      obtain ⟨k, u, hk, rfl, rfl, hu, hbl⟩ := hrel
      have HU := Lib.hid hu
      have HBL := Lib.hid hbl
      clear hu hbl
      by_cases hlt : k < l.length
      · obtain ⟨b, off, rfl, hbw, hcells⟩ := HV1.out.at_ (by intro h; subst h; simp at hlt)
        obtain ⟨d0, d1, d2⟩ := hcells k hlt
        have g0 := (HBL.out.cell (p := ⟨b, off + k * 3, none⟩) hbw).trans d0
        have g1 := (HBL.out.cell (p := ⟨b, off + k * 3 + 1, none⟩) hbw).trans d1
        have g2 := (HBL.out.cell (p := ⟨b, off + k * 3 + 2, none⟩) hbw).trans d2
        have HMORE := Lib.hid (putOps_more hlt)
        have HTL := Lib.hid (putOps_take_len HALL.out hl2 k)
        have HMO : Hid (mayO (l.getD k Ope.none_) = 0) := Lib.hid (HALL.out _ (List.mem_of_getElem? (opGet hlt)))
        have HOL := Lib.hid (putOpL_len HMO.out)
        have HK12 := Lib.hid (mayO_zero HMO.out)
        clear d0 d1 d2 hcells
        generalize l.getD k Ope.none_ = o at *
        have f0 := (HBL.out.cell (p := ⟨w.heap.size, 0, none⟩) HLT1.out).trans e0
        have f1 := (HBL.out.cell (p := ⟨w.heap.size, 1, none⟩) HLT1.out).trans e1
        have HPO : Hid (putOpL o = putL o.k.toNat ++ putT o.key ++ (if o.k = 1 then putT o.v.data.toList else [])) := Lib.hid rfl
        have HOL1 := Lib.hid (putL_length o.k.toNat (by have := HK12.out; omega))
        have HOL2 := Lib.hid (putT_len o.u (by have := HK12.out; omega))
        have HOL3 := Lib.hid (putT_len o.v (by have := HK12.out; omega))
        have hT0 := Told.start HU.out HBL.out HBL.out.size o
        obtain ⟨ok, ou, ov⟩ := o
        obtain ⟨hk0, hu0, hv0, _⟩ := HK12.out
        simp only at g0 g1 g2 hk0 hu0 hv0
        obtain ⟨wo, hwo⟩ : ∃ wo, wo = wr.alloc (.cells #[.int .i64 ok, .string ou, .string ov] 45) := ⟨_, rfl⟩
        have q0 := hT0.c0
        have q1 := hT0.c1
        have q2 := hT0.c2
        have HT := Lib.hid hT0
        clear hT0 hwo
        rcases ope_ways ok with rfl | rfl | ⟨_, _, _, h4, h5⟩
        · go_wp2_with (first | (go_at_call 35; refine (orput_pos _ (by omega) (by omega) _).mono ?_; rintro e u3 ⟨p3, rfl, ho3, hb3⟩; have hT := HT.out.call hb3; have q0 := hT.c0; have q1 := hT.c1; have q2 := hT.c2; have HT := Lib.hid hT; have HO3 := Lib.hid ho3.read; clear ho3 hb3 hT) | (go_at_call 36; refine (rputText_any ou (by omega) _).mono ?_; rintro e u3 ⟨p3, rfl, ho3, hb3⟩; have hT := HT.out.call hb3; have q0 := hT.c0; have q1 := hT.c1; have q2 := hT.c2; have HT := Lib.hid hT; have HO3 := Lib.hid ho3.read; clear ho3 hb3 hT) | (go_at_call 36; refine (rputText_any ov (by omega) _).mono ?_; rintro e u3 ⟨p3, rfl, ho3, hb3⟩; have hT := HT.out.call hb3; have q0 := hT.c0; have q1 := hT.c1; have q2 := hT.c2; have HT := Lib.hid hT; have HO3 := Lib.hid ho3.read; clear ho3 hb3 hT) | (at_builtin; refine wpList_plain rfl fun K' hK' => ?_; refine wp_append_at (.tmp 29) (.tmp 32) 25 rfl 5 1 1 (.int .u8 0) Try.underlying25 info_u8 rfl (by decide) _ _ _ _ _ _ rfl rfl HT.out.own0 HO3.out (bv_oneCell _) (by have := HTL.out; have := HOL1.out; have := HOL2.out; have := HOL3.out; have := HLS.out; have := HLN.out; (try simp only [List.length_append]); omega) (by unfold maxLen; have := HTL.out; have := HOL1.out; have := HOL2.out; have := HOL3.out; have := HLS.out; have := HLN.out; (try simp only [List.length_append]); omega) (fun v' w' hown hmv => hK' _ _ ?_); have hT := HT.out.append hown hmv; have q0 := hT.c0; have q1 := hT.c1; have q2 := hT.c2; have HT := Lib.hid hT; clear hown hmv hT) | (at_builtin; refine wpList_plain rfl fun K' hK' => ?_; refine wp_append_at (.tmp 34) (.tmp 37) 25 rfl 5 1 1 (.int .u8 0) Try.underlying25 info_u8 rfl (by decide) _ _ _ _ _ _ rfl rfl HT.out.own0 HO3.out (bv_oneCell _) (by have := HTL.out; have := HOL1.out; have := HOL2.out; have := HOL3.out; have := HLS.out; have := HLN.out; (try simp only [List.length_append]); omega) (by unfold maxLen; have := HTL.out; have := HOL1.out; have := HOL2.out; have := HOL3.out; have := HLS.out; have := HLN.out; (try simp only [List.length_append]); omega) (fun v' w' hown hmv => hK' _ _ ?_); have hT := HT.out.append hown hmv; have q0 := hT.c0; have q1 := hT.c1; have q2 := hT.c2; have HT := Lib.hid hT; clear hown hmv hT) | (at_builtin; refine wpList_plain rfl fun K' hK' => ?_; refine wp_append_at (.tmp 42) (.tmp 45) 25 rfl 5 1 1 (.int .u8 0) Try.underlying25 info_u8 rfl (by decide) _ _ _ _ _ _ rfl rfl HT.out.own0 HO3.out (bv_oneCell _) (by have := HTL.out; have := HOL1.out; have := HOL2.out; have := HOL3.out; have := HLS.out; have := HLN.out; (try simp only [List.length_append]); omega) (by unfold maxLen; have := HTL.out; have := HOL1.out; have := HOL2.out; have := HOL3.out; have := HLS.out; have := HLN.out; (try simp only [List.length_append]); omega) (fun v' w' hown hmv => hK' _ _ ?_); have hT := HT.out.append hown hmv; have q0 := hT.c0; have q1 := hT.c1; have q2 := hT.c2; have HT := Lib.hid hT; clear hown hmv hT))
          refine ⟨⟨k + 1, _, by omega, rfl, by go_num, ?_, HT.out.bel⟩, ?_⟩
          · have := HT.out.own
            rw [HMORE.out, HPO.out]
            simpa using this
          · simp [intOf]; omega
        · go_wp2_with (first | (go_at_call 35; refine (orput_pos _ (by omega) (by omega) _).mono ?_; rintro e u3 ⟨p3, rfl, ho3, hb3⟩; have hT := HT.out.call hb3; have q0 := hT.c0; have q1 := hT.c1; have q2 := hT.c2; have HT := Lib.hid hT; have HO3 := Lib.hid ho3.read; clear ho3 hb3 hT) | (go_at_call 36; refine (rputText_any ou (by omega) _).mono ?_; rintro e u3 ⟨p3, rfl, ho3, hb3⟩; have hT := HT.out.call hb3; have q0 := hT.c0; have q1 := hT.c1; have q2 := hT.c2; have HT := Lib.hid hT; have HO3 := Lib.hid ho3.read; clear ho3 hb3 hT) | (go_at_call 36; refine (rputText_any ov (by omega) _).mono ?_; rintro e u3 ⟨p3, rfl, ho3, hb3⟩; have hT := HT.out.call hb3; have q0 := hT.c0; have q1 := hT.c1; have q2 := hT.c2; have HT := Lib.hid hT; have HO3 := Lib.hid ho3.read; clear ho3 hb3 hT) | (at_builtin; refine wpList_plain rfl fun K' hK' => ?_; refine wp_append_at (.tmp 29) (.tmp 32) 25 rfl 5 1 1 (.int .u8 0) Try.underlying25 info_u8 rfl (by decide) _ _ _ _ _ _ rfl rfl HT.out.own0 HO3.out (bv_oneCell _) (by have := HTL.out; have := HOL1.out; have := HOL2.out; have := HOL3.out; have := HLS.out; have := HLN.out; (try simp only [List.length_append]); omega) (by unfold maxLen; have := HTL.out; have := HOL1.out; have := HOL2.out; have := HOL3.out; have := HLS.out; have := HLN.out; (try simp only [List.length_append]); omega) (fun v' w' hown hmv => hK' _ _ ?_); have hT := HT.out.append hown hmv; have q0 := hT.c0; have q1 := hT.c1; have q2 := hT.c2; have HT := Lib.hid hT; clear hown hmv hT) | (at_builtin; refine wpList_plain rfl fun K' hK' => ?_; refine wp_append_at (.tmp 34) (.tmp 37) 25 rfl 5 1 1 (.int .u8 0) Try.underlying25 info_u8 rfl (by decide) _ _ _ _ _ _ rfl rfl HT.out.own0 HO3.out (bv_oneCell _) (by have := HTL.out; have := HOL1.out; have := HOL2.out; have := HOL3.out; have := HLS.out; have := HLN.out; (try simp only [List.length_append]); omega) (by unfold maxLen; have := HTL.out; have := HOL1.out; have := HOL2.out; have := HOL3.out; have := HLS.out; have := HLN.out; (try simp only [List.length_append]); omega) (fun v' w' hown hmv => hK' _ _ ?_); have hT := HT.out.append hown hmv; have q0 := hT.c0; have q1 := hT.c1; have q2 := hT.c2; have HT := Lib.hid hT; clear hown hmv hT) | (at_builtin; refine wpList_plain rfl fun K' hK' => ?_; refine wp_append_at (.tmp 42) (.tmp 45) 25 rfl 5 1 1 (.int .u8 0) Try.underlying25 info_u8 rfl (by decide) _ _ _ _ _ _ rfl rfl HT.out.own0 HO3.out (bv_oneCell _) (by have := HTL.out; have := HOL1.out; have := HOL2.out; have := HOL3.out; have := HLS.out; have := HLN.out; (try simp only [List.length_append]); omega) (by unfold maxLen; have := HTL.out; have := HOL1.out; have := HOL2.out; have := HOL3.out; have := HLS.out; have := HLN.out; (try simp only [List.length_append]); omega) (fun v' w' hown hmv => hK' _ _ ?_); have hT := HT.out.append hown hmv; have q0 := hT.c0; have q1 := hT.c1; have q2 := hT.c2; have HT := Lib.hid hT; clear hown hmv hT))
          refine ⟨⟨k + 1, _, by omega, rfl, by go_num, ?_, HT.out.bel⟩, ?_⟩
          · have := HT.out.own
            rw [HMORE.out, HPO.out]
            simpa using this
          · simp [intOf]; omega
        · omega

      · obtain rfl : k = l.length := by omega
        have f0 := (HBL.out.cell (p := ⟨w.heap.size, 0, none⟩) HLT1.out).trans e0
        have f1 := (HBL.out.cell (p := ⟨w.heap.size, 1, none⟩) HLT1.out).trans e1
        go_wp2
        go_ret
        refine ⟨_, rfl, ?_, HBW.out.trans (HBL.out.mono HBW.out.size)⟩
        have hu := HU.out
        rw [List.take_length] at hu
        rw [HR.out]
        exact hu.mono_o HBW.out.size
end Go.Proofs.Ytmcdkdoickbnlaa
