import Derived.Test.YtdcjfgbngmdkfaaMg00
import Derived.Test.YtdcjfgbngmdkfaaMg01
import Derived.Test.YtdcjfgbngmdkfaaMg02
import Derived.Test.YtdcjfgbngmdkfaaBlkReadAll
import Derived.Test.YtdcjfgbngmdkfaaBlkSplit

/-
  Blocks: a block of entries, as the program tells it.
-/
namespace Go.Proofs.Ytdcjfgbngmdkfaa
open Go.RowKit

theorem comL_turn : ∀ (x y : List UInt8), comL x y = comL y x
  | [], [] => rfl
  | [], _ :: _ => by unfold comL; rfl
  | _ :: _, [] => by unfold comL; rfl
  | a :: x, b :: y => by
    unfold comL
    rw [comL_turn x y]
    by_cases h : a = b
    · rw [if_pos h, if_pos h.symm]
    · rw [if_neg h, if_neg fun e => h e.symm]

/-- Two rows of bytes that are put together, and a box of cells beside them. -/
structure BX (W : World) (B q : Nat) (cs : List Value) (ty : TypeId) (w : World) (xb xt : Value) (r t : List UInt8) : Prop extends BT W B w xb xt r t where
  box : w.heap[q]? = some (.cells cs.toArray ty (0, 0))
  nb : xb.ownBlock ≠ some q
  nt : xt.ownBlock ≠ some q
section
variable {W w w' : World} {B q : Nat} {cs : List Value} {ty : TypeId} {xb xt v' : Value} {r t n : List UInt8}
theorem BX.cell (h : BX W B q cs ty w xb xt r t) (i : Nat) : w.cell? ⟨q, i, none⟩ = cs.toArray[i]? := blk_cell (i := i) h.box
theorem BX.start (h : BT W B w xb xt r t) (cs : List Value) (ty : TypeId) : BX W B w.heap.size cs ty (w.alloc (.cells cs.toArray ty)) xb xt r t where
  toBT := h.call ((Below.refl _ _).alloc (Nat.le_refl _) _)
  box := heap_alloc_new w _
  nb e := by have := own_lt h.own _ e; omega
  nt e := by have := own_lt h.tail _ e; omega
theorem BX.call (h : BX W B q cs ty w xb xt r t) (hb : Below w.heap.size w w') : BX W B q cs ty w' xb xt r t where
  toBT := h.toBT.call hb
  box := (hb.block q (blk_lt h.box)).trans h.box
  nb := h.nb
  nt := h.nt
theorem BX.put (h : BX W B q cs ty w xb xt r t) (ho : w'.ownsRow 0 5 1 v' (r.length + n.length) (r.map bv ++ n.map bv)) (hm : Moves w w' xb v') : BX W B q cs ty w' v' xt (r ++ n) t where
  toBT := h.toBT.put ho hm
  box := (hm.grown.block q (blk_lt h.box) (fun e => h.nb e.symm)).trans h.box
  nb e := by
    rcases hm.at_ q e with e | e
    · exact h.nb e
    · have := blk_lt h.box
      omega
  nt := h.nt
theorem BX.more (h : BX W B q cs ty w xb xt r t) (ho : w'.ownsRow 0 5 1 v' (t.length + n.length) (t.map bv ++ n.map bv)) (hm : Moves w w' xt v') : BX W B q cs ty w' xb v' r (t ++ n) where
  toBT := h.toBT.more ho hm
  box := (hm.grown.block q (blk_lt h.box) (fun e => h.nt e.symm)).trans h.box
  nb := h.nb
  nt e := by
    rcases hm.at_ q e with e | e
    · exact h.nt e
    · have := blk_lt h.box
      omega
end

set_option maxRecDepth 100000 in
set_option maxHeartbeats 400000 in
theorem put_any12 (v : Value) (es : List Ent) (w : World) (hv : RdE w v es) : Calls Try.prog 9 #[v] w (RetPut w es) := by
  have HRI := Lib.hid (rising_any v es w hv)
  have HV := Lib.hid hv
  obtain ⟨va, vc, rfl, hc1, hc2⟩ := hv.form
  unfold maxLen at hc2
  clear hv
  by_cases hn : es = []
  · have HE := Lib.hid (show putErr es = 1 by unfold putErr; rw [if_pos (.inr hn)])
    have hl0 : (es.length : Int) = 0 := by rw [hn]; rfl
    have hlb : ((es.length : Int) == 0) = true := by rw [hl0]; rfl
    clear hn HRI
    go_enter Try.func9, Try.ntmps9
    go_wp2
    go_ret2
    exact RetPut.no HE.out (by omega) (Below.refl _ _)
  · have hpos := List.length_pos_iff.2 hn
    have hlb : ((es.length : Int) == 0) = false := by
      have : (es.length : Int) ≠ 0 := by omega
      simpa using this
    have RISE : Hid (∀ b, risingB es = b → Calls Try.prog 20 #[.slice va es.length vc] w fun e w' => e = .returned (.bool b) ∧ Below w.heap.size w w') := Lib.hid fun b h => by rw [← h]; exact HRI.out
    clear HRI
    cases hr : risingB es with
    | false =>
      have HE := Lib.hid (show putErr es = 1 by unfold putErr; rw [if_pos (.inl hr)])
      have H1 := Lib.hid (RISE.out _ hr)
      clear RISE hr hn
      go_enter Try.func9, Try.ntmps9
      go_wp2_with (go_at_call 20; (refine H1.out.mono ?_); rintro e w1 ⟨rfl, hb1⟩)
      go_ret2
      exact RetPut.no HE.out (by omega) hb1
    | true =>
      have H1 := Lib.hid (RISE.out _ hr)
      have HRI := Lib.hid hr
      clear RISE hr
      by_cases h64 : 64 < es.length
      · have HE := Lib.hid (show putErr es = 4 by unfold putErr; rw [if_neg (by rw [HRI.out]; simpa using hn), if_pos h64])
        have g1 : decide ((64 : Int) < (es.length : Int)) = true := by simp; omega
        clear hn
        go_enter Try.func9, Try.ntmps9
        go_wp2_with (go_at_call 20; (refine H1.out.mono ?_); rintro e w1 ⟨rfl, hb1⟩)
        go_ret2
        exact RetPut.no HE.out (by omega) hb1
      · have HE := Lib.hid (show putErr es = 0 by unfold putErr; rw [if_neg (by rw [HRI.out]; simpa using hn), if_neg h64])
        have g1 : decide ((64 : Int) < (es.length : Int)) = false := by simp; omega
        have h64' : es.length ≤ 64 := by omega
        have HMAY := Lib.hid (fun k (hk : k < es.length) => rising_may HRI.out hk)
        have HBL := Lib.hid (bodyN_len HMAY.out)
        clear hn h64 hpos
        go_enter Try.func9, Try.ntmps9
        go_wp2_with (go_at_call 20; (refine H1.out.mono ?_); rintro e w1 ⟨rfl, hb1⟩)
        go_loopw [4, 5, 22] (fun b t i wr => ∃ k : Nat, k ≤ es.length ∧ i = .int .i64 (k : Int) ∧ Hid (BT w w.heap.size wr b t (bodyN es k) (tailN es k))) (fun _ _ i _ => es.length - (intOf i).toNat)
        case atStart => exact ⟨0, Nat.zero_le _, rfl, Lib.hid (BT.start hb1 hb1.size)⟩
        case round =>
          obtain ⟨k, hk, rfl, HT⟩ := hrel
          have HLB := Lib.hid (HBL.out k hk)
          have HLT := Lib.hid (tailN_len es k)
          by_cases hlt : k < es.length
          · obtain ⟨_, _, hva, hone⟩ := HV.out.one
            cases hva
            obtain ⟨b, off, rfl, hbw, c0, c1, c2, c3, hfit⟩ := hone k hlt
            have HBW := Lib.hid hbw
            replace c0 := (HT.out.be.cell (p := ⟨b, off + k * 4, none⟩) hbw).trans c0
            replace c1 := (HT.out.be.cell (p := ⟨b, off + k * 4 + 1, none⟩) hbw).trans c1
            replace c2 := (HT.out.be.cell (p := ⟨b, off + k * 4 + 2, none⟩) hbw).trans c2
            replace c3 := (HT.out.be.cell (p := ⟨b, off + k * 4 + 3, none⟩) hbw).trans c3
            have HM := Lib.hid (may_facts (HMAY.out k hlt))
            have HBN : Hid (bodyN es (k + 1) = bodyN es k ++ entB (es.getD k Ent.none_) (shE es k)) := Lib.hid rfl
            have HTN : Hid (tailN es (k + 1) = tailN es k ++ (if k % 4 = 0 then fixL (((bodyN es k).length : Nat) : Int) 4 else [])) := Lib.hid rfl
            have HSE := Lib.hid (shE_le es k)
            have HF4 : Hid (∀ n w, Calls Try.prog 21 #[.int .i64 n, .int .i64 4] w (RetB w.heap.size w (fixL n 4))) := Lib.hid fun n w => fixed_yes n 4 (by omega) w
            have HLE := Lib.hid (entB_le (HMAY.out k hlt) HSE.out.1)
            have HPE : Hid (∀ wz, Calls Try.prog 23 #[entV (es.getD k Ent.none_), .int .i64 (shE es k : Int)] wz (RetB wz.heap.size wz (entB (es.getD k Ent.none_) (shE es k)))) := Lib.hid fun wz => putEntry_any _ _ _ _ _ (by have := HSE.out.1; rw [size_list] at this; exact this) (HMAY.out k hlt) wz
            clear hone hfit hbw
            obtain ⟨ba, bc, hba, _, _⟩ := HT.out.own.read.form
            subst hba
            by_cases h4 : k % 4 = 0
            · have HS0 := Lib.hid (show shE es k = 0 by unfold shE; rw [if_pos h4])
              have m1 : (k : Int).tmod 4 = 0 := by rw [Int.tmod_eq_emod_of_nonneg (by omega)]; omega
              have m2 : (k : Int) % 4 = 0 := by omega
              rw [HS0.out] at HBN HSE HLE HPE
              rw [if_pos h4] at HTN
              generalize es.getD k Ent.none_ = X at *
              obtain ⟨xu, xs, xk, xv⟩ := X
              simp only at c0 c1 c2 c3
              replace HPE : Hid (∀ wz, Calls Try.prog 23 #[.agg #[.string xu, .int .i64 xs, .int .i64 xk, .string xv], .int .i64 0] wz (RetB wz.heap.size wz (entB ⟨xu, xs, xk, xv⟩ 0))) := HPE
              have hT := BX.start HT.out [.string xu, .int .i64 xs, .int .i64 xk, .string xv] 36
              have q0 := hT.cell 0; have q1 := hT.cell 1; have q2 := hT.cell 2; have q3 := hT.cell 3; simp only [List.getElem?_toArray, List.getElem?_cons_zero, List.getElem?_cons_succ] at q0 q1 q2 q3; 
              have HT := Lib.hid hT
              clear hT h4
              go_wp2_with (first | (go_at_call 21; (refine (HF4.out _ _).mono ?_); rintro e u3 ⟨p3, rfl, ho3, hb3⟩; have hT := HT.out.call hb3; have q0 := hT.cell 0; have q1 := hT.cell 1; have q2 := hT.cell 2; have q3 := hT.cell 3; simp only [List.getElem?_toArray, List.getElem?_cons_zero, List.getElem?_cons_succ] at q0 q1 q2 q3; have HT := Lib.hid hT; have HO := Lib.hid ho3.read; clear ho3 hb3 hT) | (at_builtin; refine wpList_plain rfl fun K' hK' => ?_; refine wp_append_at (.tmp 30) (.tmp 33) 23 rfl 5 1 1 (.int .u8 0) Try.underlying23 info_u8 rfl (by decide) _ _ _ _ _ _ rfl rfl HT.out.tail0 HO.out (bv_oneCell _) (by have := HLT.out; rw [fixL_length]; omega) (by unfold maxLen; have := HLT.out; rw [fixL_length]; omega) (fun v' w' hown hmv => hK' _ _ ?_); have hT := HT.out.more hown hmv; have q0 := hT.cell 0; have q1 := hT.cell 1; have q2 := hT.cell 2; have q3 := hT.cell 3; simp only [List.getElem?_toArray, List.getElem?_cons_zero, List.getElem?_cons_succ] at q0 q1 q2 q3; have HT := Lib.hid hT; clear hown hmv hT) | (go_at_call 23; (refine (HPE.out _).mono ?_); rintro e u3 ⟨p3, rfl, ho3, hb3⟩; have hT := HT.out.call hb3; have q0 := hT.cell 0; have q1 := hT.cell 1; have q2 := hT.cell 2; have q3 := hT.cell 3; simp only [List.getElem?_toArray, List.getElem?_cons_zero, List.getElem?_cons_succ] at q0 q1 q2 q3; have HT := Lib.hid hT; have HO := Lib.hid ho3.read; clear ho3 hb3 hT) | (at_builtin; refine wpList_plain rfl fun K' hK' => ?_; refine wp_append_at (.tmp 46) (.tmp 49) 23 rfl 5 1 1 (.int .u8 0) Try.underlying23 info_u8 rfl (by decide) _ _ _ _ _ _ rfl rfl HT.out.own0 HO.out (bv_oneCell _) (by have := HLB.out; have := HLT.out; have := HLE.out; (try simp only [List.length_append, fixL_length]); omega) (by unfold maxLen; have := HLB.out; have := HLT.out; have := HLE.out; (try simp only [List.length_append, fixL_length]); omega) (fun v' w' hown hmv => hK' _ _ ?_); have hT := HT.out.put hown hmv; have q0 := hT.cell 0; have q1 := hT.cell 1; have q2 := hT.cell 2; have q3 := hT.cell 3; simp only [List.getElem?_toArray, List.getElem?_cons_zero, List.getElem?_cons_succ] at q0 q1 q2 q3; have HT := Lib.hid hT; clear hown hmv hT))
              refine ⟨⟨k + 1, hlt, by go_num, Lib.hid ?_⟩, by simp [intOf]; omega⟩
              have := HT.out.toBT
              rw [HBN.out, HTN.out]
              exact this
            · have hk1 : 1 ≤ k := by omega
              obtain ⟨_, _, hva, hone⟩ := HV.out.one
              cases hva
              obtain ⟨_, _, hbb, _, p0, _, _, _, hfp⟩ := hone (k - 1) (by omega)
              cases hbb
              replace p0 := (HT.out.be.cell (p := ⟨b, off + (k - 1) * 4, none⟩) HBW.out).trans p0
              have HPRE : Hid (prevU es k = uL (es.getD (k - 1) Ent.none_)) := Lib.hid (by unfold prevU; rw [if_neg (by omega)])
              have HS0 : Hid (shE es k = comL (uL (es.getD (k - 1) Ent.none_)) (uL (es.getD k Ent.none_))) := Lib.hid (by unfold shE; rw [if_neg h4, HPRE.out, comL_turn])
              rw [if_neg h4] at HTN
              obtain ⟨mm, hmm⟩ : ∃ mm, k % 4 = mm := ⟨_, rfl⟩
              have m1 : (k : Int).tmod 4 = (mm : Int) := by rw [Int.tmod_eq_emod_of_nonneg (by omega)]; omega
              have m2 : (k : Int) % 4 = (mm : Int) := by omega
              have m0 : ((mm : Int) == 0) = false := by
                have : (mm : Int) ≠ 0 := by omega
                simpa using this
              have HSH := Lib.hid (fun w => common_any (es.getD (k - 1) Ent.none_).u (es.getD k Ent.none_).u (by have := (may_facts (HMAY.out (k - 1) (by omega))).1; rw [size_list] at this; unfold maxLen; omega) w)
              have hp0 : wr.cell? ⟨b, off + (k - 1) * 4, none⟩ = some (.string (es.getD (k - 1) Ent.none_).u) := p0
              rw [← HS0.out] at HSH
              generalize (es.getD (k - 1) Ent.none_).u = pu at *
              generalize es.getD k Ent.none_ = X at *
              generalize shE es k = sx at *
              obtain ⟨xu, xs, xk, xv⟩ := X
              simp only at c0 c1 c2 c3
              replace HPE : Hid (∀ wz, Calls Try.prog 23 #[.agg #[.string xu, .int .i64 xs, .int .i64 xk, .string xv], .int .i64 (sx : Int)] wz (RetB wz.heap.size wz (entB ⟨xu, xs, xk, xv⟩ sx))) := HPE
              have hT := BX.start HT.out [.string xu, .int .i64 xs, .int .i64 xk, .string xv] 36
              have zB0 := hT.cell 0
              simp only [List.getElem?_toArray, List.getElem?_cons_zero] at zB0
              have zB1 := (hT.be.cell (p := ⟨b, off + (k - 1) * 4, none⟩) HBW.out).trans ((HT.out.be.cell (p := ⟨b, off + (k - 1) * 4, none⟩) HBW.out).symm.trans hp0)
              have HT := Lib.hid hT
              have HMM := Lib.hid (show mm ≠ 0 by omega)
              clear hT h4 hone p0 hp0 hfp
              go_upto_region 13 with (fail)
              refine wp_region_plan [(true, 0), (true, 1), (true, 2), (true, 3), (true, 4), (true, 5), (true, 6), (true, 7), (true, 8), (true, 9), (false, 10), (true, 11)] (by kernel_rfl) (by kernel_rfl) (by kernel_rfl) (by kernel_rfl) (by kernel_rfl) ?_
              simp only [planO, List.drop_succ_cons, List.drop_zero]
              refine PlanO.take (v := ?v0) (by kernel_rfl) ?y0 ?r0
              case y0 => (intro wz hz; go_simp; try with_reducible rfl)
              (try simp only [Act.put, List.setIfInBounds_toArray, List.set_cons_zero, List.set_cons_succ])
              refine PlanO.take (v := ?v1) (by kernel_rfl) ?y1 ?r1
              case y1 => (intro wz hz; go_simp; try with_reducible rfl)
              (try simp only [Act.put, List.setIfInBounds_toArray, List.set_cons_zero, List.set_cons_succ])
              refine PlanO.take (v := .int .i64 ((k - 1 : Nat) : Int)) (by kernel_rfl) ?y2 ?r2
              case y2 => (intro wz hz; go_simp; rw [IntWalk.i64_in _ (by omega)]; omega)
              (try simp only [Act.put, List.setIfInBounds_toArray, List.set_cons_zero, List.set_cons_succ])
              refine PlanO.take (v := .pointer (some ⟨b, off + (k - 1) * 4, none⟩)) (by kernel_rfl) ?y3 ?r3
              case y3 => (intro wz hz; have hkb : ((k - 1 : Nat) : Int) < (es.length : Int) := (by omega); go_simp; try (intro hkc; omega))
              (try simp only [Act.put, List.setIfInBounds_toArray, List.set_cons_zero, List.set_cons_succ])
              refine PlanO.take (v := .pointer (some ⟨b, off + (k - 1) * 4, none⟩)) (by kernel_rfl) ?y4 ?r4
              case y4 => (intro wz hz; go_simp; try with_reducible rfl)
              (try simp only [Act.put, List.setIfInBounds_toArray, List.set_cons_zero, List.set_cons_succ])
              refine PlanO.take (v := .pointer (some ⟨b, off + (k - 1) * 4, none⟩)) (by kernel_rfl) ?y5 ?r5
              case y5 => (intro wz hz; go_simp; try with_reducible rfl)
              (try simp only [Act.put, List.setIfInBounds_toArray, List.set_cons_zero, List.set_cons_succ])
              refine PlanO.take (v := .string pu) (by kernel_rfl) ?y6 ?r6
              case y6 => (intro wz hz; have c1 := Ext.at_ hz zB1; go_simp; try with_reducible rfl)
              (try simp only [Act.put, List.setIfInBounds_toArray, List.set_cons_zero, List.set_cons_succ])
              refine PlanO.take (v := .pointer (some ⟨wr.heap.size, 0, none⟩)) (by kernel_rfl) ?y7 ?r7
              case y7 => (intro wz hz; go_simp; try with_reducible rfl)
              (try simp only [Act.put, List.setIfInBounds_toArray, List.set_cons_zero, List.set_cons_succ])
              refine PlanO.take (v := .pointer (some ⟨wr.heap.size, 0, none⟩)) (by kernel_rfl) ?y8 ?r8
              case y8 => (intro wz hz; go_simp; try with_reducible rfl)
              (try simp only [Act.put, List.setIfInBounds_toArray, List.set_cons_zero, List.set_cons_succ])
              refine PlanO.take (v := .string xu) (by kernel_rfl) ?y9 ?r9
              case y9 => (intro wz hz; have c0 := Ext.at_ hz zB0; go_simp; try with_reducible rfl)
              (try simp only [Act.put, List.setIfInBounds_toArray, List.set_cons_zero, List.set_cons_succ])
              refine PlanO.exec (fun K hK => ?_)
              go_simp
              go_at_call 22
              (refine (HSH.out _).mono ?_)
              rintro e w3 ⟨rfl, hb3⟩
              have HT9 := Lib.hid ((HT.out.call (Below.refl _ _).drew).call hb3)
              go_wp2_with fail
              refine hK.out _ _ hb3 ?_
              clear hK K
              (try simp only [Act.put, List.setIfInBounds_toArray, List.set_cons_zero, List.set_cons_succ])
              refine PlanO.take (v := ?v11) (by kernel_rfl) ?y11 ?r11
              case y11 => (intro wz hz; go_simp; try with_reducible rfl)
              (try simp only [Act.put, List.setIfInBounds_toArray, List.set_cons_zero, List.set_cons_succ])
              refine PlanO.done (NoPanic.normal ?_)
              have hT := HT9.out
              have q0 := hT.cell 0; have q1 := hT.cell 1; have q2 := hT.cell 2; have q3 := hT.cell 3; simp only [List.getElem?_toArray, List.getElem?_cons_zero, List.getElem?_cons_succ] at q0 q1 q2 q3; 
              clear HT hT
              have HT := HT9
              clear HT9
              go_wp2_with (first | (go_at_call 21; (refine (HF4.out _ _).mono ?_); rintro e u3 ⟨p3, rfl, ho3, hb3⟩; have hT := HT.out.call hb3; have q0 := hT.cell 0; have q1 := hT.cell 1; have q2 := hT.cell 2; have q3 := hT.cell 3; simp only [List.getElem?_toArray, List.getElem?_cons_zero, List.getElem?_cons_succ] at q0 q1 q2 q3; have HT := Lib.hid hT; have HO := Lib.hid ho3.read; clear ho3 hb3 hT) | (at_builtin; refine wpList_plain rfl fun K' hK' => ?_; refine wp_append_at (.tmp 30) (.tmp 33) 23 rfl 5 1 1 (.int .u8 0) Try.underlying23 info_u8 rfl (by decide) _ _ _ _ _ _ rfl rfl HT.out.tail0 HO.out (bv_oneCell _) (by have := HLT.out; rw [fixL_length]; omega) (by unfold maxLen; have := HLT.out; rw [fixL_length]; omega) (fun v' w' hown hmv => hK' _ _ ?_); have hT := HT.out.more hown hmv; have q0 := hT.cell 0; have q1 := hT.cell 1; have q2 := hT.cell 2; have q3 := hT.cell 3; simp only [List.getElem?_toArray, List.getElem?_cons_zero, List.getElem?_cons_succ] at q0 q1 q2 q3; have HT := Lib.hid hT; clear hown hmv hT) | (go_at_call 23; (refine (HPE.out _).mono ?_); rintro e u3 ⟨p3, rfl, ho3, hb3⟩; have hT := HT.out.call hb3; have q0 := hT.cell 0; have q1 := hT.cell 1; have q2 := hT.cell 2; have q3 := hT.cell 3; simp only [List.getElem?_toArray, List.getElem?_cons_zero, List.getElem?_cons_succ] at q0 q1 q2 q3; have HT := Lib.hid hT; have HO := Lib.hid ho3.read; clear ho3 hb3 hT) | (at_builtin; refine wpList_plain rfl fun K' hK' => ?_; refine wp_append_at (.tmp 46) (.tmp 49) 23 rfl 5 1 1 (.int .u8 0) Try.underlying23 info_u8 rfl (by decide) _ _ _ _ _ _ rfl rfl HT.out.own0 HO.out (bv_oneCell _) (by have := HLB.out; have := HLT.out; have := HLE.out; (try simp only [List.length_append, fixL_length]); omega) (by unfold maxLen; have := HLB.out; have := HLT.out; have := HLE.out; (try simp only [List.length_append, fixL_length]); omega) (fun v' w' hown hmv => hK' _ _ ?_); have hT := HT.out.put hown hmv; have q0 := hT.cell 0; have q1 := hT.cell 1; have q2 := hT.cell 2; have q3 := hT.cell 3; simp only [List.getElem?_toArray, List.getElem?_cons_zero, List.getElem?_cons_succ] at q0 q1 q2 q3; have HT := Lib.hid hT; clear hown hmv hT))
              refine ⟨⟨k + 1, hlt, by go_num, Lib.hid ?_⟩, by simp [intOf]; omega⟩
              have := HT.out.toBT
              rw [HBN.out, HTN.out]
              simpa only [List.append_nil] using this
          · have hke : ¬ (k : Int) < (es.length : Int) := by omega
            have hkn : k = es.length := by omega
            have HF2 : Hid (∀ n w, Calls Try.prog 21 #[.int .i64 n, .int .i64 2] w (RetB w.heap.size w (fixL n 2))) := Lib.hid fun n w => fixed_yes n 2 (by omega) w
            have HEND : Hid (blockL es = bodyN es k ++ tailN es k ++ fixL (wrap64 (((tailN es k).length : Int) / 4)) 2) := Lib.hid (by unfold blockL; rw [hkn, tailN_len, IntWalk.wrap64_in _ (by omega)]; congr 2; omega)
            have HLE := Lib.hid (Nat.le_refl 0)
            clear hkn
            have HO := Lib.hid HT.out.tail.read
            obtain ⟨ta, tc, hta, _, _⟩ := HO.out.form
            subst hta
            go_wp2_with (first | (at_builtin; refine wpList_plain rfl fun K' hK' => ?_; refine wp_append_at (.tmp 52) (.tmp 53) 23 rfl 5 1 1 (.int .u8 0) Try.underlying23 info_u8 rfl (by decide) _ _ _ _ _ _ rfl rfl HT.out.own0 HO.out (bv_oneCell _) (by have := HLB.out; have := HLT.out; have := HLE.out; (try simp only [List.length_append, fixL_length]); omega) (by unfold maxLen; have := HLB.out; have := HLT.out; have := HLE.out; (try simp only [List.length_append, fixL_length]); omega) (fun v' w' hown hmv => hK' _ _ ?_); have hT := HT.out.put hown hmv; have HT := Lib.hid hT; clear hown hmv hT) | (go_at_call 21; (refine (HF2.out _ _).mono ?_); rintro e u3 ⟨p3, rfl, ho3, hb3⟩; have hT := HT.out.call hb3; have HT := Lib.hid hT; have HO := Lib.hid ho3.read; clear ho3 hb3 hT) | (at_builtin; refine wpList_plain rfl fun K' hK' => ?_; refine wp_append_at (.tmp 55) (.tmp 59) 23 rfl 5 1 1 (.int .u8 0) Try.underlying23 info_u8 rfl (by decide) _ _ _ _ _ _ rfl rfl HT.out.own0 HO.out (bv_oneCell _) (by have := HLB.out; have := HLT.out; have := HLE.out; (try simp only [List.length_append, fixL_length]); omega) (by unfold maxLen; have := HLB.out; have := HLT.out; have := HLE.out; (try simp only [List.length_append, fixL_length]); omega) (fun v' w' hown hmv => hK' _ _ ?_); have hT := HT.out.put hown hmv; have HT := Lib.hid hT; clear hown hmv hT))
            go_ret2
            exact ⟨_, by rw [HE.out]; rfl, by rw [if_pos HE.out, HEND.out]; exact HT.out.own, HT.out.be⟩
theorem put_any (v : Value) (es : List Ent) (w : World) (hv : RdE w v es) (_ : SmallE es) : Calls Try.prog 9 #[v] w (RetPut w es) := put_any12 v es w hv
end Go.Proofs.Ytdcjfgbngmdkfaa

/-
  Blocks: the entries of a block, as the program tells them.
-/
namespace Go.Proofs.Ytdcjfgbngmdkfaa
open Go.RowKit

set_option maxRecDepth 100000 in
theorem equal_any12 (w : World) (va vb : Option Addr) (ca cb : Nat) (l b : List UInt8) (hl : RdB w (.slice va l.length ca) l) (hb : RdB w (.slice vb b.length cb) b) :
    Calls Try.prog 31 #[.slice va l.length ca, .slice vb b.length cb] w fun e w' => e = .returned (.bool (decide (l = b))) ∧ Below w.heap.size w w' := by
  have c1 := rdB_convert (P := Try.prog) hl 23 5 9 Try.underlying23 Try.underlying5 Try.underlying9
  have c2 := rdB_convert (P := Try.prog) hb 23 5 9 Try.underlying23 Try.underlying5 Try.underlying9
  clear hl hb
  go_enter Try.func31, Try.ntmps31
  go_wp2
  go_ret
  refine ⟨?_, Below.refl _ _⟩
  by_cases hlb : l = b <;> simp [hlb]

set_option maxRecDepth 100000 in
set_option maxHeartbeats 400000 in
theorem get_any0 (v : Value) (b : List UInt8) (w : World) (hv : RdB w v b) (hl : b.length ≤ 1000000) : Calls Try.prog 11 #[v] w (RetGet w b) := by
  by_cases g1 : b.length < 2
  · have HNO := Lib.hid (show getB b = none from getB_none fun es h => by have := h.count; omega)
    have HS := Lib.hid (split_short v b w hv g1)
    clear hv
    go_enter Try.func11, Try.ntmps11
    go_wp2_with (go_at_call 29; (refine HS.out.mono ?_); rintro e w1 ⟨rfl, hb1⟩)
    go_ret2
    exact RetGet.no HNO.out hb1
  · by_cases g2 : b.length < 2 + 4 * valL (b.drop (b.length - 2))
    · have HNO := Lib.hid (show getB b = none from getB_none fun es h => by have := h.count; omega)
      have HS := Lib.hid (split_no v b w hv (by omega) g2)
      clear hv g2
      go_enter Try.func11, Try.ntmps11
      go_wp2_with (go_at_call 29; (refine HS.out.mono ?_); rintro e w1 ⟨rfl, hb1⟩)
      go_ret2
      exact RetGet.no HNO.out hb1
    · obtain ⟨n, hn⟩ : ∃ n, valL (b.drop (b.length - 2)) = n := ⟨_, rfl⟩
      rw [hn] at g2
      have HS := Lib.hid (split_yes v b w hv n (b.length - 2 - 4 * n) hn (by omega))
      have HBO : Hid (∀ es, IsBlk b es → IsBody (b.take (b.length - 2 - 4 * n)) es ∧ es.length ≤ 64 ∧ putErr es = 0 ∧ blockL es = b) := Lib.hid fun es h => by
        have h1 := h.body
        rw [hn] at h1
        exact ⟨h1, (putErr_ok h.1).2.2, h.1, h.2⟩
      have hcl : (b.take (b.length - 2 - 4 * n)).length ≤ 1000000 := by rw [List.length_take]; omega
      have HV := Lib.hid hv
      obtain ⟨va, vc, rfl, _, _⟩ := hv.form
      clear hv hn g2 g1
      generalize b.take (b.length - 2 - 4 * n) = c at *
      go_enter Try.func11, Try.ntmps11
      go_upto_region 6 with (first | (go_at_call 29; (refine HS.out.mono ?_); rintro e w1 ⟨x, y, rfl, hx, _, hb1⟩; have HX := Lib.hid hx; have HB1 := Lib.hid hb1; clear hx hb1) | (go_at_call 30; (refine (readAll_any x c w1 HX.out hcl).mono ?_); rintro e w2 ⟨acc, xl, ok, rfl, ho2, hf2, hn2, hq2, hz2, hb2⟩; have HO2 := Lib.hid ho2; have HF2 := Lib.hid hf2; have HQ2 := Lib.hid hq2; have HZ2 := Lib.hid hz2; have HB2 := Lib.hid hb2; clear ho2 hf2 hq2 hz2 hb2) | (go_at_call 9; (refine (put_any12 xl acc w2 (HO2.out.read HF2.out)).mono ?_); rintro e w3 ⟨xp, rfl, ho3, hb3⟩; have HO3 := Lib.hid ho3; have HB3 := Lib.hid hb3; clear ho3 hb3))
      have HBW : Hid (Below w.heap.size w w3) := Lib.hid ((HB1.out.trans (HB2.out.mono HB1.out.size)).trans (HB3.out.mono (Nat.le_trans HB1.out.size HB2.out.size)))
      have HOW : Hid (OwnE w3 w.heap.size xl acc) := Lib.hid (own_monoE (HO2.out.below HB3.out) HB1.out.size)
      cases ok with
      | false =>
        have HR := Lib.hid (show getB b = none from getB_none fun es he => by
          obtain ⟨h1, h2, _⟩ := HBO.out es he
          have := (HQ2.out es h1 h2).1
          cases this)
        go_wp2
        go_ret2
        exact RetGet.no HR.out HBW.out
      | true =>
        have HQ : Hid (∀ es, IsBlk b es → es = acc) := Lib.hid fun es he => (HQ2.out es (HBO.out es he).1 (HBO.out es he).2.1).2
        by_cases he0 : putErr acc = 0
        · have hoe : OwnB w3 w2.heap.size 5 xp (blockL acc) := by
            have h := HO3.out
            rw [if_pos he0] at h
            exact h
          have hpe : ((putErr acc : Int) != 0) = false := by rw [he0]; rfl
          obtain ⟨pa, pc, hpa, _, _⟩ := hoe.read.form
          subst hpa
          have HEQ := Lib.hid (fun wz (hz : Below w3.heap.size w3 wz) => equal_any12 wz pa va pc vc (blockL acc) b (hoe.read.below hz (Nat.le_refl _)) ((HV.out.below HBW.out (Nat.le_refl _)).below hz (Nat.le_refl _)))
          by_cases hbq : blockL acc = b
          · have HIS := Lib.hid (show IsBlk b acc from ⟨he0, hbq⟩)
            have hdt : decide (blockL acc = b) = true := by simpa using hbq
            rw [hdt] at HEQ
            clear hdt hbq he0 hoe HO3
            generalize blockL acc = P at *
            generalize putErr acc = er at *
            go_wp2_with (go_at_call 31; (refine (HEQ.out _ (Below.refl _ _)).mono ?_); rintro e w4 ⟨rfl, hb4⟩)
            go_ret2
            exact RetGet.yes HIS.out (HOW.out.below hb4) (HBW.out.trans (hb4.mono HBW.out.size))
          · have HR := Lib.hid (show getB b = none from getB_none fun es he => hbq (by rw [← HQ.out es he]; exact he.2))
            have hdt : decide (blockL acc = b) = false := by simpa using hbq
            rw [hdt] at HEQ
            clear hdt hbq he0 hoe HO3
            generalize blockL acc = P at *
            generalize putErr acc = er at *
            go_wp2_with (go_at_call 31; (refine (HEQ.out _ (Below.refl _ _)).mono ?_); rintro e w4 ⟨rfl, hb4⟩)
            go_ret2
            exact RetGet.no HR.out (HBW.out.trans (hb4.mono HBW.out.size))
        · have HR := Lib.hid (show getB b = none from getB_none fun es he => he0 (by rw [← HQ.out es he]; exact he.1))
          have hpe : ((putErr acc : Int) != 0) = true := by simpa using he0
          clear he0 HO3
          generalize putErr acc = er at *
          go_wp2
          go_ret2
          exact RetGet.no HR.out HBW.out
theorem get_any12 : GetC := fun v b w hv hl => get_any0 v b w hv hl
end Go.Proofs.Ytdcjfgbngmdkfaa
