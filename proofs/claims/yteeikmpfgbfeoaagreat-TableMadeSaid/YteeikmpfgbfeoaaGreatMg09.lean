import Derived.Test.YteeikmpfgbfeoaaGreatMg08
import Derived.Test.YteeikmpfgbfeoaaGreatFrameMath
import Derived.Test.YteeikmpfgbfeoaaGreatFrame
import Derived.Test.YteeikmpfgbfeoaaGreatFixed
import Derived.Test.YteeikmpfgbfeoaaGreatKeyMay
import Derived.Test.YteeikmpfgbfeoaaGreatMg00
import Derived.Test.YteeikmpfgbfeoaaGreatMg02
import Derived.Test.YteeikmpfgbfeoaaGreatMg03
import Derived.Test.YteeikmpfgbfeoaaGreatMg04

/-
  Blocks: a block of entries, as the program tells it.
-/
namespace Go.Proofs.YteeikmpfgbfeoaaGreat
open Go.RowKit

theorem comL_turn : ∀ (x y : List UInt8), comL x y = comL y x
  | [], [] => rfl
  | [], _ :: _ => by unfold comL; rfl
  | _ :: _, [] => by unfold comL; rfl
  | a :: x, b :: y => by
    unfold comL
    rw [comL_turn x y]
    by_cases h : a = b
    · rw [if_pos h, if_pos h.symm]
    · rw [if_neg h, if_neg fun e => h e.symm]

/-- Two rows of bytes that are put together, and a box of cells beside them. -/
structure BX (W : World) (B q : Nat) (cs : List Value) (ty : TypeId) (w : World) (xb xt : Value) (r t : List UInt8) : Prop extends BT W B w xb xt r t where
  box : w.heap[q]? = some (.cells cs.toArray ty (0, 0))
  nb : xb.ownBlock ≠ some q
  nt : xt.ownBlock ≠ some q
section
variable {W w w' : World} {B q : Nat} {cs : List Value} {ty : TypeId} {xb xt v' : Value} {r t n : List UInt8}
theorem BX.cell (h : BX W B q cs ty w xb xt r t) (i : Nat) : w.cell? ⟨q, i, none⟩ = cs.toArray[i]? := blk_cell (i := i) h.box
theorem BX.start (h : BT W B w xb xt r t) (cs : List Value) (ty : TypeId) : BX W B w.heap.size cs ty (w.alloc (.cells cs.toArray ty)) xb xt r t where
  toBT := h.call ((Below.refl _ _).alloc (Nat.le_refl _) _)
  box := heap_alloc_new w _
  nb e := by have := own_lt h.own _ e; omega
  nt e := by have := own_lt h.tail _ e; omega
theorem BX.call (h : BX W B q cs ty w xb xt r t) (hb : Below w.heap.size w w') : BX W B q cs ty w' xb xt r t where
  toBT := h.toBT.call hb
  box := (hb.block q (blk_lt h.box)).trans h.box
  nb := h.nb
  nt := h.nt
theorem BX.put (h : BX W B q cs ty w xb xt r t) (ho : w'.ownsRow 0 5 1 v' (r.length + n.length) (r.map bv ++ n.map bv)) (hm : Moves w w' xb v') : BX W B q cs ty w' v' xt (r ++ n) t where
  toBT := h.toBT.put ho hm
  box := (hm.grown.block q (blk_lt h.box) (fun e => h.nb e.symm)).trans h.box
  nb e := by
    rcases hm.at_ q e with e | e
    · exact h.nb e
    · have := blk_lt h.box
      omega
  nt := h.nt
theorem BX.more (h : BX W B q cs ty w xb xt r t) (ho : w'.ownsRow 0 5 1 v' (t.length + n.length) (t.map bv ++ n.map bv)) (hm : Moves w w' xt v') : BX W B q cs ty w' xb v' r (t ++ n) where
  toBT := h.toBT.more ho hm
  box := (hm.grown.block q (blk_lt h.box) (fun e => h.nt e.symm)).trans h.box
  nb := h.nb
  nt e := by
    rcases hm.at_ q e with e | e
    · exact h.nt e
    · have := blk_lt h.box
      omega
end

set_option maxRecDepth 100000 in
set_option maxHeartbeats 400000 in
theorem put_any12 (v : Value) (es : List Ent) (w : World) (hv : RdE w v es) : Calls Tryz.prog 20 #[v] w (RetPut w es) := by
  have HRI := Lib.hid (rising_any v es w hv)
  have HV := Lib.hid hv
  obtain ⟨va, vc, rfl, hc1, hc2⟩ := hv.form
  unfold maxLen at hc2
  clear hv
  by_cases hn : es = []
  · have HE := Lib.hid (show putErr es = 1 by unfold putErr; rw [if_pos (.inr hn)])
    have hl0 : (es.length : Int) = 0 := by rw [hn]; rfl
    have hlb : ((es.length : Int) == 0) = true := by rw [hl0]; rfl
    clear hn HRI
    go_enter Tryz.func20, Tryz.ntmps20
    go_wp2
    go_ret2
    exact RetPut.no HE.out (by omega) (Below.refl _ _)
  · have hpos := List.length_pos_iff.2 hn
    have hlb : ((es.length : Int) == 0) = false := by
      have : (es.length : Int) ≠ 0 := by omega
      simpa using this
    have RISE : Hid (∀ b, risingB es = b → Calls Tryz.prog 18 #[.slice va es.length vc] w fun e w' => e = .returned (.bool b) ∧ Below w.heap.size w w') := Lib.hid fun b h => by rw [← h]; exact HRI.out
    clear HRI
    cases hr : risingB es with
    | false =>
      have HE := Lib.hid (show putErr es = 1 by unfold putErr; rw [if_pos (.inl hr)])
      have H1 := Lib.hid (RISE.out _ hr)
      clear RISE hr hn
      go_enter Tryz.func20, Tryz.ntmps20
      go_wp2_with (go_at_call 18; (refine H1.out.mono ?_); rintro e w1 ⟨rfl, hb1⟩)
      go_ret2
      exact RetPut.no HE.out (by omega) hb1
    | true =>
      have H1 := Lib.hid (RISE.out _ hr)
      have HRI := Lib.hid hr
      clear RISE hr
      by_cases h64 : 64 < es.length
      · have HE := Lib.hid (show putErr es = 4 by unfold putErr; rw [if_neg (by rw [HRI.out]; simpa using hn), if_pos h64])
        have g1 : decide ((64 : Int) < (es.length : Int)) = true := by simp; omega
        clear hn
        go_enter Tryz.func20, Tryz.ntmps20
        go_wp2_with (go_at_call 18; (refine H1.out.mono ?_); rintro e w1 ⟨rfl, hb1⟩)
        go_ret2
        exact RetPut.no HE.out (by omega) hb1
      · have HE := Lib.hid (show putErr es = 0 by unfold putErr; rw [if_neg (by rw [HRI.out]; simpa using hn), if_neg h64])
        have g1 : decide ((64 : Int) < (es.length : Int)) = false := by simp; omega
        have h64' : es.length ≤ 64 := by omega
        have HMAY := Lib.hid (fun k (hk : k < es.length) => rising_may HRI.out hk)
        have HBL := Lib.hid (bodyN_len HMAY.out)
        clear hn h64 hpos
        go_enter Tryz.func20, Tryz.ntmps20
        go_wp2_with (go_at_call 18; (refine H1.out.mono ?_); rintro e w1 ⟨rfl, hb1⟩)
        go_loopw [4, 5, 22] (fun b t i wr => ∃ k : Nat, k ≤ es.length ∧ i = .int .i64 (k : Int) ∧ Hid (BT w w.heap.size wr b t (bodyN es k) (tailN es k))) (fun _ _ i _ => es.length - (intOf i).toNat)
        case atStart => exact ⟨0, Nat.zero_le _, rfl, Lib.hid (BT.start hb1 hb1.size)⟩
        case round =>
          obtain ⟨k, hk, rfl, HT⟩ := hrel
          have HLB := Lib.hid (HBL.out k hk)
          have HLT := Lib.hid (tailN_len es k)
          by_cases hlt : k < es.length
          · obtain ⟨_, _, hva, hone⟩ := HV.out.one
            cases hva
            obtain ⟨b, off, rfl, hbw, c0, c1, c2, c3, hfit⟩ := hone k hlt
            have HBW := Lib.hid hbw
            replace c0 := (HT.out.be.cell (p := ⟨b, off + k * 4, none⟩) hbw).trans c0
            replace c1 := (HT.out.be.cell (p := ⟨b, off + k * 4 + 1, none⟩) hbw).trans c1
            replace c2 := (HT.out.be.cell (p := ⟨b, off + k * 4 + 2, none⟩) hbw).trans c2
            replace c3 := (HT.out.be.cell (p := ⟨b, off + k * 4 + 3, none⟩) hbw).trans c3
            have HM := Lib.hid (may_facts (HMAY.out k hlt))
            have HBN : Hid (bodyN es (k + 1) = bodyN es k ++ entB (es.getD k Ent.none_) (shE es k)) := Lib.hid rfl
            have HTN : Hid (tailN es (k + 1) = tailN es k ++ (if k % 4 = 0 then fixL (((bodyN es k).length : Nat) : Int) 4 else [])) := Lib.hid rfl
            have HSE := Lib.hid (shE_le es k)
            have HF4 : Hid (∀ n w, Calls Tryz.prog 42 #[.int .i64 n, .int .i64 4] w (RetB w.heap.size w (fixL n 4))) := Lib.hid fun n w => fixed_yes n 4 (by omega) w
            have HLE := Lib.hid (entB_le (HMAY.out k hlt) HSE.out.1)
            have HPE : Hid (∀ wz, Calls Tryz.prog 44 #[entV (es.getD k Ent.none_), .int .i64 (shE es k : Int)] wz (RetB wz.heap.size wz (entB (es.getD k Ent.none_) (shE es k)))) := Lib.hid fun wz => putEntry_any _ _ _ _ _ (by have := HSE.out.1; rw [size_list] at this; exact this) (HMAY.out k hlt) wz
            clear hone hfit hbw
            obtain ⟨ba, bc, hba, _, _⟩ := HT.out.own.read.form
            subst hba
            by_cases h4 : k % 4 = 0
            · have HS0 := Lib.hid (show shE es k = 0 by unfold shE; rw [if_pos h4])
              have m1 : (k : Int).tmod 4 = 0 := by rw [Int.tmod_eq_emod_of_nonneg (by omega)]; omega
              have m2 : (k : Int) % 4 = 0 := by omega
              rw [HS0.out] at HBN HSE HLE HPE
              rw [if_pos h4] at HTN
              generalize es.getD k Ent.none_ = X at *
              obtain ⟨xu, xs, xk, xv⟩ := X
              simp only at c0 c1 c2 c3
              replace HPE : Hid (∀ wz, Calls Tryz.prog 44 #[.agg #[.string xu, .int .i64 xs, .int .i64 xk, .string xv], .int .i64 0] wz (RetB wz.heap.size wz (entB ⟨xu, xs, xk, xv⟩ 0))) := HPE
              have hT := BX.start HT.out [.string xu, .int .i64 xs, .int .i64 xk, .string xv] 39
              have q0 := hT.cell 0; have q1 := hT.cell 1; have q2 := hT.cell 2; have q3 := hT.cell 3; simp only [List.getElem?_toArray, List.getElem?_cons_zero, List.getElem?_cons_succ] at q0 q1 q2 q3; 
              have HT := Lib.hid hT
              clear hT h4
              go_wp2_with (first | (go_at_call 42; (refine (HF4.out _ _).mono ?_); rintro e u3 ⟨p3, rfl, ho3, hb3⟩; have hT := HT.out.call hb3; have q0 := hT.cell 0; have q1 := hT.cell 1; have q2 := hT.cell 2; have q3 := hT.cell 3; simp only [List.getElem?_toArray, List.getElem?_cons_zero, List.getElem?_cons_succ] at q0 q1 q2 q3; have HT := Lib.hid hT; have HO := Lib.hid ho3.read; clear ho3 hb3 hT) | (at_builtin; refine wpList_plain rfl fun K' hK' => ?_; refine wp_append_at (.tmp 30) (.tmp 33) 24 rfl 5 1 1 (.int .u8 0) Tryz.underlying24 info_u8 rfl (by decide) _ _ _ _ _ _ rfl rfl HT.out.tail0 HO.out (bv_oneCell _) (by have := HLT.out; rw [fixL_length]; omega) (by unfold maxLen; have := HLT.out; rw [fixL_length]; omega) (fun v' w' hown hmv => hK' _ _ ?_); have hT := HT.out.more hown hmv; have q0 := hT.cell 0; have q1 := hT.cell 1; have q2 := hT.cell 2; have q3 := hT.cell 3; simp only [List.getElem?_toArray, List.getElem?_cons_zero, List.getElem?_cons_succ] at q0 q1 q2 q3; have HT := Lib.hid hT; clear hown hmv hT) | (go_at_call 44; (refine (HPE.out _).mono ?_); rintro e u3 ⟨p3, rfl, ho3, hb3⟩; have hT := HT.out.call hb3; have q0 := hT.cell 0; have q1 := hT.cell 1; have q2 := hT.cell 2; have q3 := hT.cell 3; simp only [List.getElem?_toArray, List.getElem?_cons_zero, List.getElem?_cons_succ] at q0 q1 q2 q3; have HT := Lib.hid hT; have HO := Lib.hid ho3.read; clear ho3 hb3 hT) | (at_builtin; refine wpList_plain rfl fun K' hK' => ?_; refine wp_append_at (.tmp 46) (.tmp 49) 24 rfl 5 1 1 (.int .u8 0) Tryz.underlying24 info_u8 rfl (by decide) _ _ _ _ _ _ rfl rfl HT.out.own0 HO.out (bv_oneCell _) (by have := HLB.out; have := HLT.out; have := HLE.out; (try simp only [List.length_append, fixL_length]); omega) (by unfold maxLen; have := HLB.out; have := HLT.out; have := HLE.out; (try simp only [List.length_append, fixL_length]); omega) (fun v' w' hown hmv => hK' _ _ ?_); have hT := HT.out.put hown hmv; have q0 := hT.cell 0; have q1 := hT.cell 1; have q2 := hT.cell 2; have q3 := hT.cell 3; simp only [List.getElem?_toArray, List.getElem?_cons_zero, List.getElem?_cons_succ] at q0 q1 q2 q3; have HT := Lib.hid hT; clear hown hmv hT))
              refine ⟨⟨k + 1, hlt, by go_num, Lib.hid ?_⟩, by simp [intOf]; omega⟩
              have := HT.out.toBT
              rw [HBN.out, HTN.out]
              exact this
            · have hk1 : 1 ≤ k := by omega
              obtain ⟨_, _, hva, hone⟩ := HV.out.one
              cases hva
              obtain ⟨_, _, hbb, _, p0, _, _, _, hfp⟩ := hone (k - 1) (by omega)
              cases hbb
              replace p0 := (HT.out.be.cell (p := ⟨b, off + (k - 1) * 4, none⟩) HBW.out).trans p0
              have HPRE : Hid (prevU es k = uL (es.getD (k - 1) Ent.none_)) := Lib.hid (by unfold prevU; rw [if_neg (by omega)])
              have HS0 : Hid (shE es k = comL (uL (es.getD (k - 1) Ent.none_)) (uL (es.getD k Ent.none_))) := Lib.hid (by unfold shE; rw [if_neg h4, HPRE.out, comL_turn])
              rw [if_neg h4] at HTN
              obtain ⟨mm, hmm⟩ : ∃ mm, k % 4 = mm := ⟨_, rfl⟩
              have m1 : (k : Int).tmod 4 = (mm : Int) := by rw [Int.tmod_eq_emod_of_nonneg (by omega)]; omega
              have m2 : (k : Int) % 4 = (mm : Int) := by omega
              have m0 : ((mm : Int) == 0) = false := by
                have : (mm : Int) ≠ 0 := by omega
                simpa using this
              have HSH := Lib.hid (fun w => common_any (es.getD (k - 1) Ent.none_).u (es.getD k Ent.none_).u (by have := (may_facts (HMAY.out (k - 1) (by omega))).1; rw [size_list] at this; unfold maxLen; omega) w)
              have hp0 : wr.cell? ⟨b, off + (k - 1) * 4, none⟩ = some (.string (es.getD (k - 1) Ent.none_).u) := p0
              rw [← HS0.out] at HSH
              generalize (es.getD (k - 1) Ent.none_).u = pu at *
              generalize es.getD k Ent.none_ = X at *
              generalize shE es k = sx at *
              obtain ⟨xu, xs, xk, xv⟩ := X
              simp only at c0 c1 c2 c3
              replace HPE : Hid (∀ wz, Calls Tryz.prog 44 #[.agg #[.string xu, .int .i64 xs, .int .i64 xk, .string xv], .int .i64 (sx : Int)] wz (RetB wz.heap.size wz (entB ⟨xu, xs, xk, xv⟩ sx))) := HPE
              have hT := BX.start HT.out [.string xu, .int .i64 xs, .int .i64 xk, .string xv] 39
              have zB0 := hT.cell 0
              simp only [List.getElem?_toArray, List.getElem?_cons_zero] at zB0
              have zB1 := (hT.be.cell (p := ⟨b, off + (k - 1) * 4, none⟩) HBW.out).trans ((HT.out.be.cell (p := ⟨b, off + (k - 1) * 4, none⟩) HBW.out).symm.trans hp0)
              have HT := Lib.hid hT
              have HMM := Lib.hid (show mm ≠ 0 by omega)
              clear hT h4 hone p0 hp0 hfp
              go_upto_region 13 with (fail)
              refine wp_region_plan [(true, 0), (true, 1), (true, 2), (true, 3), (true, 4), (true, 5), (true, 6), (true, 7), (true, 8), (true, 9), (false, 10), (true, 11)] (by kernel_rfl) (by kernel_rfl) (by kernel_rfl) (by kernel_rfl) (by kernel_rfl) ?_
              simp only [planO, List.drop_succ_cons, List.drop_zero]
              refine PlanO.take (v := ?v0) (by kernel_rfl) ?y0 ?r0
              case y0 => (intro wz hz; go_simp; try with_reducible rfl)
              (try simp only [Act.put, List.setIfInBounds_toArray, List.set_cons_zero, List.set_cons_succ])
              refine PlanO.take (v := ?v1) (by kernel_rfl) ?y1 ?r1
              case y1 => (intro wz hz; go_simp; try with_reducible rfl)
              (try simp only [Act.put, List.setIfInBounds_toArray, List.set_cons_zero, List.set_cons_succ])
              refine PlanO.take (v := .int .i64 ((k - 1 : Nat) : Int)) (by kernel_rfl) ?y2 ?r2
              case y2 => (intro wz hz; go_simp; rw [IntWalk.i64_in _ (by omega)]; omega)
              (try simp only [Act.put, List.setIfInBounds_toArray, List.set_cons_zero, List.set_cons_succ])
              refine PlanO.take (v := .pointer (some ⟨b, off + (k - 1) * 4, none⟩)) (by kernel_rfl) ?y3 ?r3
              case y3 => (intro wz hz; have hkb : ((k - 1 : Nat) : Int) < (es.length : Int) := (by omega); go_simp; try (intro hkc; omega))
              (try simp only [Act.put, List.setIfInBounds_toArray, List.set_cons_zero, List.set_cons_succ])
              refine PlanO.take (v := .pointer (some ⟨b, off + (k - 1) * 4, none⟩)) (by kernel_rfl) ?y4 ?r4
              case y4 => (intro wz hz; go_simp; try with_reducible rfl)
              (try simp only [Act.put, List.setIfInBounds_toArray, List.set_cons_zero, List.set_cons_succ])
              refine PlanO.take (v := .pointer (some ⟨b, off + (k - 1) * 4, none⟩)) (by kernel_rfl) ?y5 ?r5
              case y5 => (intro wz hz; go_simp; try with_reducible rfl)
              (try simp only [Act.put, List.setIfInBounds_toArray, List.set_cons_zero, List.set_cons_succ])
              refine PlanO.take (v := .string pu) (by kernel_rfl) ?y6 ?r6
              case y6 => (intro wz hz; have c1 := Ext.at_ hz zB1; go_simp; try with_reducible rfl)
              (try simp only [Act.put, List.setIfInBounds_toArray, List.set_cons_zero, List.set_cons_succ])
              refine PlanO.take (v := .pointer (some ⟨wr.heap.size, 0, none⟩)) (by kernel_rfl) ?y7 ?r7
              case y7 => (intro wz hz; go_simp; try with_reducible rfl)
              (try simp only [Act.put, List.setIfInBounds_toArray, List.set_cons_zero, List.set_cons_succ])
              refine PlanO.take (v := .pointer (some ⟨wr.heap.size, 0, none⟩)) (by kernel_rfl) ?y8 ?r8
              case y8 => (intro wz hz; go_simp; try with_reducible rfl)
              (try simp only [Act.put, List.setIfInBounds_toArray, List.set_cons_zero, List.set_cons_succ])
              refine PlanO.take (v := .string xu) (by kernel_rfl) ?y9 ?r9
              case y9 => (intro wz hz; have c0 := Ext.at_ hz zB0; go_simp; try with_reducible rfl)
              (try simp only [Act.put, List.setIfInBounds_toArray, List.set_cons_zero, List.set_cons_succ])
              refine PlanO.exec (fun K hK => ?_)
              go_simp
              go_at_call 43
              (refine (HSH.out _).mono ?_)
              rintro e w3 ⟨rfl, hb3⟩
              have HT9 := Lib.hid ((HT.out.call (Below.refl _ _).drew).call hb3)
              go_wp2_with fail
              refine hK.out _ _ hb3 ?_
              clear hK K
              (try simp only [Act.put, List.setIfInBounds_toArray, List.set_cons_zero, List.set_cons_succ])
              refine PlanO.take (v := ?v11) (by kernel_rfl) ?y11 ?r11
              case y11 => (intro wz hz; go_simp; try with_reducible rfl)
              (try simp only [Act.put, List.setIfInBounds_toArray, List.set_cons_zero, List.set_cons_succ])
              refine PlanO.done (NoPanic.normal ?_)
              have hT := HT9.out
              have q0 := hT.cell 0; have q1 := hT.cell 1; have q2 := hT.cell 2; have q3 := hT.cell 3; simp only [List.getElem?_toArray, List.getElem?_cons_zero, List.getElem?_cons_succ] at q0 q1 q2 q3; 
              clear HT hT
              have HT := HT9
              clear HT9
              go_wp2_with (first | (go_at_call 42; (refine (HF4.out _ _).mono ?_); rintro e u3 ⟨p3, rfl, ho3, hb3⟩; have hT := HT.out.call hb3; have q0 := hT.cell 0; have q1 := hT.cell 1; have q2 := hT.cell 2; have q3 := hT.cell 3; simp only [List.getElem?_toArray, List.getElem?_cons_zero, List.getElem?_cons_succ] at q0 q1 q2 q3; have HT := Lib.hid hT; have HO := Lib.hid ho3.read; clear ho3 hb3 hT) | (at_builtin; refine wpList_plain rfl fun K' hK' => ?_; refine wp_append_at (.tmp 30) (.tmp 33) 24 rfl 5 1 1 (.int .u8 0) Tryz.underlying24 info_u8 rfl (by decide) _ _ _ _ _ _ rfl rfl HT.out.tail0 HO.out (bv_oneCell _) (by have := HLT.out; rw [fixL_length]; omega) (by unfold maxLen; have := HLT.out; rw [fixL_length]; omega) (fun v' w' hown hmv => hK' _ _ ?_); have hT := HT.out.more hown hmv; have q0 := hT.cell 0; have q1 := hT.cell 1; have q2 := hT.cell 2; have q3 := hT.cell 3; simp only [List.getElem?_toArray, List.getElem?_cons_zero, List.getElem?_cons_succ] at q0 q1 q2 q3; have HT := Lib.hid hT; clear hown hmv hT) | (go_at_call 44; (refine (HPE.out _).mono ?_); rintro e u3 ⟨p3, rfl, ho3, hb3⟩; have hT := HT.out.call hb3; have q0 := hT.cell 0; have q1 := hT.cell 1; have q2 := hT.cell 2; have q3 := hT.cell 3; simp only [List.getElem?_toArray, List.getElem?_cons_zero, List.getElem?_cons_succ] at q0 q1 q2 q3; have HT := Lib.hid hT; have HO := Lib.hid ho3.read; clear ho3 hb3 hT) | (at_builtin; refine wpList_plain rfl fun K' hK' => ?_; refine wp_append_at (.tmp 46) (.tmp 49) 24 rfl 5 1 1 (.int .u8 0) Tryz.underlying24 info_u8 rfl (by decide) _ _ _ _ _ _ rfl rfl HT.out.own0 HO.out (bv_oneCell _) (by have := HLB.out; have := HLT.out; have := HLE.out; (try simp only [List.length_append, fixL_length]); omega) (by unfold maxLen; have := HLB.out; have := HLT.out; have := HLE.out; (try simp only [List.length_append, fixL_length]); omega) (fun v' w' hown hmv => hK' _ _ ?_); have hT := HT.out.put hown hmv; have q0 := hT.cell 0; have q1 := hT.cell 1; have q2 := hT.cell 2; have q3 := hT.cell 3; simp only [List.getElem?_toArray, List.getElem?_cons_zero, List.getElem?_cons_succ] at q0 q1 q2 q3; have HT := Lib.hid hT; clear hown hmv hT))
              refine ⟨⟨k + 1, hlt, by go_num, Lib.hid ?_⟩, by simp [intOf]; omega⟩
              have := HT.out.toBT
              rw [HBN.out, HTN.out]
              simpa only [List.append_nil] using this
          · have hke : ¬ (k : Int) < (es.length : Int) := by omega
            have hkn : k = es.length := by omega
            have HF2 : Hid (∀ n w, Calls Tryz.prog 42 #[.int .i64 n, .int .i64 2] w (RetB w.heap.size w (fixL n 2))) := Lib.hid fun n w => fixed_yes n 2 (by omega) w
            have HEND : Hid (blockL es = bodyN es k ++ tailN es k ++ fixL (wrap64 (((tailN es k).length : Int) / 4)) 2) := Lib.hid (by unfold blockL; rw [hkn, tailN_len, IntWalk.wrap64_in _ (by omega)]; congr 2; omega)
            have HLE := Lib.hid (Nat.le_refl 0)
            clear hkn
            have HO := Lib.hid HT.out.tail.read
            obtain ⟨ta, tc, hta, _, _⟩ := HO.out.form
            subst hta
            go_wp2_with (first | (at_builtin; refine wpList_plain rfl fun K' hK' => ?_; refine wp_append_at (.tmp 52) (.tmp 53) 24 rfl 5 1 1 (.int .u8 0) Tryz.underlying24 info_u8 rfl (by decide) _ _ _ _ _ _ rfl rfl HT.out.own0 HO.out (bv_oneCell _) (by have := HLB.out; have := HLT.out; have := HLE.out; (try simp only [List.length_append, fixL_length]); omega) (by unfold maxLen; have := HLB.out; have := HLT.out; have := HLE.out; (try simp only [List.length_append, fixL_length]); omega) (fun v' w' hown hmv => hK' _ _ ?_); have hT := HT.out.put hown hmv; have HT := Lib.hid hT; clear hown hmv hT) | (go_at_call 42; (refine (HF2.out _ _).mono ?_); rintro e u3 ⟨p3, rfl, ho3, hb3⟩; have hT := HT.out.call hb3; have HT := Lib.hid hT; have HO := Lib.hid ho3.read; clear ho3 hb3 hT) | (at_builtin; refine wpList_plain rfl fun K' hK' => ?_; refine wp_append_at (.tmp 55) (.tmp 59) 24 rfl 5 1 1 (.int .u8 0) Tryz.underlying24 info_u8 rfl (by decide) _ _ _ _ _ _ rfl rfl HT.out.own0 HO.out (bv_oneCell _) (by have := HLB.out; have := HLT.out; have := HLE.out; (try simp only [List.length_append, fixL_length]); omega) (by unfold maxLen; have := HLB.out; have := HLT.out; have := HLE.out; (try simp only [List.length_append, fixL_length]); omega) (fun v' w' hown hmv => hK' _ _ ?_); have hT := HT.out.put hown hmv; have HT := Lib.hid hT; clear hown hmv hT))
            go_ret2
            exact ⟨_, by rw [HE.out]; rfl, by rw [if_pos HE.out, HEND.out]; exact HT.out.own, HT.out.be⟩
theorem put_any (v : Value) (es : List Ent) (w : World) (hv : RdE w v es) (_ : SmallE es) : Calls Tryz.prog 20 #[v] w (RetPut w es) := put_any12 v es w hv
end Go.Proofs.YteeikmpfgbfeoaaGreat

/-
  Tables: putEnd: what stands behind the filter's frame: the last frame, two places, how many entries there are, the mark.
-/
namespace Go.Proofs.YteeikmpfgbfeoaaGreat
open Go.RowKit

/-- A row as bytes. -/
def rwB (r : Rw) : List UInt8 := putT r.u.data.toList ++ putL (2 * r.s + r.k - 1).toNat ++ putL r.at_.toNat ++ putL r.n.toNat
def rwsB (rs : List Rw) : List UInt8 := rs.flatMap rwB
/-- The row's numbers are in their bounds. -/
structure RwOk (r : Rw) : Prop where
  u : r.u.size ≤ 64
  s0 : 0 ≤ r.s
  s1 : r.s ≤ 9007199254740992
  k0 : 1 ≤ r.k
  k1 : r.k ≤ 2
  a0 : 0 ≤ r.at_
  a1 : r.at_ ≤ 100000000
  n0 : 0 ≤ r.n
  n1 : r.n ≤ 100000000
theorem RwOk.len {r : Rw} (h : RwOk r) : (putT r.u.data.toList ++ putL (2 * r.s + r.k - 1).toNat).length ≤ 82 ∧ (putL r.at_.toNat).length ≤ 9 ∧ (putL r.n.toNat).length ≤ 9 ∧ (rwB r).length ≤ 100 := by
  have h1 := h.u; have h2 := h.s0; have h3 := h.s1; have h4 := h.k0; have h5 := h.k1; have h6 := h.a0; have h7 := h.a1; have h8 := h.n0; have h9 := h.n1
  have a := putL_length r.u.size (by omega)
  have b := putL_length (2 * r.s + r.k - 1).toNat (by omega)
  have c := putL_length r.at_.toNat (by omega)
  have d := putL_length r.n.toNat (by omega)
  unfold rwB putT
  simp only [List.length_append, str_len]
  omega
theorem rwsB_len {rs : List Rw} (h : ∀ r ∈ rs, RwOk r) : (rwsB rs).length ≤ 100 * rs.length := by
  induction rs with
  | nil => simp [rwsB]
  | cons r rs ih =>
    unfold rwsB at *
    rw [List.flatMap_cons, List.length_append, List.length_cons]
    have h1 := (h r List.mem_cons_self).len.2.2.2
    have h2 := ih fun x hx => h x (List.mem_cons_of_mem _ hx)
    omega
theorem rws_more (rs : List Rw) {k : Nat} (hk : k < rs.length) : rwsB (rs.take (k + 1)) = rwsB (rs.take k) ++ rwB (rs.getD k Rw.none_) := by
  unfold rwsB
  rw [List.take_add_one, List.flatMap_append]
  simp [List.getD, hk]
/-- What stands behind the filter's frame. -/
def endB (rs : List Rw) (fa la c : Int) : List UInt8 := frRaw (rwsB rs) ++ fixL fa 4 ++ fixL la 4 ++ fixL c 4 ++ [105, 99, 98, 49]
theorem endB_len {rs : List Rw} (h : ∀ r ∈ rs, RwOk r) (fa la c : Int) : (endB rs fa la c).length ≤ 100 * rs.length + 24 := by
  have := rwsB_len h
  unfold endB
  simp only [List.length_append, frRaw_length, fixL_length, List.length_cons, List.length_nil]
  omega

set_option maxRecDepth 100000 in
set_option maxHeartbeats 600000 in
theorem putEnd_any (v : Value) (rs : List Rw) (fa la c : Int) (w : World) (hv : RdR w v rs) (hok : ∀ r ∈ rs, RwOk r) (hl : rs.length ≤ 256) :
    Calls Tryz.prog 25 #[v, .int .i64 fa, .int .i64 la, .int .i64 c] w (RetB w.heap.size w (endB rs fa la c)) := by
  have HV := Lib.hid hv
  have HOK := Lib.hid hok
  obtain ⟨va, vc, rfl, hc1, hc2⟩ := hv.form
  unfold maxLen at hc2
  clear hv hok
  go_enter Tryz.func25, Tryz.ntmps25
  go_wp2
  go_loopw [9, 17] (fun b i wr => ∃ (k : Nat) (b' : Value), k ≤ rs.length ∧ b' = b ∧ i = .int .i64 (k : Int) ∧ Hid (BT w w.heap.size wr b' (.slice none 0 0) (rwsB (rs.take k)) [])) (fun _ i _ => rs.length - (intOf i).toNat)
  case atStart => exact ⟨0, _, Nat.zero_le _, rfl, rfl, Lib.hid (BT.start (Below.refl _ _) (Nat.le_refl _))⟩
  case round =>
    obtain ⟨k, xb, hk, rfl, rfl, HT⟩ := hrel
    by_cases hlt : k < rs.length
    · obtain ⟨_, _, hva, hone⟩ := HV.out.one
      cases hva
      obtain ⟨b, off, rfl, hbw, c0, c1, c2, c3, c4⟩ := hone k hlt
      have z0 := (HT.out.be.cell (p := ⟨b, off + k * 5, none⟩) hbw).trans c0
      have z1 := (HT.out.be.cell (p := ⟨b, off + k * 5 + 1, none⟩) hbw).trans c1
      have z2 := (HT.out.be.cell (p := ⟨b, off + k * 5 + 2, none⟩) hbw).trans c2
      have z3 := (HT.out.be.cell (p := ⟨b, off + k * 5 + 3, none⟩) hbw).trans c3
      have z4 := (HT.out.be.cell (p := ⟨b, off + k * 5 + 4, none⟩) hbw).trans c4
      have HMO := Lib.hid (rws_more rs hlt)
      have HLB : Hid ((rwsB (rs.take k)).length ≤ 25600) := Lib.hid (by
        have := rwsB_len (rs := rs.take k) fun r hr => HOK.out r (List.mem_of_mem_take hr)
        rw [List.length_take] at this
        omega)
      have hRK : RwOk (rs.getD k Rw.none_) := HOK.out _ (by simp only [List.getD, List.getElem?_eq_getElem hlt, Option.getD_some]; exact List.getElem_mem _)
      generalize rs.getD k Rw.none_ = X at *
      obtain ⟨xu, xs, xk, xa, xn⟩ := X
      simp only at z0 z1 z2 z3 z4
      have HLK : Hid ((putT xu.data.toList ++ putL (2 * xs + xk - 1).toNat).length ≤ 82) := Lib.hid hRK.len.1
      have HL1 : Hid ((putL xa.toNat).length ≤ 9) := Lib.hid hRK.len.2.1
      have HL2 : Hid ((putL xn.toNat).length ≤ 9) := Lib.hid hRK.len.2.2.1
      have HPK : Hid (∀ wz, Calls Tryz.prog 52 #[.agg #[.string xu, .int .i64 xs, .int .i64 xk]] wz (RetB wz.heap.size wz (putT xu.data.toList ++ putL (2 * xs + xk - 1).toNat))) := Lib.hid fun wz => kput_yes xu xs xk hRK.u hRK.s0 hRK.s1 hRK.k0 hRK.k1 wz
      have HP1 : Hid (∀ wz, Calls Tryz.prog 53 #[.int .i64 xa] wz (RetB wz.heap.size wz (putL xa.toNat))) := Lib.hid fun wz => put_pos xa hRK.a0 (by have := hRK.a1; simp only at this; omega) wz
      have HP2 : Hid (∀ wz, Calls Tryz.prog 53 #[.int .i64 xn] wz (RetB wz.heap.size wz (putL xn.toNat))) := Lib.hid fun wz => put_pos xn hRK.n0 (by have := hRK.n1; simp only at this; omega) wz
      have hkl : (k : Int) < (rs.length : Int) := by omega
      clear c0 c1 c2 c3 c4 hone hRK
      have HT0 := HT
      clear HT
      have hT := BX.start HT0.out [.string xu, .int .i64 xs, .int .i64 xk, .int .i64 xa, .int .i64 xn] 60
      have HT := Lib.hid hT
      clear hT
      go_wp2_with (first | (go_at_call 52; (with_reducible refine (HPK.out _).mono ?_); rintro e u3 ⟨p3, rfl, ho3, hb3⟩; have hT := HT.out.call hb3; have q0 := hT.cell 0; have q1 := hT.cell 1; have q2 := hT.cell 2; have q3 := hT.cell 3; have q4 := hT.cell 4; simp only [List.getElem?_toArray, List.getElem?_cons_zero, List.getElem?_cons_succ] at q0 q1 q2 q3 q4; have HT := Lib.hid hT; have HO := Lib.hid ho3.read; clear ho3 hb3 hT) | (go_at_call 53; (with_reducible refine (HP1.out _).mono ?_); rintro e u3 ⟨p3, rfl, ho3, hb3⟩; have hT := HT.out.call hb3; have q0 := hT.cell 0; have q1 := hT.cell 1; have q2 := hT.cell 2; have q3 := hT.cell 3; have q4 := hT.cell 4; simp only [List.getElem?_toArray, List.getElem?_cons_zero, List.getElem?_cons_succ] at q0 q1 q2 q3 q4; have HT := Lib.hid hT; have HO := Lib.hid ho3.read; clear ho3 hb3 hT) | (go_at_call 53; (with_reducible refine (HP2.out _).mono ?_); rintro e u3 ⟨p3, rfl, ho3, hb3⟩; have hT := HT.out.call hb3; have q0 := hT.cell 0; have q1 := hT.cell 1; have q2 := hT.cell 2; have q3 := hT.cell 3; have q4 := hT.cell 4; simp only [List.getElem?_toArray, List.getElem?_cons_zero, List.getElem?_cons_succ] at q0 q1 q2 q3 q4; have HT := Lib.hid hT; have HO := Lib.hid ho3.read; clear ho3 hb3 hT) | (at_builtin; refine wpList_plain rfl fun K' hK' => ?_; refine wp_append_at (.tmp 21) (.tmp 24) 24 rfl 5 1 1 (.int .u8 0) Tryz.underlying24 info_u8 rfl (by decide) _ _ _ _ _ _ rfl rfl HT.out.own0 HO.out (bv_oneCell _) (by have h1 := HLB.out; have h2 := HLK.out; have h3 := HL1.out; have h4 := HL2.out; (try simp only [List.length_append] at h2); (try simp only [List.length_append]); omega) (by unfold maxLen; have h1 := HLB.out; have h2 := HLK.out; have h3 := HL1.out; have h4 := HL2.out; (try simp only [List.length_append] at h2); (try simp only [List.length_append]); omega) (fun v' w' hown hmv => hK' _ _ ?_); have hT := HT.out.put hown hmv; have q0 := hT.cell 0; have q1 := hT.cell 1; have q2 := hT.cell 2; have q3 := hT.cell 3; have q4 := hT.cell 4; simp only [List.getElem?_toArray, List.getElem?_cons_zero, List.getElem?_cons_succ] at q0 q1 q2 q3 q4; have HT := Lib.hid hT; clear hown hmv hT) | (at_builtin; refine wpList_plain rfl fun K' hK' => ?_; refine wp_append_at (.tmp 26) (.tmp 29) 24 rfl 5 1 1 (.int .u8 0) Tryz.underlying24 info_u8 rfl (by decide) _ _ _ _ _ _ rfl rfl HT.out.own0 HO.out (bv_oneCell _) (by have h1 := HLB.out; have h2 := HLK.out; have h3 := HL1.out; have h4 := HL2.out; (try simp only [List.length_append] at h2); (try simp only [List.length_append]); omega) (by unfold maxLen; have h1 := HLB.out; have h2 := HLK.out; have h3 := HL1.out; have h4 := HL2.out; (try simp only [List.length_append] at h2); (try simp only [List.length_append]); omega) (fun v' w' hown hmv => hK' _ _ ?_); have hT := HT.out.put hown hmv; have q0 := hT.cell 0; have q1 := hT.cell 1; have q2 := hT.cell 2; have q3 := hT.cell 3; have q4 := hT.cell 4; simp only [List.getElem?_toArray, List.getElem?_cons_zero, List.getElem?_cons_succ] at q0 q1 q2 q3 q4; have HT := Lib.hid hT; clear hown hmv hT) | (at_builtin; refine wpList_plain rfl fun K' hK' => ?_; refine wp_append_at (.tmp 31) (.tmp 34) 24 rfl 5 1 1 (.int .u8 0) Tryz.underlying24 info_u8 rfl (by decide) _ _ _ _ _ _ rfl rfl HT.out.own0 HO.out (bv_oneCell _) (by have h1 := HLB.out; have h2 := HLK.out; have h3 := HL1.out; have h4 := HL2.out; (try simp only [List.length_append] at h2); (try simp only [List.length_append]); omega) (by unfold maxLen; have h1 := HLB.out; have h2 := HLK.out; have h3 := HL1.out; have h4 := HL2.out; (try simp only [List.length_append] at h2); (try simp only [List.length_append]); omega) (fun v' w' hown hmv => hK' _ _ ?_); have hT := HT.out.put hown hmv; have q0 := hT.cell 0; have q1 := hT.cell 1; have q2 := hT.cell 2; have q3 := hT.cell 3; have q4 := hT.cell 4; simp only [List.getElem?_toArray, List.getElem?_cons_zero, List.getElem?_cons_succ] at q0 q1 q2 q3 q4; have HT := Lib.hid hT; clear hown hmv hT))
      refine ⟨⟨k + 1, _, hlt, rfl, by go_num, Lib.hid ?_⟩, by simp [intOf]; omega⟩
      have := HT.out.toBT
      rw [HMO.out]
      unfold rwB
      simpa only [List.append_assoc] using this
    · have hkl : ¬ (k : Int) < (rs.length : Int) := by omega
      have HKE : Hid (rwsB (rs.take k) = rwsB rs) := Lib.hid (by rw [List.take_of_length_le (by omega)])
      have HLR : Hid ((rwsB rs).length ≤ 25600) := Lib.hid (by have := rwsB_len HOK.out; omega)
      rw [HKE.out] at HT
      obtain ⟨ba, bc, hba, _, _⟩ := HT.out.own.read.form
      subst hba
      have HFR : Hid (∀ wz x, RdB wz x (rwsB rs) → Calls Tryz.prog 21 #[x] wz (RetB wz.heap.size wz (frRaw (rwsB rs)))) := Lib.hid fun wz x hx => by
        have h := fput_any wz x _ hx (by have := HLR.out; omega)
        unfold frL at h
        rw [if_pos (by have := HLR.out; omega)] at h
        exact h
      have HFX : Hid (∀ n wz, Calls Tryz.prog 42 #[.int .i64 n, .int .i64 4] wz (RetB wz.heap.size wz (fixL n 4))) := Lib.hid fun n wz => fixed_yes n 4 (by omega) wz
      go_wp2_with (go_at_call 21; (refine (HFR.out _ _ HT.out.own.read).mono ?_); rintro e u3 ⟨p3, rfl, ho3, hb3⟩; have HO3 := Lib.hid ho3; have HB3 := Lib.hid (HT.out.be.trans (hb3.mono HT.out.bl)); have HS3 := Lib.hid (Nat.le_trans HT.out.bl hb3.size); have HBL := Lib.hid HT.out.bl; clear ho3 hb3)
      have hT0 : BT w w.heap.size u3 p3 (.slice none 0 0) (frRaw (rwsB rs)) [] := ⟨OwnB.mono_B HO3.out HBL.out, OwnB.nil _ _ _, (fun _ _ h => by cases h), HB3.out, HS3.out⟩
      have HT0 := Lib.hid (BX.start hT0 [.int .i64 fa, .int .i64 la, .int .i64 c] 3)
      have HQL : Hid (w.heap.size ≤ u3.heap.size) := HS3
      clear hT0 HO3 HB3 HS3 HT HKE
      go_loopw [12, 44] (fun b i wr => ∃ (j : Nat) (b' : Value), j ≤ 3 ∧ b' = b ∧ i = .int .i64 (j : Int) ∧ Hid (BX w w.heap.size u3.heap.size [.int .i64 fa, .int .i64 la, .int .i64 c] 3 wr b' (.slice none 0 0) (frRaw (rwsB rs) ++ ([fa, la, c].take j).flatMap fun n => fixL n 4) [])) (fun _ i _ => 3 - (intOf i).toNat)
      case atStart => exact ⟨0, _, by omega, rfl, rfl, by simpa using HT0⟩
      case round =>
        obtain ⟨j, xb, hj, rfl, rfl, HT⟩ := hrel
        have hT := HT.out
        have q0 := hT.cell 0; have q1 := hT.cell 1; have q2 := hT.cell 2; simp only [List.getElem?_toArray, List.getElem?_cons_zero, List.getElem?_cons_succ] at q0 q1 q2
        have HLE : Hid ((frRaw (rwsB rs) ++ ([fa, la, c].take j).flatMap fun n => fixL n 4).length ≤ 30000) := Lib.hid (by
          rw [List.length_append, frRaw_length]
          have := HLR.out
          have h2 : (([fa, la, c].take j).flatMap fun n => fixL n 4).length ≤ 12 := by
            obtain rfl | rfl | rfl | rfl : j = 0 ∨ j = 1 ∨ j = 2 ∨ j = 3 := by omega
            all_goals simp [fixL_length]
          omega)
        clear hT
        by_cases hlt : j < 3
        · obtain rfl | rfl | rfl : j = 0 ∨ j = 1 ∨ j = 2 := by omega
          · go_wp2_with (first | (go_at_call 42; (with_reducible refine (HFX.out _ _).mono ?_); rintro e u3 ⟨p3, rfl, ho3, hb3⟩; have hT := HT.out.call hb3; have q0 := hT.cell 0; have q1 := hT.cell 1; have q2 := hT.cell 2; simp only [List.getElem?_toArray, List.getElem?_cons_zero, List.getElem?_cons_succ] at q0 q1 q2; have HT := Lib.hid hT; have HO := Lib.hid ho3.read; clear ho3 hb3 hT) | (at_builtin; refine wpList_plain rfl fun K' hK' => ?_; refine wp_append_at (.tmp 48) (.tmp 50) 24 rfl 5 1 1 (.int .u8 0) Tryz.underlying24 info_u8 rfl (by decide) _ _ _ _ _ _ rfl rfl HT.out.own0 HO.out (bv_oneCell _) (by have h1 := HLE.out; (try simp only [List.length_append] at h1); (try simp only [List.length_append, fixL_length]); omega) (by unfold maxLen; have h1 := HLE.out; (try simp only [List.length_append] at h1); (try simp only [List.length_append, fixL_length]); omega) (fun v' w' hown hmv => hK' _ _ ?_); have hT := HT.out.put hown hmv; have q0 := hT.cell 0; have q1 := hT.cell 1; have q2 := hT.cell 2; simp only [List.getElem?_toArray, List.getElem?_cons_zero, List.getElem?_cons_succ] at q0 q1 q2; have HT := Lib.hid hT; clear hown hmv hT))
            refine ⟨⟨1, _, by omega, rfl, by go_num, Lib.hid ?_⟩, by simp [intOf]⟩
            simpa using HT.out
          · go_wp2_with (first | (go_at_call 42; (with_reducible refine (HFX.out _ _).mono ?_); rintro e u3 ⟨p3, rfl, ho3, hb3⟩; have hT := HT.out.call hb3; have q0 := hT.cell 0; have q1 := hT.cell 1; have q2 := hT.cell 2; simp only [List.getElem?_toArray, List.getElem?_cons_zero, List.getElem?_cons_succ] at q0 q1 q2; have HT := Lib.hid hT; have HO := Lib.hid ho3.read; clear ho3 hb3 hT) | (at_builtin; refine wpList_plain rfl fun K' hK' => ?_; refine wp_append_at (.tmp 48) (.tmp 50) 24 rfl 5 1 1 (.int .u8 0) Tryz.underlying24 info_u8 rfl (by decide) _ _ _ _ _ _ rfl rfl HT.out.own0 HO.out (bv_oneCell _) (by have h1 := HLE.out; (try simp only [List.length_append] at h1); (try simp only [List.length_append, fixL_length]); omega) (by unfold maxLen; have h1 := HLE.out; (try simp only [List.length_append] at h1); (try simp only [List.length_append, fixL_length]); omega) (fun v' w' hown hmv => hK' _ _ ?_); have hT := HT.out.put hown hmv; have q0 := hT.cell 0; have q1 := hT.cell 1; have q2 := hT.cell 2; simp only [List.getElem?_toArray, List.getElem?_cons_zero, List.getElem?_cons_succ] at q0 q1 q2; have HT := Lib.hid hT; clear hown hmv hT))
            refine ⟨⟨2, _, by omega, rfl, by go_num, Lib.hid ?_⟩, by simp [intOf]⟩
            simpa using HT.out
          · go_wp2_with (first | (go_at_call 42; (with_reducible refine (HFX.out _ _).mono ?_); rintro e u3 ⟨p3, rfl, ho3, hb3⟩; have hT := HT.out.call hb3; have q0 := hT.cell 0; have q1 := hT.cell 1; have q2 := hT.cell 2; simp only [List.getElem?_toArray, List.getElem?_cons_zero, List.getElem?_cons_succ] at q0 q1 q2; have HT := Lib.hid hT; have HO := Lib.hid ho3.read; clear ho3 hb3 hT) | (at_builtin; refine wpList_plain rfl fun K' hK' => ?_; refine wp_append_at (.tmp 48) (.tmp 50) 24 rfl 5 1 1 (.int .u8 0) Tryz.underlying24 info_u8 rfl (by decide) _ _ _ _ _ _ rfl rfl HT.out.own0 HO.out (bv_oneCell _) (by have h1 := HLE.out; (try simp only [List.length_append] at h1); (try simp only [List.length_append, fixL_length]); omega) (by unfold maxLen; have h1 := HLE.out; (try simp only [List.length_append] at h1); (try simp only [List.length_append, fixL_length]); omega) (fun v' w' hown hmv => hK' _ _ ?_); have hT := HT.out.put hown hmv; have q0 := hT.cell 0; have q1 := hT.cell 1; have q2 := hT.cell 2; simp only [List.getElem?_toArray, List.getElem?_cons_zero, List.getElem?_cons_succ] at q0 q1 q2; have HT := Lib.hid hT; clear hown hmv hT))
            refine ⟨⟨3, _, by omega, rfl, by go_num, Lib.hid ?_⟩, by simp [intOf]⟩
            simpa using HT.out
        · obtain rfl : j = 3 := by omega
          go_wp2_with (at_builtin; refine wpList_append_string rfl (.tmp 53) (.const (.string ⟨#[105, 99, 98, 49]⟩)) 24 9 rfl w.heap.size 5 Tryz.underlying24 Tryz.underlying9 info_u8 _ _ _ rfl rfl HT.out.own HT.out.bl ?lx ?kx)
          case lx =>
            have := HLE.out
            have hs : (⟨#[105, 99, 98, 49]⟩ : ByteArray).size = 4 := rfl
            rw [hs]
            omega
          case kx =>
            intro v' w' hown' hb'
            go_wp2
            go_ret
            refine ⟨_, rfl, ?_, hb' _ _ (Nat.le_refl _) HT.out.be⟩
            unfold endB
            simpa [List.append_assoc] using hown'
end Go.Proofs.YteeikmpfgbfeoaaGreat

/-
  What key.Get and the document's GetKey do, for all that they are given.
-/
namespace Go.Proofs.YteeikmpfgbfeoaaGreat
open Go.RowKit

/-- The key whose bytes stand at a place, and the place behind it. -/
def keyAt (l : List UInt8) (at_ : Int) : Option ((List UInt8 × Int × Int) × Nat) :=
  match textAt l at_ with
  | none => none
  | some (s, p) =>
    match getAt l p with
    | none => none
    | some (n, q) => bif mayB s ((n : Int) / 2) ((n : Int) % 2 + 1) then some ((s, (n : Int) / 2, (n : Int) % 2 + 1), q) else none

/-- What a call answers of it. -/
def ansK : Option ((List UInt8 × Int × Int) × Nat) → Value
  | none => .tuple #[.agg #[.string ⟨#[]⟩, .int .i64 0, .int .i64 0], .int .i64 0, .bool false]
  | some ((s, x, y), k) => .tuple #[.agg #[.string (strB s), .int .i64 x, .int .i64 y], .int .i64 k, .bool true]

theorem textAt_size {l : List UInt8} {at_ : Int} {s : List UInt8} {p : Nat} (h : textAt l at_ = some (s, p)) : s.length ≤ l.length := by
  unfold textAt at h
  cases hg : getAt l at_ with
  | none => rw [hg] at h; cases h
  | some x =>
    rw [hg] at h
    simp only [Option.bind_some] at h
    split at h
    · cases h; simp; omega
    · cases h

theorem keyAt_none {l : List UInt8} {at_ : Int} (h : textAt l at_ = none) : keyAt l at_ = none := by unfold keyAt; rw [h]
theorem keyAt_none2 {l : List UInt8} {at_ : Int} {s : List UInt8} {p : Nat} (h : textAt l at_ = some (s, p)) (h2 : getAt l p = none) : keyAt l at_ = none := by unfold keyAt; rw [h]; simp only; rw [h2]
theorem keyAt_no {l : List UInt8} {at_ : Int} {s : List UInt8} {p n q : Nat} (h : textAt l at_ = some (s, p)) (h2 : getAt l p = some (n, q)) (h3 : mayB s ((n : Int) / 2) ((n : Int) % 2 + 1) = false) : keyAt l at_ = none := by
  unfold keyAt; rw [h]; simp only; rw [h2]; simp only; rw [h3]; rfl
theorem keyAt_some {l : List UInt8} {at_ : Int} {s : List UInt8} {p n q : Nat} (h : textAt l at_ = some (s, p)) (h2 : getAt l p = some (n, q)) (h3 : mayB s ((n : Int) / 2) ((n : Int) % 2 + 1) = true) :
    keyAt l at_ = some ((s, (n : Int) / 2, (n : Int) % 2 + 1), q) := by
  unfold keyAt; rw [h]; simp only; rw [h2]; simp only; rw [h3]; rfl

theorem ansG_form (o : Option (Nat × Nat)) : ∃ (x y : Int) (z : Bool), ans3 o = .tuple #[.int .i64 x, .int .i64 y, .bool z] := by
  cases o with
  | none => exact ⟨0, 0, false, rfl⟩
  | some x => exact ⟨_, _, true, rfl⟩

set_option maxRecDepth 100000 in
set_option maxHeartbeats 2000000 in
theorem kget_any (v : Value) (l : List UInt8) (at_ : Int) (w : World) (hv : RdB w v l) :
    Calls Tryz.prog 105 #[v, .int .i64 at_] w fun e w' => e = .returned (ansK (keyAt l at_)) ∧ Below w.heap.size w w' := by
  obtain ⟨a, cap, rfl, hc1, hc2⟩ := hv.form
  unfold maxLen at hc2
  cases ht : textAt l at_ with
  | none =>
    have hgt : ∀ w1, RdB w1 (.slice a l.length cap) l → Calls Tryz.prog 106 #[.slice a l.length cap, .int .i64 at_] w1 (fun e w' => e = .returned (.tuple #[.string ⟨#[]⟩, .int .i64 0, .bool false]) ∧ w1 = w') := by
      intro w1 h1
      have := getText_any _ l at_ w1 h1
      rw [ht] at this
      exact this
    have HT := Lib.hid hgt
    have HR := Lib.hid (keyAt_none ht)
    clear hgt ht
    go_enter Tryz.func105, Tryz.ntmps105
    go_wp2_with (go_at_call 106; refine (HT.out _ (hv.below ((Below.refl w.heap.size w).alloc (Nat.le_refl _) _) (Nat.le_refl _))).mono ?_; rintro e w' ⟨rfl, rfl⟩)
    refine bodyPost_ret (v := .tuple #[.agg #[.string ⟨#[]⟩, .int .i64 0, .int .i64 0], .int .i64 0, .bool false]) (by simp [results, Tryz.results105, go_sem]) rfl ⟨by rw [HR.out]; rfl, ?_⟩
    exact (Below.refl _ _).alloc (Nat.le_refl _) _
  | some x =>
    obtain ⟨s, p⟩ := x
    have hsz := textAt_size ht
    have hgt : ∀ w1, RdB w1 (.slice a l.length cap) l → Calls Tryz.prog 106 #[.slice a l.length cap, .int .i64 at_] w1 (fun e w' => e = .returned (.tuple #[.string (strB s), .int .i64 p, .bool true]) ∧ w1 = w') := by
      intro w1 h1
      have := getText_any _ l at_ w1 h1
      rw [ht] at this
      exact this
    have HT := Lib.hid hgt
    clear hgt
    cases hg : getAt l p with
    | none =>
      have hgg : ∀ w1, RdB w1 (.slice a l.length cap) l → Calls Tryz.prog 104 #[.slice a l.length cap, .int .i64 p] w1 (fun e w' => e = .returned (.tuple #[.int .i64 0, .int .i64 0, .bool false]) ∧ w1 = w') := by
        intro w1 h1
        have := get_any _ l p w1 h1
        rw [hg] at this
        exact this
      have HG := Lib.hid hgg
      have HR := Lib.hid (keyAt_none2 ht hg)
      clear hgg ht hg
      go_enter Tryz.func105, Tryz.ntmps105
      go_wp2_with (first | (go_at_call 106; refine (HT.out _ (hv.below ((Below.refl w.heap.size w).alloc (Nat.le_refl _) _) (Nat.le_refl _))).mono ?_; rintro e w' ⟨rfl, rfl⟩) | (go_at_call 104; refine (HG.out _ (hv.below ((Below.refl w.heap.size w).alloc (Nat.le_refl _) _) (Nat.le_refl _))).mono ?_; rintro e w' ⟨rfl, rfl⟩))
      refine bodyPost_ret (v := .tuple #[.agg #[.string ⟨#[]⟩, .int .i64 0, .int .i64 0], .int .i64 0, .bool false]) (by simp [results, Tryz.results105, go_sem]) rfl ⟨by rw [HR.out]; rfl, ?_⟩
      exact (Below.refl _ _).alloc (Nat.le_refl _) _
    | some y =>
      obtain ⟨n, q⟩ := y
      have hn9 : (n : Int) ≤ 9223372036854775807 := (getAt_some hg).choose_spec.2.2.2.1
      have hgg : ∀ w1, RdB w1 (.slice a l.length cap) l → Calls Tryz.prog 104 #[.slice a l.length cap, .int .i64 p] w1 (fun e w' => e = .returned (.tuple #[.int .i64 n, .int .i64 q, .bool true]) ∧ w1 = w') := by
        intro w1 h1
        have := get_any _ l p w1 h1
        rw [hg] at this
        exact this
      have HG := Lib.hid hgg
      have hmay : ∀ w1, Calls Tryz.prog 74 #[.agg #[.string (strB s), .int .i64 ((n : Int) / 2), .int .i64 ((n : Int) % 2 + 1)]] w1 fun e w' => e = .returned (.bool (mayB s ((n : Int) / 2) ((n : Int) % 2 + 1))) ∧ Below w1.heap.size w1 w' :=
        may_any (strB s) _ _ (by rw [strB_size]; unfold maxLen; omega)
      clear hgg
      cases hm : mayB s ((n : Int) / 2) ((n : Int) % 2 + 1) with
      | false =>
        rw [hm] at hmay
        have HM := Lib.hid hmay
        have HR := Lib.hid (keyAt_no ht hg hm)
        clear hmay hm ht hg
        go_enter Tryz.func105, Tryz.ntmps105
        go_wp2_with (first | (go_at_call 106; refine (HT.out _ (hv.below ((Below.refl w.heap.size w).alloc (Nat.le_refl _) _) (Nat.le_refl _))).mono ?_; rintro e w' ⟨rfl, rfl⟩) | (go_at_call 104; refine (HG.out _ (hv.below ((Below.refl w.heap.size w).alloc (Nat.le_refl _) _) (Nat.le_refl _))).mono ?_; rintro e w' ⟨rfl, rfl⟩) | (go_at_call 74; refine (HM.out _).mono ?_; rintro e w1 ⟨rfl, hb⟩; obtain ⟨hc, hf⟩ := bcell hb; have hz := hb.size; simp at hz))
        refine bodyPost_ret (v := .tuple #[.agg #[.string ⟨#[]⟩, .int .i64 0, .int .i64 0], .int .i64 0, .bool false]) (by simp [results, Tryz.results105, go_sem, hc]) rfl ⟨by rw [HR.out]; rfl, ?_⟩
        exact (((((Below.refl w.heap.size w).alloc (Nat.le_refl _) _).trans (hb.mono (by simp))).setCell (by simp) _).setCell (by simp) _).setCell (by simp) _
      | true =>
        rw [hm] at hmay
        have HM := Lib.hid hmay
        have HR := Lib.hid (keyAt_some ht hg hm)
        clear hmay hm ht hg
        go_enter Tryz.func105, Tryz.ntmps105
        go_wp2_with (first | (go_at_call 106; refine (HT.out _ (hv.below ((Below.refl w.heap.size w).alloc (Nat.le_refl _) _) (Nat.le_refl _))).mono ?_; rintro e w' ⟨rfl, rfl⟩) | (go_at_call 104; refine (HG.out _ (hv.below ((Below.refl w.heap.size w).alloc (Nat.le_refl _) _) (Nat.le_refl _))).mono ?_; rintro e w' ⟨rfl, rfl⟩) | (go_at_call 74; refine (HM.out _).mono ?_; rintro e w1 ⟨rfl, hb⟩; obtain ⟨hc, hf⟩ := bcell hb; have hz := hb.size; simp at hz))
        refine bodyPost_ret (v := .tuple #[.agg #[.string (strB s), .int .i64 ((n : Int) / 2), .int .i64 ((n : Int) % 2 + 1)], .int .i64 q, .bool true]) (by simp [results, Tryz.results105, go_sem, hc]) rfl ⟨by rw [HR.out]; rfl, ?_⟩
        exact (((((Below.refl w.heap.size w).alloc (Nat.le_refl _) _).trans (hb.mono (by simp))).setCell (by simp) _).setCell (by simp) _).setCell (by simp) _

end Go.Proofs.YteeikmpfgbfeoaaGreat

/-
  Blocks: one entry of a block's bytes, as the program reads it.
-/
namespace Go.Proofs.YteeikmpfgbfeoaaGreat
open Go.RowKit

/-- What the bytes from a place on tell of the next entry: of which the rest is a key that may be. -/
def readP (c last : List UInt8) (p : Nat) : Option (Ent × Nat) :=
  match getAt c (p : Int) with
  | none => none
  | some (s, a) => if last.length < s then none else match keyAt c (a : Int) with
    | none => none
    | some ((u, q, k), d) => match textAt c (d : Int) with
      | none => none
      | some (v, g) => some (⟨strB (last.take s ++ u), q, k, strB v⟩, g)

theorem step_read {c last : List UInt8} {p g : Nat} {e : Ent} (h : stepP c last p = some (e, g)) (hm : e.may = true) : readP c last p = some (e, g) := by
  unfold stepP at h
  cases h1 : getAt c (p : Int) with
  | none => rw [h1] at h; cases h
  | some x =>
    obtain ⟨s, a⟩ := x
    rw [h1] at h; simp only at h
    cases h2 : textAt c (a : Int) with
    | none => rw [h2] at h; cases h
    | some x =>
      obtain ⟨u, d⟩ := x
      rw [h2] at h; simp only at h
      cases h3 : getAt c (d : Int) with
      | none => rw [h3] at h; cases h
      | some x =>
        obtain ⟨n, f⟩ := x
        rw [h3] at h; simp only at h
        cases h4 : textAt c (f : Int) with
        | none => rw [h4] at h; cases h
        | some x =>
          obtain ⟨v, g'⟩ := x
          rw [h4] at h; simp only at h
          split at h
          · cases h
          · rename_i hs
            simp only [Option.some.injEq, Prod.mk.injEq] at h
            obtain ⟨rfl, rfl⟩ := h
            obtain ⟨m1, m2, m3, m4, _⟩ := may_facts hm
            simp only at m1 m2 m3 m4
            have hul : u.length ≤ 64 := by
              have hh : (last.take s ++ u).length ≤ 64 := m1
              rw [List.length_append] at hh
              omega
            have hk := keyAt_some h2 h3 (mayB_mk hul (by omega) (by omega) (by omega))
            unfold readP
            rw [h1]; simp only
            rw [if_neg hs, hk]; simp only
            rw [h4]; simp only
            have e1 : (n : Int) / 2 = ((n / 2 : Nat) : Int) := by omega
            have e2 : (n : Int) % 2 + 1 = ((1 + n % 2 : Nat) : Int) := by omega
            rw [e1, e2]

theorem read_step {c last : List UInt8} {p g : Nat} {e : Ent} (h : readP c last p = some (e, g)) : stepP c last p = some (e, g) := by
  unfold readP at h
  cases h1 : getAt c (p : Int) with
  | none => rw [h1] at h; cases h
  | some x =>
    obtain ⟨s, a⟩ := x
    rw [h1] at h; simp only at h
    split at h
    · cases h
    · rename_i hs
      cases h2 : keyAt c (a : Int) with
      | none => rw [h2] at h; cases h
      | some x =>
        obtain ⟨⟨u, q, k⟩, d⟩ := x
        rw [h2] at h; simp only at h
        cases h4 : textAt c (d : Int) with
        | none => rw [h4] at h; cases h
        | some x =>
          obtain ⟨v, g'⟩ := x
          rw [h4] at h; simp only at h
          simp only [Option.some.injEq, Prod.mk.injEq] at h
          obtain ⟨rfl, rfl⟩ := h
          unfold keyAt at h2
          cases h5 : textAt c (a : Int) with
          | none => rw [h5] at h2; cases h2
          | some x =>
            obtain ⟨u', d'⟩ := x
            rw [h5] at h2; simp only at h2
            cases h6 : getAt c (d' : Int) with
            | none => rw [h6] at h2; cases h2
            | some x =>
              obtain ⟨n, f⟩ := x
              rw [h6] at h2; simp only at h2
              cases hm : mayB u' ((n : Int) / 2) ((n : Int) % 2 + 1) with
              | false => rw [hm] at h2; cases h2
              | true =>
                rw [hm] at h2
                simp only [cond_true, Option.some.injEq, Prod.mk.injEq] at h2
                obtain ⟨⟨rfl, rfl, rfl⟩, rfl⟩ := h2
                rw [step_by h1 h5 h6 h4, if_neg hs]
                have e1 : (n : Int) / 2 = ((n / 2 : Nat) : Int) := by omega
                have e2 : (n : Int) % 2 + 1 = ((1 + n % 2 : Nat) : Int) := by omega
                rw [e1, e2]

/-- What a key at a place is, as letters. -/
theorem ansK_form (c : List UInt8) (at_ : Int) : ∃ (u : List UInt8) (q k : Int) (d : Nat) (ok : Bool), ansK (keyAt c at_) = .tuple #[.agg #[.string (strB u), .int .i64 q, .int .i64 k], .int .i64 (d : Int), .bool ok] ∧ (ok = true → keyAt c at_ = some ((u, q, k), d) ∧ at_ < (d : Int)) ∧ (ok = false → keyAt c at_ = none) ∧ u.length ≤ 64 ∧ d ≤ c.length ∧ 0 ≤ q ∧ q ≤ 9007199254740992 ∧ 0 ≤ k ∧ k ≤ 2 := by
  cases h : keyAt c at_ with
  | none => exact ⟨[], 0, 0, 0, false, rfl, (fun e => by cases e), (fun _ => rfl), by simp, Nat.zero_le _, by omega, by omega, by omega, by omega⟩
  | some x =>
    obtain ⟨⟨u, q, k⟩, d⟩ := x
    unfold keyAt at h
    cases h5 : textAt c at_ with
    | none => rw [h5] at h; cases h
    | some x =>
      obtain ⟨u', d'⟩ := x
      rw [h5] at h; simp only at h
      cases h6 : getAt c (d' : Int) with
      | none => rw [h6] at h; cases h
      | some x =>
        obtain ⟨n, f⟩ := x
        rw [h6] at h; simp only at h
        cases hm : mayB u' ((n : Int) / 2) ((n : Int) % 2 + 1) with
        | false => rw [hm] at h; cases h
        | true =>
          rw [hm] at h
          simp only [cond_true, Option.some.injEq, Prod.mk.injEq] at h
          obtain ⟨⟨rfl, rfl, rfl⟩, rfl⟩ := h
          obtain ⟨m1, m2, m3, m4⟩ := mayB_true hm
          obtain ⟨p, hp, g1, g2, g0, _, g4⟩ := getAt_some h6
          have := (textAt_bound h5).2.2
          exact ⟨u', _, _, f, true, rfl, fun _ => ⟨rfl, by omega⟩, (fun e => by cases e), m1, by omega, m2, m3, by omega, by omega⟩

/-- What a call tells that reads an entry. -/
def ansR : Option (Ent × Nat) → Value
  | none => .tuple #[.agg #[.string ⟨#[]⟩, .int .i64 0, .int .i64 0, .string ⟨#[]⟩], .int .i64 0, .bool false]
  | some (e, g) => .tuple #[entV e, .int .i64 (g : Int), .bool true]

theorem read_yes {c last : List UInt8} {p s a d g : Nat} {u v : List UInt8} {q k : Int} (h1 : getAt c (p : Int) = some (s, a)) (hs : ¬ last.length < s) (h2 : keyAt c (a : Int) = some ((u, q, k), d)) (h3 : textAt c (d : Int) = some (v, g)) :
    readP c last p = some (⟨strB (last.take s ++ u), q, k, strB v⟩, g) := by
  unfold readP
  rw [h1]; simp only
  rw [if_neg hs, h2]; simp only
  rw [h3]
theorem read_no1 {c last : List UInt8} {p : Nat} (h1 : getAt c (p : Int) = none) : readP c last p = none := by unfold readP; rw [h1]
theorem read_no2 {c last : List UInt8} {p s a : Nat} (h1 : getAt c (p : Int) = some (s, a)) (hs : last.length < s) : readP c last p = none := by unfold readP; rw [h1]; simp only; rw [if_pos hs]
theorem read_no3 {c last : List UInt8} {p s a : Nat} (h1 : getAt c (p : Int) = some (s, a)) (hs : ¬ last.length < s) (h2 : keyAt c (a : Int) = none) : readP c last p = none := by unfold readP; rw [h1]; simp only; rw [if_neg hs, h2]
theorem read_no4 {c last : List UInt8} {p s a d : Nat} {x : List UInt8 × Int × Int} (h1 : getAt c (p : Int) = some (s, a)) (hs : ¬ last.length < s) (h2 : keyAt c (a : Int) = some (x, d)) (h3 : textAt c (d : Int) = none) : readP c last p = none := by
  obtain ⟨u, q, k⟩ := x
  unfold readP; rw [h1]; simp only; rw [if_neg hs, h2]; simp only; rw [h3]
theorem cut_take (L : ByteArray) (s : Nat) (u : List UInt8) : L.extract 0 s ++ strB u = strB (L.data.toList.take s ++ u) := by
  apply ByteArray.ext
  apply Array.ext'
  simp [ByteArray.data_extract, List.extract_eq_take_drop]

set_option maxRecDepth 100000 in
set_option maxHeartbeats 400000 in
theorem read_any (v : Value) (c : List UInt8) (L : ByteArray) (p : Nat) (w : World) (hv : RdB w v c) (hL : L.size ≤ 100000000) :
    Calls Tryz.prog 94 #[v, .int .i64 (p : Int), .string L] w fun e w' => e = .returned (ansR (readP c L.data.toList p)) ∧ Below w.heap.size w w' := by
  have HV := Lib.hid hv
  clear hv
  obtain ⟨s, a, p1, e1, t1, n1, bs, ba⟩ := ans3_form c (p : Int)
  obtain ⟨u, q, k, d, p2, e2, t2, n2, bu, bd, bq1, bq2, bk1, bk2⟩ := ansK_form c (a : Int)
  obtain ⟨vs, g, p3, e3, t3, n3, bvs, bg⟩ := ansT_form c (d : Int)
  have HG1 : Hid (∀ wz, RdB wz v c → Calls Tryz.prog 104 #[v, .int .i64 (p : Int)] wz fun e w' => e = .returned (.tuple #[.int .i64 (s : Int), .int .i64 (a : Int), .bool p1]) ∧ wz = w') := Lib.hid fun wz h => by rw [← e1]; exact get_any _ c p wz h
  have HG2 : Hid (∀ wz, RdB wz v c → Calls Tryz.prog 105 #[v, .int .i64 (a : Int)] wz fun e w' => e = .returned (.tuple #[.agg #[.string (strB u), .int .i64 q, .int .i64 k], .int .i64 (d : Int), .bool p2]) ∧ Below wz.heap.size wz w') := Lib.hid fun wz h => by rw [← e2]; exact kget_any _ c a wz h
  have HG3 : Hid (∀ wz, RdB wz v c → Calls Tryz.prog 106 #[v, .int .i64 (d : Int)] wz fun e w' => e = .returned (.tuple #[.string (strB vs), .int .i64 (g : Int), .bool p3]) ∧ wz = w') := Lib.hid fun wz h => by rw [← e3]; exact getText_any _ c d wz h
  have T1 := Lib.hid t1
  have T2 := Lib.hid t2
  have T3 := Lib.hid t3
  have N1 := Lib.hid n1
  have N2 := Lib.hid n2
  have N3 := Lib.hid n3
  have SL := size_list L
  clear e1 e2 e3 t1 t2 t3 n1 n2 n3
  go_enter Tryz.func94, Tryz.ntmps94
  have hq0 := heap_alloc_new w (.cells #[.string ⟨#[]⟩, .int .i64 0, .int .i64 0, .string ⟨#[]⟩] 39)
  cases p1 with
  | false =>
    have HR := Lib.hid (read_no1 (last := L.data.toList) (N1.out rfl))
    have s0 := blk_cell (i := 0) hq0; have t0 := blk_free (i := 0) hq0; have s1 := blk_cell (i := 1) hq0; have t1 := blk_free (i := 1) hq0; have s2 := blk_cell (i := 2) hq0; have t2 := blk_free (i := 2) hq0; have s3 := blk_cell (i := 3) hq0; have t3 := blk_free (i := 3) hq0; 
    clear hq0
    go_wp2_with (first | (go_at_call 104; (refine (HG1.out _ (HV.out.below ((Below.refl _ _).alloc (Nat.le_refl _) _) (Nat.le_refl _))).mono ?_); rintro e w9 ⟨rfl, rfl⟩) | (go_at_call 105; (refine (HG2.out _ (HV.out.below ((Below.refl _ _).alloc (Nat.le_refl _) _) (Nat.le_refl _))).mono ?_); rintro e u2 ⟨rfl, hb2⟩; have HB2 : Hid (Below w.heap.size w u2) := Lib.hid (((Below.refl _ _).alloc (Nat.le_refl _) _).trans (hb2.mono (by simp))); have HQ0 : Hid (u2.heap[w.heap.size]? = some (.cells #[.string ⟨#[]⟩, .int .i64 0, .int .i64 0, .string ⟨#[]⟩] 39 (0, 0))) := Lib.hid ((hb2.block _ (by simp)).trans (heap_alloc_new w _)); clear hb2) | (go_at_call 106; (refine (HG3.out _ (HV.out.below (HB2.out.alloc HB2.out.size _) (Nat.le_refl _))).mono ?_); rintro e w9 ⟨rfl, rfl⟩))
    refine bodyPost_ret (results_row_tmp2 rfl _ _ w.heap.size 39 #[.string ⟨#[]⟩, .int .i64 0, .int .i64 0, .string ⟨#[]⟩] (0, 0) _ rfl ?hgE Tryz.underlying39 rfl (by kernel_rfl)) rfl ?_
    case hgE => exact heap_alloc_new w _
    exact ⟨by rw [HR.out]; rfl, (Below.refl _ _).alloc (Nat.le_refl _) _⟩
  | true =>
    have M1 := Lib.hid (T1.out rfl).1
    by_cases hs : L.size < s
    · have k3 : decide ((L.size : Int) < (s : Int)) = true := by simp; omega
      have HR := Lib.hid (read_no2 (last := L.data.toList) M1.out (by omega))
      clear T1 N1
      have s0 := blk_cell (i := 0) hq0; have t0 := blk_free (i := 0) hq0; have s1 := blk_cell (i := 1) hq0; have t1 := blk_free (i := 1) hq0; have s2 := blk_cell (i := 2) hq0; have t2 := blk_free (i := 2) hq0; have s3 := blk_cell (i := 3) hq0; have t3 := blk_free (i := 3) hq0; 
      clear hq0
      go_wp2_with (first | (go_at_call 104; (refine (HG1.out _ (HV.out.below ((Below.refl _ _).alloc (Nat.le_refl _) _) (Nat.le_refl _))).mono ?_); rintro e w9 ⟨rfl, rfl⟩) | (go_at_call 105; (refine (HG2.out _ (HV.out.below ((Below.refl _ _).alloc (Nat.le_refl _) _) (Nat.le_refl _))).mono ?_); rintro e u2 ⟨rfl, hb2⟩; have HB2 : Hid (Below w.heap.size w u2) := Lib.hid (((Below.refl _ _).alloc (Nat.le_refl _) _).trans (hb2.mono (by simp))); have HQ0 : Hid (u2.heap[w.heap.size]? = some (.cells #[.string ⟨#[]⟩, .int .i64 0, .int .i64 0, .string ⟨#[]⟩] 39 (0, 0))) := Lib.hid ((hb2.block _ (by simp)).trans (heap_alloc_new w _)); clear hb2) | (go_at_call 106; (refine (HG3.out _ (HV.out.below (HB2.out.alloc HB2.out.size _) (Nat.le_refl _))).mono ?_); rintro e w9 ⟨rfl, rfl⟩))
      refine bodyPost_ret (results_row_tmp2 rfl _ _ w.heap.size 39 #[.string ⟨#[]⟩, .int .i64 0, .int .i64 0, .string ⟨#[]⟩] (0, 0) _ rfl ?hgE Tryz.underlying39 rfl (by kernel_rfl)) rfl ?_
      case hgE => exact heap_alloc_new w _
      exact ⟨by rw [HR.out]; rfl, (Below.refl _ _).alloc (Nat.le_refl _) _⟩
    · have k3 : decide ((L.size : Int) < (s : Int)) = false := by simp; omega
      have HNS := Lib.hid (show ¬ L.data.toList.length < s by omega)
      clear T1 N1 hq0
      cases p2 with
      | false =>
        have HR := Lib.hid (read_no3 M1.out HNS.out (N2.out rfl))
        go_wp2_with (first | (go_at_call 104; (refine (HG1.out _ (HV.out.below ((Below.refl _ _).alloc (Nat.le_refl _) _) (Nat.le_refl _))).mono ?_); rintro e w9 ⟨rfl, rfl⟩) | (go_at_call 105; (refine (HG2.out _ (HV.out.below ((Below.refl _ _).alloc (Nat.le_refl _) _) (Nat.le_refl _))).mono ?_); rintro e u2 ⟨rfl, hb2⟩; have HB2 : Hid (Below w.heap.size w u2) := Lib.hid (((Below.refl _ _).alloc (Nat.le_refl _) _).trans (hb2.mono (by simp))); have HQ0 : Hid (u2.heap[w.heap.size]? = some (.cells #[.string ⟨#[]⟩, .int .i64 0, .int .i64 0, .string ⟨#[]⟩] 39 (0, 0))) := Lib.hid ((hb2.block _ (by simp)).trans (heap_alloc_new w _)); clear hb2; have hq1 : (u2.alloc (.cells #[.string (strB u), .int .i64 q, .int .i64 k] 37)).heap[w.heap.size]? = some (.cells #[.string ⟨#[]⟩, .int .i64 0, .int .i64 0, .string ⟨#[]⟩] 39 (0, 0)) := (Below.block ((Below.refl _ _).alloc (Nat.le_refl _) _) _ (blk_lt HQ0.out)).trans HQ0.out; have HQ1 := Lib.hid hq1; have s0 := blk_cell (i := 0) hq1; have t0 := blk_free (i := 0) hq1; have s1 := blk_cell (i := 1) hq1; have t1 := blk_free (i := 1) hq1; have s2 := blk_cell (i := 2) hq1; have t2 := blk_free (i := 2) hq1; have s3 := blk_cell (i := 3) hq1; have t3 := blk_free (i := 3) hq1; clear hq1) | (go_at_call 106; (refine (HG3.out _ (HV.out.below (HB2.out.alloc HB2.out.size _) (Nat.le_refl _))).mono ?_); rintro e w9 ⟨rfl, rfl⟩))
        refine bodyPost_ret (results_row_tmp2 rfl _ _ w.heap.size 39 #[.string ⟨#[]⟩, .int .i64 0, .int .i64 0, .string ⟨#[]⟩] (0, 0) _ rfl ?hgE Tryz.underlying39 rfl (by kernel_rfl)) rfl ?_
        case hgE => exact (set4 HQ1.out rfl rfl rfl rfl).1
        exact ⟨by rw [HR.out]; rfl, (set4 HQ1.out rfl rfl rfl rfl).2 _ (Nat.le_refl _) _ (HB2.out.alloc HB2.out.size _)⟩
      | true =>
        have M2 := Lib.hid (T2.out rfl).1
        clear T2 N2
        cases p3 with
        | false =>
          have HR := Lib.hid (read_no4 M1.out HNS.out M2.out (N3.out rfl))
          go_wp2_with (first | (go_at_call 104; (refine (HG1.out _ (HV.out.below ((Below.refl _ _).alloc (Nat.le_refl _) _) (Nat.le_refl _))).mono ?_); rintro e w9 ⟨rfl, rfl⟩) | (go_at_call 105; (refine (HG2.out _ (HV.out.below ((Below.refl _ _).alloc (Nat.le_refl _) _) (Nat.le_refl _))).mono ?_); rintro e u2 ⟨rfl, hb2⟩; have HB2 : Hid (Below w.heap.size w u2) := Lib.hid (((Below.refl _ _).alloc (Nat.le_refl _) _).trans (hb2.mono (by simp))); have HQ0 : Hid (u2.heap[w.heap.size]? = some (.cells #[.string ⟨#[]⟩, .int .i64 0, .int .i64 0, .string ⟨#[]⟩] 39 (0, 0))) := Lib.hid ((hb2.block _ (by simp)).trans (heap_alloc_new w _)); clear hb2; have hq1 : (u2.alloc (.cells #[.string (strB u), .int .i64 q, .int .i64 k] 37)).heap[w.heap.size]? = some (.cells #[.string ⟨#[]⟩, .int .i64 0, .int .i64 0, .string ⟨#[]⟩] 39 (0, 0)) := (Below.block ((Below.refl _ _).alloc (Nat.le_refl _) _) _ (blk_lt HQ0.out)).trans HQ0.out; have HQ1 := Lib.hid hq1; have s0 := blk_cell (i := 0) hq1; have t0 := blk_free (i := 0) hq1; have s1 := blk_cell (i := 1) hq1; have t1 := blk_free (i := 1) hq1; have s2 := blk_cell (i := 2) hq1; have t2 := blk_free (i := 2) hq1; have s3 := blk_cell (i := 3) hq1; have t3 := blk_free (i := 3) hq1; clear hq1) | (go_at_call 106; (refine (HG3.out _ (HV.out.below (HB2.out.alloc HB2.out.size _) (Nat.le_refl _))).mono ?_); rintro e w9 ⟨rfl, rfl⟩))
          refine bodyPost_ret (results_row_tmp2 rfl _ _ w.heap.size 39 #[.string ⟨#[]⟩, .int .i64 0, .int .i64 0, .string ⟨#[]⟩] (0, 0) _ rfl ?hgE Tryz.underlying39 rfl (by kernel_rfl)) rfl ?_
          case hgE => exact (set4 HQ1.out rfl rfl rfl rfl).1
          exact ⟨by rw [HR.out]; rfl, (set4 HQ1.out rfl rfl rfl rfl).2 _ (Nat.le_refl _) _ (HB2.out.alloc HB2.out.size _)⟩
        | true =>
          have HR := Lib.hid (read_yes M1.out HNS.out M2.out (T3.out rfl).1)
          have HCT := Lib.hid (cut_take L s u)
          have HSZ : min s L.size + u.length ≤ 9223372036854775807 := by omega
          clear T3 N3 M1 M2
          go_upto_region 10 with (first | (go_at_call 104; (refine (HG1.out _ (HV.out.below ((Below.refl _ _).alloc (Nat.le_refl _) _) (Nat.le_refl _))).mono ?_); rintro e w9 ⟨rfl, rfl⟩) | (go_at_call 105; (refine (HG2.out _ (HV.out.below ((Below.refl _ _).alloc (Nat.le_refl _) _) (Nat.le_refl _))).mono ?_); rintro e u2 ⟨rfl, hb2⟩; have HB2 : Hid (Below w.heap.size w u2) := Lib.hid (((Below.refl _ _).alloc (Nat.le_refl _) _).trans (hb2.mono (by simp))); have HQ0 : Hid (u2.heap[w.heap.size]? = some (.cells #[.string ⟨#[]⟩, .int .i64 0, .int .i64 0, .string ⟨#[]⟩] 39 (0, 0))) := Lib.hid ((hb2.block _ (by simp)).trans (heap_alloc_new w _)); clear hb2; have hq1 : (u2.alloc (.cells #[.string (strB u), .int .i64 q, .int .i64 k] 37)).heap[w.heap.size]? = some (.cells #[.string ⟨#[]⟩, .int .i64 0, .int .i64 0, .string ⟨#[]⟩] 39 (0, 0)) := (Below.block ((Below.refl _ _).alloc (Nat.le_refl _) _) _ (blk_lt HQ0.out)).trans HQ0.out; have HQ1 := Lib.hid hq1; have s0 := blk_cell (i := 0) hq1; have t0 := blk_free (i := 0) hq1; have s1 := blk_cell (i := 1) hq1; have t1 := blk_free (i := 1) hq1; have s2 := blk_cell (i := 2) hq1; have t2 := blk_free (i := 2) hq1; have s3 := blk_cell (i := 3) hq1; have t3 := blk_free (i := 3) hq1; clear hq1) | (go_at_call 106; (refine (HG3.out _ (HV.out.below (HB2.out.alloc HB2.out.size _) (Nat.le_refl _))).mono ?_); rintro e w9 ⟨rfl, rfl⟩))
          obtain ⟨w4, hw4⟩ : ∃ w4, w4 = (u2.alloc (.cells #[.string (strB u), .int .i64 q, .int .i64 k] 37)).drew := ⟨_, rfl⟩
          have Hw4 := Lib.hid hw4
          have hr4 : w4.heap[u2.heap.size]? = some (.cells #[.string (strB u), .int .i64 q, .int .i64 k] 37 (0, 0)) := by rw [hw4]; exact heap_alloc_new u2 _
          have hr0 : w4.heap[w.heap.size]? = some (.cells #[.string ⟨#[]⟩, .int .i64 0, .int .i64 0, .string ⟨#[]⟩] 39 (0, 0)) := by rw [hw4]; exact HQ1.out
          have HB4 : Hid (Below w.heap.size w w4) := Lib.hid (by rw [hw4]; exact (HB2.out.alloc HB2.out.size _).drew)
          have q0 := blk_cell (i := 0) hr4
          have f0 := blk_free (i := 0) hr4
          replace q0 : w4.cell? ⟨u2.heap.size, 0, none⟩ = some (.string (strB u)) := q0
          have HLT : Hid (w.heap.size < u2.heap.size) := Lib.hid (blk_lt HQ0.out)
          have HR0 := Lib.hid hr0
          have HR4 := Lib.hid hr4
          clear hw4 hr4 hr0 s0 s1 s2 s3 t0 t1 t2 t3 HQ0 HQ1
          refine wp_region_two (fun wz => wz = w4) (fun _ => True) [(0, 0), (0, 1), (0, 2), (0, 3), (0, 4), (0, 5), (0, 6), (3, 7)] [7] (by kernel_rfl) (by kernel_rfl) (by kernel_rfl) (by kernel_rfl) (by kernel_rfl) Hw4.out.symm trivial ?_
          simp only [planT, List.drop_succ_cons, List.drop_zero]
          rw [← Hw4.out]
          refine PlanT.take0 (v := ?v0) (by kernel_rfl) ?y0 ?r0
          case y0 => (intro wz hz; subst hz; go_simp; try with_reducible rfl)
          (try simp only [Act.put, List.setIfInBounds_toArray, List.set_cons_zero, List.set_cons_succ])
          refine PlanT.take0 (v := ?v1) (by kernel_rfl) ?y1 ?r1
          case y1 => (intro wz hz; subst hz; go_simp; try with_reducible rfl)
          (try simp only [Act.put, List.setIfInBounds_toArray, List.set_cons_zero, List.set_cons_succ])
          refine PlanT.take0 (v := .string (L.extract 0 s)) (by kernel_rfl) ?y2 ?r2
          case y2 => (intro wz hz; subst hz; go_simp; try with_reducible rfl)
          (try simp only [Act.put, List.setIfInBounds_toArray, List.set_cons_zero, List.set_cons_succ])
          refine PlanT.take0 (v := ?v3) (by kernel_rfl) ?y3 ?r3
          case y3 => (intro wz hz; subst hz; go_simp; try with_reducible rfl)
          (try simp only [Act.put, List.setIfInBounds_toArray, List.set_cons_zero, List.set_cons_succ])
          refine PlanT.take0 (v := ?v4) (by kernel_rfl) ?y4 ?r4
          case y4 => (intro wz hz; subst hz; go_simp; try with_reducible rfl)
          (try simp only [Act.put, List.setIfInBounds_toArray, List.set_cons_zero, List.set_cons_succ])
          refine PlanT.take0 (v := .string (L.extract 0 s ++ strB u)) (by kernel_rfl) ?y5 ?r5
          case y5 => (intro wz hz; subst hz; go_simp; try with_reducible rfl)
          (try simp only [Act.put, List.setIfInBounds_toArray, List.set_cons_zero, List.set_cons_succ])
          refine PlanT.take0 (v := ?v6) (by kernel_rfl) ?y6 ?r6
          case y6 => (intro wz hz; subst hz; go_simp; try with_reducible rfl)
          (try simp only [Act.put, List.setIfInBounds_toArray, List.set_cons_zero, List.set_cons_succ])
          refine PlanT.exec3 (fun K hK => ⟨by kernel_rfl, ?_⟩)
          go_simp
          refine hK.out _ _ trivial ?_
          clear hK K
          (try simp only [Act.put, List.setIfInBounds_toArray, List.set_cons_zero, List.set_cons_succ])
          refine PlanT.done (NoPanic.normal ?_)
          obtain ⟨w5, hw5⟩ : ∃ w5, w5 = w4.setCell ⟨u2.heap.size, 0, none⟩ (.string (L.extract 0 s ++ strB u)) := ⟨_, rfl⟩
          rw [← hw5]
          have hr5 : w5.heap[u2.heap.size]? = some (.cells #[.string (L.extract 0 s ++ strB u), .int .i64 q, .int .i64 k] 37 (0, 0)) := by rw [hw5]; exact blk_set (i := 0) HR4.out _
          have hb5 : Below u2.heap.size w4 w5 := by rw [hw5]; exact Below.setCell (Below.refl _ _) (show u2.heap.size ≤ (⟨u2.heap.size, 0, none⟩ : Addr).block from Nat.le_refl _) _
          have hr6 := (hb5.block _ HLT.out).trans HR0.out
          have HR6 := Lib.hid hr6
          have HB5 := Lib.hid (HB4.out.trans (hb5.mono (Nat.le_of_lt HLT.out)))
          have y0 := blk_cell (i := 0) hr5
          have y1 := blk_cell (i := 1) hr5
          have y2 := blk_cell (i := 2) hr5
          replace y0 : w5.cell? ⟨u2.heap.size, 0, none⟩ = some (.string (L.extract 0 s ++ strB u)) := y0
          replace y1 : w5.cell? ⟨u2.heap.size, 1, none⟩ = some (.int .i64 q) := y1
          replace y2 : w5.cell? ⟨u2.heap.size, 2, none⟩ = some (.int .i64 k) := y2
          have s0 := blk_cell (i := 0) hr6; have t0 := blk_free (i := 0) hr6; have s1 := blk_cell (i := 1) hr6; have t1 := blk_free (i := 1) hr6; have s2 := blk_cell (i := 2) hr6; have t2 := blk_free (i := 2) hr6; have s3 := blk_cell (i := 3) hr6; have t3 := blk_free (i := 3) hr6; 
          clear hw5 hr5 hb5 hr6 q0 f0 HR4 HR0
          go_wp2
          refine bodyPost_ret (results_row_tmp2 rfl _ _ w.heap.size 39 #[.string (L.extract 0 s ++ strB u), .int .i64 q, .int .i64 k, .string (strB vs)] (0, 0) _ rfl ?hgE Tryz.underlying39 rfl (by kernel_rfl)) rfl ?_
          case hgE => exact (set4 HR6.out rfl rfl rfl rfl).1
          exact ⟨by rw [HR.out, ← HCT.out]; rfl, (set4 HR6.out rfl rfl rfl rfl).2 _ (Nat.le_refl _) _ HB5.out⟩
end Go.Proofs.YteeikmpfgbfeoaaGreat
