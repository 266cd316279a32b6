/-
  Blocks: a block of entries, as the document tells it.
-/
import Derived.Test.YteeikmpfgbfeoaaGreatBlkBox
import Derived.Test.YteeikmpfgbfeoaaGreatBlkShared
import Derived.Test.YteeikmpfgbfeoaaGreatRefFixed
import Derived.Test.YteeikmpfgbfeoaaGreatRefNum
import Derived.Test.YteeikmpfgbfeoaaGreatKeyRefRising
namespace Go.Proofs.YteeikmpfgbfeoaaGreat
open Go.RowKit

theorem extract_drop (u : ByteArray) (n : Nat) : (u.extract n u.size).data.toList = u.data.toList.drop n := by
  rw [ByteArray.data_extract, Array.toList_extract, List.extract_eq_take_drop, List.take_of_length_le]
  rw [List.length_drop, size_list]
  exact Nat.le_refl _

theorem rput_nn (n : Int) (h0 : 0 ≤ n) (h1 : n ≤ 9223372036854775807) (w : World) : Calls Tryz.prog 59 #[.int .i64 n] w (RetB w.heap.size w (putL n.toNat)) := by
  obtain ⟨m, rfl⟩ : ∃ m : Nat, n = (m : Int) := ⟨n.toNat, by omega⟩
  exact rput_nat m h1 w

theorem putT_le (s : List UInt8) (h : s.length ≤ 600) : (putT s).length ≤ s.length + 9 := by
  unfold putT
  rw [List.length_append]
  have := putL_length s.length (by omega)
  omega
theorem entB_le {e : Ent} {s : Nat} (hm : e.may = true) (hs : s ≤ (uL e).length) : (entB e s).length ≤ 700 := by
  obtain ⟨m1, m2, m3, m4, m5⟩ := may_facts hm
  unfold entB
  simp only [List.length_append]
  have h1 := putL_length s (by omega)
  have h2 := putT_le ((uL e).drop s) (by rw [List.length_drop]; omega)
  have h3 := putL_length (numE e) (by unfold numE; omega)
  have h4 := putT_le (vL e) (by omega)
  rw [List.length_drop] at h2
  omega
theorem bodyN_len {es : List Ent} (hm : ∀ k, k < es.length → (es.getD k Ent.none_).may = true) : ∀ k, k ≤ es.length → (bodyN es k).length ≤ 700 * k
  | 0, _ => by simp [bodyN]
  | k + 1, h => by
    unfold bodyN
    rw [List.length_append]
    have h1 := bodyN_len hm k (by omega)
    have h2 := entB_le (hm k (by omega)) (shE_le es k).1
    omega

/-- What a call tells that puts entries into a block. -/
def RetPut (w : World) (es : List Ent) (e : Ending) (w' : World) : Prop :=
  ∃ x, e = .returned (.tuple #[x, .int .i64 (putErr es)]) ∧ OwnB w' w.heap.size 5 x (if putErr es = 0 then blockL es else []) ∧ Below w.heap.size w w'

theorem RetPut.no {w w' : World} {es : List Ent} {x : Int} (h : putErr es = x) (hx : x ≠ 0) (hb : Below w.heap.size w w') : RetPut w es (.returned (.tuple #[.slice none 0 0, .int .i64 x])) w' :=
  ⟨_, by rw [h], by rw [if_neg (by omega)]; exact OwnB.nil _ _ _, hb⟩

set_option maxRecDepth 100000 in
set_option maxHeartbeats 8000000 in
theorem rputblk_any (v : Value) (es : List Ent) (w : World) (hv : RdE w v es) : Calls Tryz.prog 56 #[v] w (RetPut w es) := by
  have HRI := Lib.hid (rrising_any v es w hv)
  have HV := Lib.hid hv
  obtain ⟨va, vc, rfl, hc1, hc2⟩ := hv.form
  unfold maxLen at hc2
  clear hv
  have RISE : Hid (∀ b, risingB es = b → Calls Tryz.prog 26 #[.slice va es.length vc] w fun e w' => e = .returned (.bool b) ∧ Below w.heap.size w w') := Lib.hid fun b h => by rw [← h]; exact HRI.out
  clear HRI
  cases hr : risingB es with
  | false =>
    have HE := Lib.hid (show putErr es = 1 by unfold putErr; rw [if_pos (.inl hr)])
    have H1 := Lib.hid (RISE.out _ hr)
    clear RISE hr
    go_enter Tryz.func56, Tryz.ntmps56
    go_wp2_with (go_at_call 26; (refine H1.out.mono ?_); rintro e w1 ⟨rfl, hb1⟩)
    go_ret2
    exact RetPut.no HE.out (by omega) hb1
  | true =>
    have H1 := Lib.hid (RISE.out _ hr)
    have HRI := Lib.hid hr
    clear RISE hr
    by_cases hn : es = []
    · have HE := Lib.hid (show putErr es = 1 by unfold putErr; rw [if_pos (.inr hn)])
      have hl0 : (es.length : Int) = 0 := by rw [hn]; rfl
      have hlb : ((es.length : Int) == 0) = true := by rw [hl0]; rfl
      clear hn
      go_enter Tryz.func56, Tryz.ntmps56
      go_wp2_with (go_at_call 26; (refine H1.out.mono ?_); rintro e w1 ⟨rfl, hb1⟩)
      go_ret2
      exact RetPut.no HE.out (by omega) hb1
    · have hpos := List.length_pos_iff.2 hn
      have hlb : ((es.length : Int) == 0) = false := by
        have : (es.length : Int) ≠ 0 := by omega
        simpa using this
      by_cases h64 : 64 < es.length
      · have HE := Lib.hid (show putErr es = 4 by unfold putErr; rw [if_neg (by rw [HRI.out]; simpa using hn), if_pos h64])
        have g1 : decide ((64 : Int) < (es.length : Int)) = true := by simp; omega
        clear hn
        go_enter Tryz.func56, Tryz.ntmps56
        go_wp2_with (go_at_call 26; (refine H1.out.mono ?_); rintro e w1 ⟨rfl, hb1⟩)
        go_ret2
        exact RetPut.no HE.out (by omega) hb1
      · have HE := Lib.hid (show putErr es = 0 by unfold putErr; rw [if_neg (by rw [HRI.out]; simpa using hn), if_neg h64])
        have g1 : decide ((64 : Int) < (es.length : Int)) = false := by simp; omega
        have h64' : es.length ≤ 64 := by omega
        have HMAY := Lib.hid (fun k (hk : k < es.length) => rising_may HRI.out hk)
        have HBL := Lib.hid (bodyN_len HMAY.out)
        clear hn h64 hpos
        go_enter Tryz.func56, Tryz.ntmps56
        go_wp2_with (go_at_call 26; (refine H1.out.mono ?_); rintro e w1 ⟨rfl, hb1⟩)
        go_loopw [4, 5, 6, 7] (fun b t n i wr => ∃ k : Nat, k ≤ es.length ∧ n = .int .i64 (((k + 3) / 4 : Nat) : Int) ∧ i = .int .i64 (k : Int) ∧ Hid (BT w w.heap.size wr b t (bodyN es k) (tailN es k))) (fun _ _ _ i _ => es.length - (intOf i).toNat)
        case atStart => exact ⟨0, Nat.zero_le _, rfl, rfl, Lib.hid (BT.start hb1 hb1.size)⟩
        case round =>
          obtain ⟨k, hk, rfl, rfl, HT⟩ := hrel
          by_cases hlt : k < es.length
          · obtain ⟨_, _, hva, hone⟩ := HV.out.one
            cases hva
            obtain ⟨b, off, rfl, hbw, c0, c1, c2, c3, hfit⟩ := hone k hlt
            have HBW := Lib.hid hbw
            have HC3 := Lib.hid c3
            replace c0 := (HT.out.be.cell (p := ⟨b, off + k * 4, none⟩) hbw).trans c0
            replace c1 := (HT.out.be.cell (p := ⟨b, off + k * 4 + 1, none⟩) hbw).trans c1
            replace c2 := (HT.out.be.cell (p := ⟨b, off + k * 4 + 2, none⟩) hbw).trans c2
            have HM := Lib.hid (may_facts (HMAY.out k hlt))
            have HBN : Hid (bodyN es (k + 1) = bodyN es k ++ entB (es.getD k Ent.none_) (shE es k)) := Lib.hid rfl
            have HTN : Hid (tailN es (k + 1) = tailN es k ++ (if k % 4 = 0 then fixL (((bodyN es k).length : Nat) : Int) 4 else [])) := Lib.hid rfl
            have HSE := Lib.hid (shE_le es k)
            have HLB := Lib.hid (HBL.out k hk)
            have HLT := Lib.hid (tailN_len es k)
            have HF4 : Hid (∀ n w, Calls Tryz.prog 60 #[.int .i64 n, .int .i64 4] w (RetB w.heap.size w (fixL n 4))) := Lib.hid fun n w => rfixed_yes n 4 (by omega) w
            have HL1 := Lib.hid (putL_length (shE es k) (by have := HSE.out; have := HM.out; omega))
            have HL2 := Lib.hid (putT_le ((uL (es.getD k Ent.none_)).drop (shE es k)) (by have := HM.out; rw [List.length_drop]; omega))
            have HL3 := Lib.hid (putL_length (numE (es.getD k Ent.none_)) (by have := HM.out; unfold numE; omega))
            have HL4 := Lib.hid (putT_le (vL (es.getD k Ent.none_)) (by have := HM.out; omega))
            have HPV := Lib.hid (fun w => rputText_any (es.getD k Ent.none_).v (by have := HM.out.2.2.2.2; rw [size_list] at this; omega) w)
            clear hone hfit c3 hbw
            obtain ⟨ba, bc, hba, _, _⟩ := HT.out.own.read.form
            subst hba
            by_cases h4 : k % 4 = 0
            · have HS0 := Lib.hid (show shE es k = 0 by unfold shE; rw [if_pos h4])
              have m1 : (k : Int).tmod 4 = 0 := by rw [Int.tmod_eq_emod_of_nonneg (by omega)]; omega
              have m2 : (k : Int) % 4 = 0 := by omega
              rw [HS0.out] at HBN HSE HL1 HL2
              rw [if_pos h4] at HTN
              have HPU := Lib.hid (fun w => rputText_any (es.getD k Ent.none_).u (by have := HM.out.1; rw [size_list] at this; omega) w)
              generalize es.getD k Ent.none_ = X at *
              obtain ⟨xu, xs, xk, xv⟩ := X
              simp only at c0 c1 c2 HC3 HPU HPV
              have hT0 := BB.start HT.out xu xs xk
              have q0 := hT0.c0
              have q1 := hT0.c1
              have q2 := hT0.c2
              have HT := Lib.hid hT0
              have HM2 := HM.out
              simp only at HM2
              obtain ⟨m3, m4, m5, m6, m7⟩ := HM2
              have HPS : Hid (∀ w, Calls Tryz.prog 59 #[.int .i64 0] w (RetB w.heap.size w (putL 0))) := Lib.hid fun w => rput_nat 0 (by omega) w
              have HPN : Hid (∀ w, Calls Tryz.prog 59 #[.int .i64 (2 * xs + xk - 1)] w (RetB w.heap.size w (putL (numE ⟨xu, xs, xk, xv⟩)))) := Lib.hid fun w => rput_nn _ (by omega) (by omega) w
              replace HL2 : Hid ((putT xu.data.toList).length ≤ 100) := Lib.hid (by have hh : xu.data.toList.length ≤ 64 := m3; have := putT_le xu.data.toList (by omega); omega)
              replace HL4 : Hid ((putT xv.data.toList).length ≤ 600) := Lib.hid (by have hh : xv.data.toList.length ≤ 512 := m7; have := putT_le xv.data.toList (by omega); omega)
              clear hT0 h4
              go_wp2_with (first | (go_at_call 60; (refine (HF4.out _ _).mono ?_); rintro e u3 ⟨p3, rfl, ho3, hb3⟩; have hT := HT.out.call hb3; have q0 := hT.c0; have q1 := hT.c1; have q2 := hT.c2; have q3 := (hT.be.cell (p := ⟨b, off + k * 4 + 3, none⟩) HBW.out).trans HC3.out; have HT := Lib.hid hT; have HO := Lib.hid ho3.read; clear ho3 hb3 hT) | (at_builtin; refine wpList_plain rfl fun K' hK' => ?_; refine wp_append_at (.tmp 37) (.tmp 40) 24 rfl 5 1 1 (.int .u8 0) Tryz.underlying24 info_u8 rfl (by decide) _ _ _ _ _ _ rfl rfl HT.out.tail0 HO.out (bv_oneCell _) (by have := HLT.out; rw [fixL_length]; omega) (by unfold maxLen; have := HLT.out; rw [fixL_length]; omega) (fun v' w' hown hmv => hK' _ _ ?_); have hT := HT.out.more hown hmv; have q0 := hT.c0; have q1 := hT.c1; have q2 := hT.c2; have q3 := (hT.be.cell (p := ⟨b, off + k * 4 + 3, none⟩) HBW.out).trans HC3.out; have HT := Lib.hid hT; clear hown hmv hT) | (go_at_call 59; (with_reducible refine (HPS.out _).mono ?_); rintro e u3 ⟨p3, rfl, ho3, hb3⟩; have hT := HT.out.call hb3; have q0 := hT.c0; have q1 := hT.c1; have q2 := hT.c2; have q3 := (hT.be.cell (p := ⟨b, off + k * 4 + 3, none⟩) HBW.out).trans HC3.out; have HT := Lib.hid hT; have HO := Lib.hid ho3.read; clear ho3 hb3 hT) | (go_at_call 59; (with_reducible refine (HPN.out _).mono ?_); rintro e u3 ⟨p3, rfl, ho3, hb3⟩; have hT := HT.out.call hb3; have q0 := hT.c0; have q1 := hT.c1; have q2 := hT.c2; have q3 := (hT.be.cell (p := ⟨b, off + k * 4 + 3, none⟩) HBW.out).trans HC3.out; have HT := Lib.hid hT; have HO := Lib.hid ho3.read; clear ho3 hb3 hT) | (at_builtin; refine wpList_plain rfl fun K' hK' => ?_; refine wp_append_at (.tmp 54) (.tmp 56) 24 rfl 5 1 1 (.int .u8 0) Tryz.underlying24 info_u8 rfl (by decide) _ _ _ _ _ _ rfl rfl HT.out.own0 HO.out (bv_oneCell _) (by have := HLB.out; have := HL1.out; have := HL2.out; have := HL3.out; have := HL4.out; (try simp only [List.length_append]); omega) (by unfold maxLen; have := HLB.out; have := HL1.out; have := HL2.out; have := HL3.out; have := HL4.out; (try simp only [List.length_append]); omega) (fun v' w' hown hmv => hK' _ _ ?_); have hT := HT.out.put hown hmv; have q0 := hT.c0; have q1 := hT.c1; have q2 := hT.c2; have q3 := (hT.be.cell (p := ⟨b, off + k * 4 + 3, none⟩) HBW.out).trans HC3.out; have HT := Lib.hid hT; clear hown hmv hT) | (go_at_call 86; (refine (HPU.out _).mono ?_); rintro e u3 ⟨p3, rfl, ho3, hb3⟩; have hT := HT.out.call hb3; have q0 := hT.c0; have q1 := hT.c1; have q2 := hT.c2; have q3 := (hT.be.cell (p := ⟨b, off + k * 4 + 3, none⟩) HBW.out).trans HC3.out; have HT := Lib.hid hT; have HO := Lib.hid ho3.read; clear ho3 hb3 hT) | (at_builtin; refine wpList_plain rfl fun K' hK' => ?_; refine wp_append_at (.tmp 58) (.tmp 63) 24 rfl 5 1 1 (.int .u8 0) Tryz.underlying24 info_u8 rfl (by decide) _ _ _ _ _ _ rfl rfl HT.out.own0 HO.out (bv_oneCell _) (by have := HLB.out; have := HL1.out; have := HL2.out; have := HL3.out; have := HL4.out; (try simp only [List.length_append]); omega) (by unfold maxLen; have := HLB.out; have := HL1.out; have := HL2.out; have := HL3.out; have := HL4.out; (try simp only [List.length_append]); omega) (fun v' w' hown hmv => hK' _ _ ?_); have hT := HT.out.put hown hmv; have q0 := hT.c0; have q1 := hT.c1; have q2 := hT.c2; have q3 := (hT.be.cell (p := ⟨b, off + k * 4 + 3, none⟩) HBW.out).trans HC3.out; have HT := Lib.hid hT; clear hown hmv hT) | (at_builtin; refine wpList_plain rfl fun K' hK' => ?_; refine wp_append_at (.tmp 65) (.tmp 73) 24 rfl 5 1 1 (.int .u8 0) Tryz.underlying24 info_u8 rfl (by decide) _ _ _ _ _ _ rfl rfl HT.out.own0 HO.out (bv_oneCell _) (by have := HLB.out; have := HL1.out; have := HL2.out; have := HL3.out; have := HL4.out; (try simp only [List.length_append]); omega) (by unfold maxLen; have := HLB.out; have := HL1.out; have := HL2.out; have := HL3.out; have := HL4.out; (try simp only [List.length_append]); omega) (fun v' w' hown hmv => hK' _ _ ?_); have hT := HT.out.put hown hmv; have q0 := hT.c0; have q1 := hT.c1; have q2 := hT.c2; have q3 := (hT.be.cell (p := ⟨b, off + k * 4 + 3, none⟩) HBW.out).trans HC3.out; have HT := Lib.hid hT; clear hown hmv hT) | (go_at_call 86; (refine (HPV.out _).mono ?_); rintro e u3 ⟨p3, rfl, ho3, hb3⟩; have hT := HT.out.call hb3; have q0 := hT.c0; have q1 := hT.c1; have q2 := hT.c2; have q3 := (hT.be.cell (p := ⟨b, off + k * 4 + 3, none⟩) HBW.out).trans HC3.out; have HT := Lib.hid hT; have HO := Lib.hid ho3.read; clear ho3 hb3 hT) | (at_builtin; refine wpList_plain rfl fun K' hK' => ?_; refine wp_append_at (.tmp 75) (.tmp 81) 24 rfl 5 1 1 (.int .u8 0) Tryz.underlying24 info_u8 rfl (by decide) _ _ _ _ _ _ rfl rfl HT.out.own0 HO.out (bv_oneCell _) (by have := HLB.out; have := HL1.out; have := HL2.out; have := HL3.out; have := HL4.out; (try simp only [List.length_append]); omega) (by unfold maxLen; have := HLB.out; have := HL1.out; have := HL2.out; have := HL3.out; have := HL4.out; (try simp only [List.length_append]); omega) (fun v' w' hown hmv => hK' _ _ ?_); have hT := HT.out.put hown hmv; have q0 := hT.c0; have q1 := hT.c1; have q2 := hT.c2; have q3 := (hT.be.cell (p := ⟨b, off + k * 4 + 3, none⟩) HBW.out).trans HC3.out; have HT := Lib.hid hT; clear hown hmv hT))
              refine ⟨⟨k + 1, hlt, congrArg (Value.int .i64) (by omega), by go_num, Lib.hid ?_⟩, by simp [intOf]; omega⟩
              have := HT.out.toBT
              rw [HBN.out, HTN.out]
              unfold entB
              simpa only [List.append_assoc, List.drop_zero] using this
            · have hk1 : 1 ≤ k := by omega
              obtain ⟨_, _, hva, hone⟩ := HV.out.one
              cases hva
              obtain ⟨_, _, hbb, _, p0, _, _, _, _⟩ := hone (k - 1) (by omega)
              cases hbb
              replace p0 := (HT.out.be.cell (p := ⟨b, off + (k - 1) * 4, none⟩) HBW.out).trans p0
              have HPRE : Hid (prevU es k = uL (es.getD (k - 1) Ent.none_)) := Lib.hid (by unfold prevU; rw [if_neg (by omega)])
              have HS0 : Hid (shE es k = comL (uL (es.getD k Ent.none_)) (uL (es.getD (k - 1) Ent.none_))) := Lib.hid (by unfold shE; rw [if_neg h4, HPRE.out])
              rw [if_neg h4] at HTN
              obtain ⟨mm, hmm⟩ : ∃ mm, k % 4 = mm := ⟨_, rfl⟩
              have m1 : (k : Int).tmod 4 = (mm : Int) := by rw [Int.tmod_eq_emod_of_nonneg (by omega)]; omega
              have m2 : (k : Int) % 4 = (mm : Int) := by omega
              have m0 : ((mm : Int) == 0) = false := by
                have : (mm : Int) ≠ 0 := by omega
                simpa using this
              have HSH := Lib.hid (fun w => rshared_any (es.getD k Ent.none_).u (es.getD (k - 1) Ent.none_).u (by have := HM.out.1; rw [size_list] at this; unfold maxLen; omega) w)
              have HTX : Hid (((es.getD k Ent.none_).u.extract (shE es k) (es.getD k Ent.none_).u.size).data.toList = (uL (es.getD k Ent.none_)).drop (shE es k)) := Lib.hid (extract_drop _ _)
              have HPU := Lib.hid (fun w => rputText_any ((es.getD k Ent.none_).u.extract (shE es k) (es.getD k Ent.none_).u.size) (by have := congrArg List.length HTX.out; rw [size_list, List.length_drop] at this; have := HM.out.1; omega) w)
              rw [HTX.out] at HPU
              have HLK := Lib.hid (HMAY.out k hlt)
              have hp0 : wr.cell? ⟨b, off + (k - 1) * 4, none⟩ = some (.string (es.getD (k - 1) Ent.none_).u) := p0
              rw [← HS0.out] at HSH
              have HSU := Lib.hid (show shE es k ≤ (es.getD k Ent.none_).u.size by have := HSE.out.1; rw [size_list] at this; exact this)
              have hsx : shE es k ≤ 64 := by have := HSE.out.1; have := HM.out.1; omega
              generalize (es.getD (k - 1) Ent.none_).u = pu at *
              generalize es.getD k Ent.none_ = X at *
              generalize shE es k = sx at *
              obtain ⟨xu, xs, xk, xv⟩ := X
              simp only at c0 c1 c2 HC3 HPU HPV
              have hT0 := BB.start HT.out xu xs xk
              have zB0 := hT0.c0
              have zB1 := (hT0.be.cell (p := ⟨b, off + (k - 1) * 4, none⟩) HBW.out).trans ((HT.out.be.cell (p := ⟨b, off + (k - 1) * 4, none⟩) HBW.out).symm.trans hp0)
              have HT := Lib.hid hT0
              have HM2 := HM.out
              simp only at HM2
              obtain ⟨m3, m4, m5, m6, m7⟩ := HM2
              have HPS : Hid (∀ w, Calls Tryz.prog 59 #[.int .i64 (sx : Int)] w (RetB w.heap.size w (putL sx))) := Lib.hid fun w => rput_nat sx (by omega) w
              have HPN : Hid (∀ w, Calls Tryz.prog 59 #[.int .i64 (2 * xs + xk - 1)] w (RetB w.heap.size w (putL (numE ⟨xu, xs, xk, xv⟩)))) := Lib.hid fun w => rput_nn _ (by omega) (by omega) w
              replace HL4 : Hid ((putT xv.data.toList).length ≤ 600) := Lib.hid (by have hh : xv.data.toList.length ≤ 512 := m7; have := putT_le xv.data.toList (by omega); omega)
              have HMM := Lib.hid (show mm ≠ 0 by omega)
              clear hT0 h4 hone p0 hp0
              go_upto_region 15 with (fail)
              refine wp_region_plan [(true, 0), (true, 1), (true, 2), (true, 3), (true, 4), (true, 5), (true, 6), (true, 7), (true, 8), (false, 9), (true, 10)] (by kernel_rfl) (by kernel_rfl) (by kernel_rfl) (by kernel_rfl) (by kernel_rfl) ?_
              simp only [planO, List.drop_succ_cons, List.drop_zero]
              refine PlanO.take (v := .pointer (some ⟨wr.heap.size, 0, none⟩)) (by kernel_rfl) ?y0 ?r0
              case y0 => (intro wz hz; go_simp; try with_reducible rfl)
              (try simp only [Act.put, List.setIfInBounds_toArray, List.set_cons_zero, List.set_cons_succ])
              refine PlanO.take (v := .string xu) (by kernel_rfl) ?y1 ?r1
              case y1 => (intro wz hz; have c0 := Ext.at_ hz zB0; go_simp; try with_reducible rfl)
              (try simp only [Act.put, List.setIfInBounds_toArray, List.set_cons_zero, List.set_cons_succ])
              refine PlanO.take (v := ?v2) (by kernel_rfl) ?y2 ?r2
              case y2 => (intro wz hz; go_simp; try with_reducible rfl)
              (try simp only [Act.put, List.setIfInBounds_toArray, List.set_cons_zero, List.set_cons_succ])
              refine PlanO.take (v := ?v3) (by kernel_rfl) ?y3 ?r3
              case y3 => (intro wz hz; go_simp; try with_reducible rfl)
              (try simp only [Act.put, List.setIfInBounds_toArray, List.set_cons_zero, List.set_cons_succ])
              refine PlanO.take (v := .int .i64 ((k - 1 : Nat) : Int)) (by kernel_rfl) ?y4 ?r4
              case y4 => (intro wz hz; go_simp; rw [IntWalk.i64_in _ (by omega)]; omega)
              (try simp only [Act.put, List.setIfInBounds_toArray, List.set_cons_zero, List.set_cons_succ])
              refine PlanO.take (v := .pointer (some ⟨b, off + (k - 1) * 4, none⟩)) (by kernel_rfl) ?y5 ?r5
              case y5 => (intro wz hz; have hkb : ((k - 1 : Nat) : Int) < (es.length : Int) := (by omega); go_simp; try (intro hkc; omega))
              (try simp only [Act.put, List.setIfInBounds_toArray, List.set_cons_zero, List.set_cons_succ])
              refine PlanO.take (v := .pointer (some ⟨b, off + (k - 1) * 4, none⟩)) (by kernel_rfl) ?y6 ?r6
              case y6 => (intro wz hz; go_simp; try with_reducible rfl)
              (try simp only [Act.put, List.setIfInBounds_toArray, List.set_cons_zero, List.set_cons_succ])
              refine PlanO.take (v := .pointer (some ⟨b, off + (k - 1) * 4, none⟩)) (by kernel_rfl) ?y7 ?r7
              case y7 => (intro wz hz; go_simp; try with_reducible rfl)
              (try simp only [Act.put, List.setIfInBounds_toArray, List.set_cons_zero, List.set_cons_succ])
              refine PlanO.take (v := .string pu) (by kernel_rfl) ?y8 ?r8
              case y8 => (intro wz hz; have c1 := Ext.at_ hz zB1; go_simp; try with_reducible rfl)
              (try simp only [Act.put, List.setIfInBounds_toArray, List.set_cons_zero, List.set_cons_succ])
              refine PlanO.exec (fun K hK => ?_)
              go_simp
              go_at_call 85
              (refine (HSH.out _).mono ?_)
              rintro e w3 ⟨rfl, hb3⟩
              have HT9 := Lib.hid ((HT.out.call (Below.refl _ _).drew).call hb3)
              go_wp2_with fail
              refine hK.out _ _ hb3 ?_
              clear hK K
              (try simp only [Act.put, List.setIfInBounds_toArray, List.set_cons_zero, List.set_cons_succ])
              refine PlanO.take (v := ?v10) (by kernel_rfl) ?y10 ?r10
              case y10 => (intro wz hz; go_simp; try with_reducible rfl)
              (try simp only [Act.put, List.setIfInBounds_toArray, List.set_cons_zero, List.set_cons_succ])
              refine PlanO.done (NoPanic.normal ?_)
              have hT9 := HT9.out
              have q0 := hT9.c0
              have q1 := hT9.c1
              have q2 := hT9.c2
              have q3 := (hT9.be.cell (p := ⟨b, off + k * 4 + 3, none⟩) HBW.out).trans HC3.out
              clear HT hT9
              have HT := HT9
              clear HT9
              have hsu : sx ≤ xu.size := HSU.out
              replace HPU : Hid (∀ w, Calls Tryz.prog 86 #[.string (xu.extract sx xu.size)] w (RetB w.heap.size w (putT (xu.data.toList.drop sx)))) := HPU
              replace HL2 : Hid ((putT (xu.data.toList.drop sx)).length ≤ 100) := Lib.hid (by have hh : xu.data.toList.length ≤ 64 := m3; have := putT_le (xu.data.toList.drop sx) (by rw [List.length_drop]; omega); rw [List.length_drop] at this; omega)
              go_wp2_with (first | (go_at_call 60; (refine (HF4.out _ _).mono ?_); rintro e u3 ⟨p3, rfl, ho3, hb3⟩; have hT := HT.out.call hb3; have q0 := hT.c0; have q1 := hT.c1; have q2 := hT.c2; have q3 := (hT.be.cell (p := ⟨b, off + k * 4 + 3, none⟩) HBW.out).trans HC3.out; have HT := Lib.hid hT; have HO := Lib.hid ho3.read; clear ho3 hb3 hT) | (at_builtin; refine wpList_plain rfl fun K' hK' => ?_; refine wp_append_at (.tmp 37) (.tmp 40) 24 rfl 5 1 1 (.int .u8 0) Tryz.underlying24 info_u8 rfl (by decide) _ _ _ _ _ _ rfl rfl HT.out.tail0 HO.out (bv_oneCell _) (by have := HLT.out; rw [fixL_length]; omega) (by unfold maxLen; have := HLT.out; rw [fixL_length]; omega) (fun v' w' hown hmv => hK' _ _ ?_); have hT := HT.out.more hown hmv; have q0 := hT.c0; have q1 := hT.c1; have q2 := hT.c2; have q3 := (hT.be.cell (p := ⟨b, off + k * 4 + 3, none⟩) HBW.out).trans HC3.out; have HT := Lib.hid hT; clear hown hmv hT) | (go_at_call 59; (with_reducible refine (HPS.out _).mono ?_); rintro e u3 ⟨p3, rfl, ho3, hb3⟩; have hT := HT.out.call hb3; have q0 := hT.c0; have q1 := hT.c1; have q2 := hT.c2; have q3 := (hT.be.cell (p := ⟨b, off + k * 4 + 3, none⟩) HBW.out).trans HC3.out; have HT := Lib.hid hT; have HO := Lib.hid ho3.read; clear ho3 hb3 hT) | (go_at_call 59; (with_reducible refine (HPN.out _).mono ?_); rintro e u3 ⟨p3, rfl, ho3, hb3⟩; have hT := HT.out.call hb3; have q0 := hT.c0; have q1 := hT.c1; have q2 := hT.c2; have q3 := (hT.be.cell (p := ⟨b, off + k * 4 + 3, none⟩) HBW.out).trans HC3.out; have HT := Lib.hid hT; have HO := Lib.hid ho3.read; clear ho3 hb3 hT) | (at_builtin; refine wpList_plain rfl fun K' hK' => ?_; refine wp_append_at (.tmp 54) (.tmp 56) 24 rfl 5 1 1 (.int .u8 0) Tryz.underlying24 info_u8 rfl (by decide) _ _ _ _ _ _ rfl rfl HT.out.own0 HO.out (bv_oneCell _) (by have := HLB.out; have := HL1.out; have := HL2.out; have := HL3.out; have := HL4.out; (try simp only [List.length_append]); omega) (by unfold maxLen; have := HLB.out; have := HL1.out; have := HL2.out; have := HL3.out; have := HL4.out; (try simp only [List.length_append]); omega) (fun v' w' hown hmv => hK' _ _ ?_); have hT := HT.out.put hown hmv; have q0 := hT.c0; have q1 := hT.c1; have q2 := hT.c2; have q3 := (hT.be.cell (p := ⟨b, off + k * 4 + 3, none⟩) HBW.out).trans HC3.out; have HT := Lib.hid hT; clear hown hmv hT) | (go_at_call 86; (refine (HPU.out _).mono ?_); rintro e u3 ⟨p3, rfl, ho3, hb3⟩; have hT := HT.out.call hb3; have q0 := hT.c0; have q1 := hT.c1; have q2 := hT.c2; have q3 := (hT.be.cell (p := ⟨b, off + k * 4 + 3, none⟩) HBW.out).trans HC3.out; have HT := Lib.hid hT; have HO := Lib.hid ho3.read; clear ho3 hb3 hT) | (at_builtin; refine wpList_plain rfl fun K' hK' => ?_; refine wp_append_at (.tmp 58) (.tmp 63) 24 rfl 5 1 1 (.int .u8 0) Tryz.underlying24 info_u8 rfl (by decide) _ _ _ _ _ _ rfl rfl HT.out.own0 HO.out (bv_oneCell _) (by have := HLB.out; have := HL1.out; have := HL2.out; have := HL3.out; have := HL4.out; (try simp only [List.length_append]); omega) (by unfold maxLen; have := HLB.out; have := HL1.out; have := HL2.out; have := HL3.out; have := HL4.out; (try simp only [List.length_append]); omega) (fun v' w' hown hmv => hK' _ _ ?_); have hT := HT.out.put hown hmv; have q0 := hT.c0; have q1 := hT.c1; have q2 := hT.c2; have q3 := (hT.be.cell (p := ⟨b, off + k * 4 + 3, none⟩) HBW.out).trans HC3.out; have HT := Lib.hid hT; clear hown hmv hT) | (at_builtin; refine wpList_plain rfl fun K' hK' => ?_; refine wp_append_at (.tmp 65) (.tmp 73) 24 rfl 5 1 1 (.int .u8 0) Tryz.underlying24 info_u8 rfl (by decide) _ _ _ _ _ _ rfl rfl HT.out.own0 HO.out (bv_oneCell _) (by have := HLB.out; have := HL1.out; have := HL2.out; have := HL3.out; have := HL4.out; (try simp only [List.length_append]); omega) (by unfold maxLen; have := HLB.out; have := HL1.out; have := HL2.out; have := HL3.out; have := HL4.out; (try simp only [List.length_append]); omega) (fun v' w' hown hmv => hK' _ _ ?_); have hT := HT.out.put hown hmv; have q0 := hT.c0; have q1 := hT.c1; have q2 := hT.c2; have q3 := (hT.be.cell (p := ⟨b, off + k * 4 + 3, none⟩) HBW.out).trans HC3.out; have HT := Lib.hid hT; clear hown hmv hT) | (go_at_call 86; (refine (HPV.out _).mono ?_); rintro e u3 ⟨p3, rfl, ho3, hb3⟩; have hT := HT.out.call hb3; have q0 := hT.c0; have q1 := hT.c1; have q2 := hT.c2; have q3 := (hT.be.cell (p := ⟨b, off + k * 4 + 3, none⟩) HBW.out).trans HC3.out; have HT := Lib.hid hT; have HO := Lib.hid ho3.read; clear ho3 hb3 hT) | (at_builtin; refine wpList_plain rfl fun K' hK' => ?_; refine wp_append_at (.tmp 75) (.tmp 81) 24 rfl 5 1 1 (.int .u8 0) Tryz.underlying24 info_u8 rfl (by decide) _ _ _ _ _ _ rfl rfl HT.out.own0 HO.out (bv_oneCell _) (by have := HLB.out; have := HL1.out; have := HL2.out; have := HL3.out; have := HL4.out; (try simp only [List.length_append]); omega) (by unfold maxLen; have := HLB.out; have := HL1.out; have := HL2.out; have := HL3.out; have := HL4.out; (try simp only [List.length_append]); omega) (fun v' w' hown hmv => hK' _ _ ?_); have hT := HT.out.put hown hmv; have q0 := hT.c0; have q1 := hT.c1; have q2 := hT.c2; have q3 := (hT.be.cell (p := ⟨b, off + k * 4 + 3, none⟩) HBW.out).trans HC3.out; have HT := Lib.hid hT; clear hown hmv hT))
              refine ⟨⟨k + 1, hlt, congrArg (Value.int .i64) (by have := HMM.out; omega), by go_num, Lib.hid ?_⟩, by simp [intOf]; omega⟩
              have := HT.out.toBT
              rw [HBN.out, HTN.out]
              unfold entB
              simpa only [List.append_assoc, List.append_nil] using this
          · have hke : ¬ (k : Int) < (es.length : Int) := by omega
            have hkn : k = es.length := by omega
            have HLB := Lib.hid (HBL.out k hk)
            have HLT := Lib.hid (tailN_len es k)
            have HF2 : Hid (∀ n w, Calls Tryz.prog 60 #[.int .i64 n, .int .i64 2] w (RetB w.heap.size w (fixL n 2))) := Lib.hid fun n w => rfixed_yes n 2 (by omega) w
            have HEND : Hid (blockL es = bodyN es k ++ tailN es k ++ fixL (((k : Int) + 3) / 4) 2) := Lib.hid (by unfold blockL; rw [hkn]; congr 2)
            clear hkn
            have HO := Lib.hid HT.out.tail.read
            go_wp2_with (first | (at_builtin; refine wpList_plain rfl fun K' hK' => ?_; refine wp_append_at (.tmp 83) (.tmp 84) 24 rfl 5 1 1 (.int .u8 0) Tryz.underlying24 info_u8 rfl (by decide) _ _ _ _ _ _ rfl rfl HT.out.own0 HO.out (bv_oneCell _) (by have := HLB.out; have := HLT.out; (try simp only [List.length_append, fixL_length]); omega) (by unfold maxLen; have := HLB.out; have := HLT.out; (try simp only [List.length_append, fixL_length]); omega) (fun v' w' hown hmv => hK' _ _ ?_); have hT := HT.out.put hown hmv; have HT := Lib.hid hT; clear hown hmv hT) | (go_at_call 60; (refine (HF2.out _ _).mono ?_); rintro e u3 ⟨p3, rfl, ho3, hb3⟩; have hT := HT.out.call hb3;  have HT := Lib.hid hT; have HO := Lib.hid ho3.read; clear ho3 hb3 hT) | (at_builtin; refine wpList_plain rfl fun K' hK' => ?_; refine wp_append_at (.tmp 86) (.tmp 88) 24 rfl 5 1 1 (.int .u8 0) Tryz.underlying24 info_u8 rfl (by decide) _ _ _ _ _ _ rfl rfl HT.out.own0 HO.out (bv_oneCell _) (by have := HLB.out; have := HLT.out; (try simp only [List.length_append, fixL_length]); omega) (by unfold maxLen; have := HLB.out; have := HLT.out; (try simp only [List.length_append, fixL_length]); omega) (fun v' w' hown hmv => hK' _ _ ?_); have hT := HT.out.put hown hmv; have HT := Lib.hid hT; clear hown hmv hT))
            go_ret2
            exact ⟨_, by rw [HE.out]; rfl, by rw [if_pos HE.out, HEND.out]; exact HT.out.own, HT.out.be⟩
end Go.Proofs.YteeikmpfgbfeoaaGreat
