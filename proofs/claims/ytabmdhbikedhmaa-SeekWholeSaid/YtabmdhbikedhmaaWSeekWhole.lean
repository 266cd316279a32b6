/-
  The walk of SeekWhole.
-/
import Derived.Test.YtabmdhbikedhmaaSeekC
import Derived.Test.YtabmdhbikedhmaaEntSame
namespace Go.Proofs.Ytabmdhbikedhmaa
open Go.RowKit

theorem own_touchE {G : Nat → Prop} {w w' : World} {B : Nat} {v : Value} {es : List Ent} (h : OwnE w B v es) (ht : Touch G w w') (hG : ∀ k, G k → k < B) : OwnE w' B v es :=
  own_kept h ht fun k e => ⟨(World.ownsRow.lt h k e).2, fun hg => by have := hG k hg; have := (World.ownsRow.lt h k e).1; omega⟩
theorem own_oneE (w : World) (B : Nat) (hB : B ≤ w.heap.size) (e : Ent) : OwnE (w.alloc (.cells #[.string e.u, .int .i64 e.s, .int .i64 e.k, .string e.v] 36)) B (.slice (some ⟨w.heap.size, 0, none⟩) 1 1) [e] :=
  ⟨rfl, .inr ⟨w.heap.size, 1, _, rfl, hB, heap_alloc_new w _, Nat.le_refl _, by unfold maxLen; omega, rfl, rfl⟩⟩
theorem one_entry2 (w : World) (o : Obj) (e : Ent) : Rd ((w.alloc o).alloc (.cells #[.string e.u, .int .i64 e.s, .int .i64 e.k, .string e.v] 36)) 4 (.slice (some ⟨w.heap.size + 1, 0, none⟩) 1 1) 1 ([e].flatMap Ent.cells) := by
  have h := one_entry (w.alloc o) e
  rwa [show (w.alloc o).heap.size = w.heap.size + 1 by simp] at h
theorem own_oneE2 (w : World) (o : Obj) (B : Nat) (hB : B ≤ w.heap.size) (e : Ent) : OwnE ((w.alloc o).alloc (.cells #[.string e.u, .int .i64 e.s, .int .i64 e.k, .string e.v] 36)) B (.slice (some ⟨w.heap.size + 1, 0, none⟩) 1 1) [e] := by
  have h := own_oneE (w.alloc o) B (by simp; omega) e
  rwa [show (w.alloc o).heap.size = w.heap.size + 1 by simp] at h
theorem take_ent {L : List Ent} {j : Nat} (h : j < L.length) : L.take (j + 1) = L.take j ++ [L.getD j Ent.none_] := by
  rw [List.take_succ_eq_append_getElem h]
  simp [List.getD, h]
theorem drop_ent {L : List Ent} {j : Nat} (h : j < L.length) : L.drop (L.length - (j + 1)) = L.getD (L.length - (j + 1)) Ent.none_ :: L.drop (L.length - j) := by
  rw [List.drop_eq_getElem_cons (by omega), show L.length - (j + 1) + 1 = L.length - j by omega]
  simp [List.getD, show L.length - (j + 1) < L.length by omega]
theorem ownE_of {w : World} {B n : Nat} {v : Value} {xs : List Value} {es : List Ent} (h : w.ownsRow B 36 4 v n xs) (h1 : es.length = n) (h2 : es.flatMap Ent.cells = xs) : OwnE w B v es := by
  subst h1 h2
  exact h

set_option maxRecDepth 100000 in
set_option maxHeartbeats 600000 in
theorem seekWhole_walkC {It : (Nat → Prop) → World → Nat → List Ent → Int → Prop} (hi : ItC It) (v0 : Value) (ns : List UInt8) (a1 : Int) (W : World) (w0 : RdB W v0 ns) (wa1 : (Lit.int .u8 a1).wf = true) :
    Calls Try.prog 4 #[v0, .int .u8 a1] W fun r w' => r = .returned (.bool true) ∧ Below W.heap.size W w' := by
  have HAW := Lib.hid (awake14_any hi)
  have HI := Lib.hid hi
  have n1 := bounds_u8 wa1
  obtain ⟨sp, rfl⟩ : ∃ n : Nat, a1 = (n : Int) := ⟨a1.toNat, by omega⟩
  clear wa1
  obtain ⟨va, vc, rfl, hc1, hc2⟩ := w0.form
  unfold maxLen at hc2
  have HV0 := Lib.hid w0
  clear w0 hi
  by_cases c1 : 80 < ns.length
  · have d1 : decide ((80 : Int) < (ns.length : Int)) = true := by simp; omega
    have d1n : decide (80 < ns.length) = true := by simp; omega
    go_enter Try.func4, Try.ntmps4
    go_wp2_with (go_at_call 8; (refine (HAW.out _).mono ?_); rintro e w19 ⟨rfl, hb9⟩)
    go_ret
    exact ⟨rfl, hb9⟩
  · have d1 : decide ((80 : Int) < (ns.length : Int)) = false := by simp; omega
    have d1n : decide (80 < ns.length) = false := by simp; omega
    have HMK := Lib.hid (make12_any _ ns sp (by omega) W HV0.out (by omega))
    have HSM := Lib.hid (may_small (mkB_may ns sp) (by have := mkB_len ns sp; omega))
    have HFT := Lib.hid (mk_fits ns sp)
    have hso := sort_self (mkB_up ns sp)
    have hLl := mkB_len ns sp
    generalize mkB ns sp = L at *
    have HNW : Hid (∀ v w, OwnE w 0 v L → Calls Try.prog 9 #[v] w fun e w' => ∃ q G, e = .returned (.pointer (some ⟨q, 0, none⟩)) ∧ It G w' q L (-1) ∧ (∀ k, G k → w.heap.size ≤ k) ∧ Below w.heap.size w w') := Lib.hid fun v w ho => by
      have h := HI.out.new_ v L w (ho.read HFT.out) HSM.out
      rw [hso] at h
      exact h
    clear hso
    go_enter Try.func4, Try.ntmps4
    go_wp2_with (first | (go_at_call 23; (refine HMK.out.mono ?_); rintro e w1 ⟨x1, rfl, ho1, hb1⟩; obtain ⟨la, lc, rfl, _, _⟩ := ho1.form; have HO1 := Lib.hid (show OwnE w1 0 (.slice la L.length lc) L from own_base ho1 fun _ _ => Nat.zero_le _); have HB1 := Lib.hid hb1; clear ho1 hb1) | (go_at_call 9; (refine (HNW.out _ _ HO1.out).mono ?_); rintro e w2 ⟨q, G, rfl, i2, g2, hb2⟩; have I2 := Lib.hid i2; have G2 := Lib.hid g2; have GL := Lib.hid (show ∀ k, G k → k < w2.heap.size from fun k hk => HI.out.lt i2 k hk); have B12 := Lib.hid hb2; clear i2 g2 hb2))
    go_loopw [7, 9] (fun l i wr => ∃ j : Nat, j ≤ L.length ∧ i = .int .i64 (j : Int) ∧ Hid (OwnE wr w2.heap.size l (L.take j)) ∧ Hid (It G wr q L ((j : Int) - 1)) ∧ Hid (w2.heap.size ≤ wr.heap.size) ∧ Hid (Below w1.heap.size w1 wr)) (fun _ i _ => L.length - (intOf i).toNat)
    case atStart => exact ⟨0, Nat.zero_le _, rfl, Lib.hid (World.ownsRow_nil _ _ _ _), Lib.hid I2.out, Lib.hid (Nat.le_refl _), Lib.hid B12.out⟩
    case round =>
      obtain ⟨j, hj, rfl, HO, HIT, HSZ, HB⟩ := hrel
      have e0 : decide ((j : Int) ≤ (L.length : Int)) = true := by simp; omega
      have e0n : decide (j ≤ L.length) = true := by simp; omega
      by_cases hlt : j < L.length
      · have HNX := Lib.hid (show nextA L ((j : Int) - 1) = (j : Int) by unfold nextA; omega)
        have HST := Lib.hid (show stands L (j : Int) = true by unfold stands; simp; omega)
        have HA := Lib.hid (show ansN (atA L (j : Int)) = ansN (some (L.getD j Ent.none_)) by unfold atA; rw [HST.out]; rfl)
        have HTK := Lib.hid (take_ent hlt)
        generalize L.getD j Ent.none_ = X at *
        obtain ⟨xu, xs, xk, xv⟩ := X
        replace HA : Hid (ansN (atA L (j : Int)) = .tuple #[.agg #[.string xu, .int .i64 xs, .int .i64 xk, .string xv], .bool true]) := HA
        go_wp2_with (first | (go_at_call 17; (with_reducible refine (HI.out.next HIT.out).mono ?_); rintro e w5 ⟨rfl, im, tm⟩; rw [HNX.out] at im; rw [HNX.out, HST.out]; have I5 := Lib.hid im; have T5 := Lib.hid tm; have HO5 := Lib.hid (own_touchE HO.out tm GL.out); have HS5 := Lib.hid (Nat.le_trans HSZ.out tm.size); have HB5 := Lib.hid (touch_below G2.out HB.out tm); clear im tm) | (go_at_call 21; (with_reducible refine (HI.out.at_ I5.out).mono ?_); rintro e w6 ⟨rfl, hb⟩; rw [HA.out]; have D6 := Lib.hid (belowT hb ((Below.refl _ w6).alloc (Nat.le_refl _) (.cells #[.string xu, .int .i64 xs, .int .i64 xk, .string xv] 36))); have I6 := Lib.hid (HI.out.below I5.out D6.out); have HO6 := Lib.hid (HO5.out.below D6.out); have HS6 := Lib.hid (Nat.le_trans HS5.out D6.out.size); have HB6 := Lib.hid (belowT HB5.out D6.out); clear hb) | (at_builtin; refine wpList_append_rd rfl (.tmp 45) (.tmp 47) 22 rfl w2.heap.size 36 4 48 (.agg #[.string ⟨#[]⟩, .int .i64 0, .int .i64 0, .string ⟨#[]⟩]) Try.underlying22 info_ent rfl (by decide) _ (.slice (some ⟨w6.heap.size + 1, 0, none⟩) 1 1) (L.take j).length 1 ((L.take j).flatMap Ent.cells) ([(⟨xu, xs, xk, xv⟩ : Ent)].flatMap Ent.cells) rfl rfl (World.ownsRow.alloc HO6.out _) (one_entry2 w6 (.cells #[.string xu, .int .i64 xs, .int .i64 xk, .string xv] 36) (⟨xu, xs, xk, xv⟩ : Ent)) (entFlat_one _) ?bA ?l1 ?l2 ?kk))
        case bA => exact Nat.le_trans HS6.out (by simp)
        case l1 => (rw [List.length_take]; omega)
        case l2 => (rw [List.length_take]; unfold maxLen; omega)
        case kk =>
          intro v' w' hown' hb'
          have q1 := hb' w2.heap.size (w6.alloc (.cells #[.string xu, .int .i64 xs, .int .i64 xk, .string xv] 36)) (Nat.le_refl _) ((Below.refl _ _).alloc HS6.out _)
          have q2 := hb' w1.heap.size w1 B12.out.size (HB6.out.alloc HB6.out.size _)
          go_wp2
          refine ⟨⟨j + 1, by omega, by go_num, Lib.hid (ownE_of hown' ?_ ?_), Lib.hid ?_, Lib.hid (Nat.le_trans HS6.out q1.size), Lib.hid q2⟩, by simp [intOf]; omega⟩
          · (try simp only [List.length_take]); omega
          · rw [HTK.out, List.flatMap_append]; simp
          · have := HI.out.kept (R := G) I6.out (Kept.of q1 fun k hk => GL.out k hk) fun _ h => h
            rw [show ((j + 1 : Nat) : Int) - 1 = (j : Int) by omega]
            exact this
      · obtain rfl : j = L.length := by omega
        have HNX := Lib.hid (show nextA L ((L.length : Int) - 1) = (L.length : Int) by unfold nextA; omega)
        have HST := Lib.hid (show stands L (L.length : Int) = false by unfold stands; simp)
        rw [List.take_length] at HO
        clear hlt hj
        obtain ⟨fa, fc, rfl, _, _⟩ := HO.out.form
        go_wp2_with (go_at_call 17; (with_reducible refine (HI.out.next HIT.out).mono ?_); rintro e w5 ⟨rfl, im, tm⟩; rw [HNX.out] at im; rw [HNX.out, HST.out]; have I5 := Lib.hid im; have T5 := Lib.hid tm; have HO5 := Lib.hid (own_touchE HO.out tm GL.out); have HS5 := Lib.hid (Nat.le_trans HSZ.out tm.size); have HB5 := Lib.hid (touch_below G2.out HB.out tm); clear im tm)
        have HF5 := Lib.hid (fun k e => (World.ownsRow.lt HO5.out k e).2)
        have HW2 := HS5
        have GL5 := Lib.hid (show ∀ k, G k → k < w5.heap.size from fun k hk => Nat.lt_of_lt_of_le (GL.out k hk) HW2.out)
        clear HNX HST
        go_loopw [8, 12] (fun l i wr => ∃ j : Nat, j ≤ L.length ∧ i = .int .i64 (j : Int) ∧ Hid (OwnE wr w5.heap.size l (L.drop (L.length - j))) ∧ Hid (It G wr q L ((L.length : Int) - (j : Int))) ∧ Hid (OwnE wr w2.heap.size (.slice fa L.length fc) L) ∧ Hid (w5.heap.size ≤ wr.heap.size) ∧ Hid (Below w1.heap.size w1 wr)) (fun _ i _ => L.length - (intOf i).toNat)
        case atStart => exact ⟨0, Nat.zero_le _, rfl, Lib.hid (by rw [Nat.sub_zero, List.drop_length]; exact World.ownsRow_nil _ _ _ _), Lib.hid (by simpa using I5.out), Lib.hid HO5.out, Lib.hid (Nat.le_refl _), Lib.hid HB5.out⟩
        case round =>
          obtain ⟨j, hj, rfl, HOb, HIT2, HOf, HSZ, HB⟩ := hrel
          have e0 : decide ((j : Int) ≤ (L.length : Int)) = true := by simp; omega
          have e0n : decide (j ≤ L.length) = true := by simp; omega
          by_cases hlt : j < L.length
          · have HNX := Lib.hid (show prevA ((L.length : Int) - (j : Int)) = ((L.length - (j + 1) : Nat) : Int) by unfold prevA; omega)
            have HST := Lib.hid (show stands L ((L.length - (j + 1) : Nat) : Int) = true by unfold stands; simp; omega)
            have HA := Lib.hid (show ansN (atA L ((L.length - (j + 1) : Nat) : Int)) = ansN (some (L.getD (L.length - (j + 1)) Ent.none_)) by unfold atA; rw [HST.out]; rfl)
            have HTK := Lib.hid (drop_ent hlt)
            generalize L.getD (L.length - (j + 1)) Ent.none_ = X at *
            obtain ⟨xu, xs, xk, xv⟩ := X
            replace HA : Hid (ansN (atA L ((L.length - (j + 1) : Nat) : Int)) = .tuple #[.agg #[.string xu, .int .i64 xs, .int .i64 xk, .string xv], .bool true]) := HA
            go_wp2_with (first | (go_at_call 19; (with_reducible refine (HI.out.prev HIT2.out).mono ?_); rintro e w15 ⟨rfl, im, tm⟩; rw [HNX.out] at im; rw [HNX.out, HST.out]; have I15 := Lib.hid im; have T15 := Lib.hid tm; have HO15 := Lib.hid (own_touchE HOf.out tm GL.out); have HP15 := Lib.hid (own_touchE HOb.out tm GL5.out); have HB15 := Lib.hid (touch_below G2.out HB.out tm); have HS15 := Lib.hid (Nat.le_trans HSZ.out tm.size); clear im tm) | (go_at_call 21; (with_reducible refine (HI.out.at_ I15.out).mono ?_); rintro e w16 ⟨rfl, hb⟩; rw [HA.out]; have D16 := Lib.hid (belowT hb ((Below.refl _ w16).alloc (Nat.le_refl _) (.cells #[.string xu, .int .i64 xs, .int .i64 xk, .string xv] 36))); have I16 := Lib.hid (HI.out.below I15.out D16.out); have HO16 := Lib.hid (HO15.out.below D16.out); have HP16 := Lib.hid (HP15.out.below D16.out); have HB16 := Lib.hid (belowT HB15.out D16.out); have HS16p := Lib.hid (Nat.le_trans HS15.out hb.size); have HS16 := Lib.hid (Nat.le_trans HS15.out D16.out.size); clear hb) | (at_builtin; refine wpList_append_rd rfl (.tmp 67) (.tmp 68) 22 rfl w5.heap.size 36 4 48 (.agg #[.string ⟨#[]⟩, .int .i64 0, .int .i64 0, .string ⟨#[]⟩]) Try.underlying22 info_ent rfl (by decide) (.slice (some ⟨w16.heap.size + 1, 0, none⟩) 1 1) _ 1 (L.drop (L.length - j)).length ([(⟨xu, xs, xk, xv⟩ : Ent)].flatMap Ent.cells) ((L.drop (L.length - j)).flatMap Ent.cells) rfl rfl (own_oneE2 w16 (.cells #[.string xu, .int .i64 xs, .int .i64 xk, .string xv] 36) w5.heap.size HS16p.out (⟨xu, xs, xk, xv⟩ : Ent)) (rd_of_own (World.ownsRow.alloc HP16.out _)) (entFlat_one _) ?bA ?l1 ?l2 ?kk))
            case bA => exact Nat.le_trans HS16.out (by simp)
            case l1 => (rw [List.length_drop]; omega)
            case l2 => (rw [List.length_drop]; unfold maxLen; omega)
            case kk =>
              intro v' w' hown' hb'
              have q1 := hb' w5.heap.size (w16.alloc (.cells #[.string xu, .int .i64 xs, .int .i64 xk, .string xv] 36)) (Nat.le_refl _) ((Below.refl _ _).alloc HS16.out _)
              have q2 := hb' w1.heap.size w1 (Nat.le_trans B12.out.size HW2.out) (HB16.out.alloc HB16.out.size _)
              go_wp2
              refine ⟨⟨j + 1, by omega, by go_num, Lib.hid (ownE_of hown' ?_ ?_), Lib.hid ?_, Lib.hid (own_kept HO16.out (Kept.of q1 (R := fun k => k < w5.heap.size) fun _ h => h) fun k e => HF5.out k e), Lib.hid (Nat.le_trans HS16.out q1.size), Lib.hid q2⟩, by simp [intOf]; omega⟩
              · (try simp only [List.length_drop]); omega
              · rw [HTK.out, List.flatMap_cons]
              · have := HI.out.kept (R := G) I16.out (Kept.of q1 fun k hk => Nat.lt_of_lt_of_le (GL.out k hk) HW2.out) fun _ h => h
                rw [show (L.length : Int) - ((j + 1 : Nat) : Int) = ((L.length - (j + 1) : Nat) : Int) by omega]
                exact this
          · obtain rfl : j = L.length := by omega
            have HNX := Lib.hid (show prevA ((L.length : Int) - (L.length : Int)) = -1 by unfold prevA; omega)
            have HST := Lib.hid (show stands L (-1) = false by unfold stands; simp)
            have HA := Lib.hid (show ansN (atA L (-1)) = ansN none by unfold atA; rw [HST.out]; rfl)
            replace HA : Hid (ansN (atA L (-1)) = .tuple #[.agg #[.string ⟨#[]⟩, .int .i64 0, .int .i64 0, .string ⟨#[]⟩], .bool false]) := HA
            rw [Nat.sub_self, List.drop_zero] at HOb
            have HL := Lib.hid (show L.length < 1000000 by omega)
            clear hlt hj
            go_wp2_with (first | (go_at_call 19; (with_reducible refine (HI.out.prev HIT2.out).mono ?_); rintro e w15 ⟨rfl, im, tm⟩; rw [HNX.out] at im; rw [HNX.out, HST.out]; have I15 := Lib.hid im; have T15 := Lib.hid tm; have HO15 := Lib.hid (own_touchE HOf.out tm GL.out); have HP15 := Lib.hid (own_touchE HOb.out tm GL5.out); have HB15 := Lib.hid (touch_below G2.out HB.out tm); clear im tm) | (go_at_call 21; (with_reducible refine (HI.out.at_ I15.out).mono ?_); rintro e w16 ⟨rfl, hb⟩; rw [HA.out]; have D16 := Lib.hid (belowT hb ((Below.refl _ w16).alloc (Nat.le_refl _) (.cells #[.string ⟨#[]⟩, .int .i64 0, .int .i64 0, .string ⟨#[]⟩] 36))); have I16 := Lib.hid (HI.out.below I15.out D16.out); have HO16 := Lib.hid (HO15.out.below D16.out); have HP16 := Lib.hid (HP15.out.below D16.out); have HB16 := Lib.hid (belowT HB15.out D16.out); clear hb) | (go_at_call 24; first | ((with_reducible refine (rsame_ent _ _ L _ HL.out (own_monoE HO16.out (Nat.zero_le _)) (HO1.out.below HB16.out)).mono ?_); rintro e w17 ⟨rfl, hb7⟩; have HP17 := Lib.hid (HP16.out.below hb7); have HB17 := Lib.hid (belowT HB16.out hb7); clear hb7) | ((with_reducible refine (rsame_ent _ _ L _ HL.out (own_monoE HP17.out (Nat.zero_le _)) (HO1.out.below HB17.out)).mono ?_); rintro e w18 ⟨rfl, hb7⟩; have HB18 := Lib.hid (belowT HB17.out hb7); clear hb7)) | (go_at_call 8; (refine (HAW.out _).mono ?_); rintro e w19 ⟨rfl, hb9⟩))
            go_ret
            exact ⟨rfl, belowT HB1.out (belowT HB18.out hb9)⟩
end Go.Proofs.Ytabmdhbikedhmaa
