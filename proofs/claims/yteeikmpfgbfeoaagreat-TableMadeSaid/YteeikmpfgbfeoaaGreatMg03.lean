import Derived.Test.YteeikmpfgbfeoaaGreatMg02
import Derived.Test.YteeikmpfgbfeoaaGreatOwnEnt
import Derived.Test.YteeikmpfgbfeoaaGreatMemMath
import Derived.Test.YteeikmpfgbfeoaaGreatRegion
import Derived.Deep.QuietTactic
import Derived.BigQuiet
import Derived.Test.YteeikmpfgbfeoaaGreatMg01

/-
  Tables: the entries and the filter of a table, as the document tells them.
-/
namespace Go.Proofs.YteeikmpfgbfeoaaGreat
open Go.RowKit

/-- What a call tells that tells a table's entries and its filter. -/
def RetParts (w : World) (b : List UInt8) (e : Ending) (w' : World) : Prop :=
  match getT b with
  | none => e = .returned (.tuple #[.slice none 0 0, .slice none 0 0, .int .i64 5]) ∧ Below w.heap.size w w'
  | some (es, f) => ∃ x y, e = .returned (.tuple #[x, y, .int .i64 0]) ∧ OwnE w' w.heap.size x es ∧ OwnB w' w.heap.size 5 y f ∧ Below w.heap.size w w'
theorem RetParts.no {w w' : World} {b : List UInt8} (h : getT b = none) (hb : Below w.heap.size w w') : RetParts w b (.returned (.tuple #[.slice none 0 0, .slice none 0 0, .int .i64 5])) w' := by
  unfold RetParts
  rw [h]
  exact ⟨rfl, hb⟩

set_option maxRecDepth 100000 in
set_option maxHeartbeats 600000 in
theorem rparts_any (v : Value) (b : List UInt8) (w : World) (hv : RdB w v b) (hl : b.length ≤ 1000000) : Calls Tryz.prog 10 #[v] w (RetParts w b) := by
  have HV := Lib.hid hv
  obtain ⟨va, vc, rfl, hc1, hc2⟩ := hv.form
  unfold maxLen at hc2
  clear hv
  have l1 : IntKind.i64.wrap ((b.length : Int) - 16) = (b.length : Int) - 16 := IntWalk.i64_in _ (by omega)
  by_cases g1 : b.length < 16
  · have HNO := Lib.hid (show getT b = none from getT_none fun es f h => by
      obtain ⟨per, h⟩ := h
      have := IsTabP.len (show IsTabP b es per f from h)
      omega)
    have HF := Lib.hid (rgetFixed_out (.slice va b.length vc) b ((b.length : Int) - 16) 4 (by omega) (by omega) w HV.out)
    go_enter Tryz.func10, Tryz.ntmps10
    go_wp2_with (go_at_call 31; (refine HF.out.mono ?_); rintro e w1 ⟨rfl, rfl⟩)
    go_ret3
    exact RetParts.no HNO.out (Below.refl _ _)
  · have hgf : Calls Tryz.prog 31 #[.slice va b.length vc, .int .i64 ((b.length : Int) - 16), .int .i64 4] w fun e w' => e = .returned (.tuple #[.int .i64 ((atT b : Nat) : Int), .bool true]) ∧ w = w' := by
      have h := rgetFixed_yes (.slice va b.length vc) b (b.length - 16) 4 (by omega) (by omega) w HV.out
      rw [show (b.length : Int) - 16 = ((b.length - 16 : Nat) : Int) by omega]
      exact h
    have HF := Lib.hid hgf
    have HAT := Lib.hid (show atT b < 4294967296 by
      have := valL_lt ((b.drop (b.length - 16)).take 4)
      have h2 : ((b.drop (b.length - 16)).take 4).length ≤ 4 := by rw [List.length_take]; omega
      unfold atT
      exact Nat.lt_of_lt_of_le this (Nat.le_trans (Nat.pow_le_pow_right (by omega) h2) (by decide)))
    have d1 : decide ((b.length : Int) < 16) = false := by simp; omega
    have d1n : decide (b.length < 16) = false := by simp; omega
    clear hgf g1
    obtain ⟨A, hA⟩ : ∃ A, atT b = A := ⟨_, rfl⟩
    have HA := Lib.hid hA
    rw [hA] at HF HAT
    clear hA
    go_enter Tryz.func10, Tryz.ntmps10
    go_wp2_with (go_at_call 31; (refine HF.out.mono ?_); rintro e w1 ⟨rfl, rfl⟩)
    go_loopw [7, 8, 9] (fun l p0 i wr => ∃ (acc : List Ent) (per0 n : Nat), acc.length ≤ 256 ∧ per0 ≤ 64 ∧ n ≤ 1000000 ∧ p0 = .int .i64 (per0 : Int) ∧ i = .int .i64 (n : Int) ∧ Hid (OwnE wr w.heap.size l acc) ∧ Hid (ParT b acc n per0) ∧ Hid (∀ e ∈ acc, e.fits) ∧ Hid (per0 = 0 ↔ acc = []) ∧ Hid (Below w.heap.size w wr)) (fun _ _ i _ => 1000000 - (intOf i).toNat)
    case atStart => exact ⟨[], 0, 0, by simp, by omega, by omega, rfl, rfl, Lib.hid (OwnE.nil _ _), Lib.hid (ParT.start b), Lib.hid (fun e h => by cases h), Lib.hid ⟨fun _ => rfl, fun _ => rfl⟩, Lib.hid (Below.refl _ _)⟩
    case round =>
      obtain ⟨acc, per0, n, hacc, hp0, hn, rfl, rfl, HO, HP, HFI, HPZ, HB⟩ := hrel
      by_cases hi : n < A
      · have k1 : decide ((n : Int) < (A : Int)) = true := by simp; omega
        obtain ⟨la, lc, hla, hlc1, hlc2⟩ := HO.out.form
        subst hla
        unfold maxLen at hlc2
        have HNO := Lib.hid (fun (hn : frOk b n = false ∨ getB (frP b n) = none ∨ ∃ x, getB (frP b n) = some x ∧ 256 < acc.length + x.length) => (show getT b = none from getT_none (HP.out.no hl (by rw [HA.out]; exact hi) hn)))
        have HMO := Lib.hid (fun x (hx : getB (frP b n) = some x) => HP.out.more hl (by rw [HA.out]; exact hi) hx)
        have HUN := Lib.hid (runframe_any wr (.slice va b.length vc) b (n : Int) (HV.out.below HB.out (Nat.le_refl _)) (by omega) (by omega))
        cases hfr : frOk b n with
        | false =>
          have HR := Lib.hid (HNO.out (.inl hfr))
          have HU0 : Hid (Calls Tryz.prog 32 #[.slice va b.length vc, .int .i64 (n : Int)] wr fun e w' => e = .returned (.tuple #[.slice none 0 0, .int .i64 0, .bool false]) ∧ Below wr.heap.size wr w') := Lib.hid (by
            refine HUN.out.mono ?_
            rintro e w' (⟨_, h1, h2⟩ | ⟨p, h0, h1, _⟩)
            · exact ⟨h1, h2⟩
            · obtain rfl : n = p := by omega
              rw [hfr] at h1; cases h1)
          have HG0 : Hid (∀ wz, Calls Tryz.prog 33 #[.slice none 0 0] wz fun e w' => ∃ x ok, e = .returned (.tuple #[x, .bool ok]) ∧ Below wz.heap.size wz w') := Lib.hid fun wz => by
            refine (rgetblk_any (.slice none 0 0) [] wz (OwnB.nil wz 0 5).read (by simp)).mono ?_
            rintro e w' ⟨x, rfl, _, h⟩
            exact ⟨x, _, rfl, h⟩
          clear hfr HUN
          go_wp2_with (first | (go_at_call 32; (refine HU0.out.mono ?_); rintro e u1 ⟨rfl, hb1⟩) | (go_at_call 33; (refine (HG0.out _).mono ?_); rintro e u2 ⟨x2, ok2, rfl, hb2⟩))
          go_ret3
          exact RetParts.no HR.out (HB.out.trans ((belowT hb1 hb2).mono HB.out.size))
        | true =>
          have HU1 : Hid (Calls Tryz.prog 32 #[.slice va b.length vc, .int .i64 (n : Int)] wr fun e w' => ∃ u, e = .returned (.tuple #[u, .int .i64 ((n + 8 + frN b n : Nat) : Int), .bool true]) ∧ RdB w' u (frP b n) ∧ Below wr.heap.size wr w') := Lib.hid (by
            refine HUN.out.mono ?_
            rintro e w' (⟨h0, _, _⟩ | ⟨p, h0, h1, u, rfl, h2, h3⟩)
            · have := h0 n rfl
              rw [hfr] at this; cases this
            · obtain rfl : n = p := by omega
              exact ⟨u, rfl, h2.read, h3⟩)
          have hle := frOk_le hfr
          have HPB : Hid ((frP b n).length ≤ 1000000) := Lib.hid (by rw [frP_length hle]; omega)
          clear HUN
          cases hgb : getB (frP b n) with
          | none =>
            have HR := Lib.hid (HNO.out (.inr (.inl hgb)))
            have HG1 : Hid (∀ u wz, RdB wz u (frP b n) → Calls Tryz.prog 33 #[u] wz fun e w' => ∃ x, e = .returned (.tuple #[x, .bool false]) ∧ Below wz.heap.size wz w') := Lib.hid fun u wz hu => by
              refine (rgetblk_any u _ wz hu HPB.out).mono ?_
              rintro e w' ⟨x, rfl, _, h⟩
              exact ⟨x, by rw [hgb]; rfl, h⟩
            clear hgb hfr
            go_wp2_with (first | (go_at_call 32; (refine HU1.out.mono ?_); rintro e u1 ⟨y1, rfl, ho1, hb1⟩) | (go_at_call 33; (refine (HG1.out _ _ ho1).mono ?_); rintro e u2 ⟨x2, rfl, hb2⟩))
            go_ret3
            exact RetParts.no HR.out (HB.out.trans ((belowT hb1 hb2).mono HB.out.size))
          | some X =>
            have HGX : Hid (∀ u wz, RdB wz u (frP b n) → Calls Tryz.prog 33 #[u] wz fun e w' => ∃ xa xc, e = .returned (.tuple #[.slice xa X.length xc, .bool true]) ∧ OwnE w' wz.heap.size (.slice xa X.length xc) X ∧ Below wz.heap.size wz w') := Lib.hid fun u wz hu => by
              refine (rgetblk_any u _ wz hu HPB.out).mono ?_
              rintro e w' ⟨x, rfl, ho, h⟩
              rw [hgb] at ho
              have ho : OwnE w' wz.heap.size x X := ho
              obtain ⟨xa, xc, hx, _, _⟩ := ho.form
              subst hx
              exact ⟨xa, xc, by rw [hgb]; rfl, ho, h⟩
            have hpx := (getB_is hgb).1
            obtain ⟨x1, x2, x3⟩ := putErr_ok hpx
            have HXF : Hid (∀ e ∈ X, e.fits) := Lib.hid fun e he => Ent.may_fits (rising_all x1 e he)
            have hx0 := List.length_pos_iff.2 x2
            have HXN := Lib.hid x2
            by_cases h256 : 256 < acc.length + X.length
            · have HR := Lib.hid (HNO.out (.inr (.inr ⟨X, hgb, h256⟩)))
              have k2 : decide ((256 : Int) < (acc.length : Int) + (X.length : Int)) = true := by simp; omega
              have k3 : IntKind.i64.wrap ((acc.length : Int) + (X.length : Int)) = (acc.length : Int) + (X.length : Int) := IntWalk.i64_in _ (by omega)
              clear hgb hfr hpx x1 x2 HMO HNO
              go_wp2_with (first | (go_at_call 32; (refine HU1.out.mono ?_); rintro e u1 ⟨y1, rfl, ho1, hb1⟩) | (go_at_call 33; (refine (HGX.out _ _ ho1).mono ?_); rintro e u2 ⟨xa, xc, rfl, ho2, hb2⟩))
              go_ret3
              exact RetParts.no HR.out (HB.out.trans ((belowT hb1 hb2).mono HB.out.size))
            · have HP2 := Lib.hid (HMO.out X hgb)
              have k2 : decide ((256 : Int) < (acc.length : Int) + (X.length : Int)) = false := by simp; omega
              have k3 : IntKind.i64.wrap ((acc.length : Int) + (X.length : Int)) = (acc.length : Int) + (X.length : Int) := IntWalk.i64_in _ (by omega)
              have k2n : decide (256 < acc.length + X.length) = false := by simp; omega
              clear hgb hfr hpx x1 x2 HMO HNO
              by_cases hp1 : per0 = 0
              · have k4 : ((per0 : Int) == 0) = true := by rw [hp1]; rfl
                rw [if_pos hp1] at HP2
                clear hp1
                go_wp2_with (first | (go_at_call 32; (refine HU1.out.mono ?_); rintro e u1 ⟨y1, rfl, ho1, hb1⟩) | (go_at_call 33; (refine (HGX.out _ _ ho1).mono ?_); rintro e u2 ⟨xa, xc, rfl, ho2, hb2⟩; have HB2 : Hid (Below w.heap.size w u2) := Lib.hid (HB.out.trans ((belowT hb1 hb2).mono HB.out.size)); have HO2 := Lib.hid ((HO.out.below hb1).below hb2); have HX2 := Lib.hid (ho2.read HXF.out).1; clear ho1 ho2 hb1 hb2) | (at_builtin; refine wpList_append_rd rfl (.tmp 66) (.tmp 67) 22 rfl w.heap.size 39 4 48 (.agg #[.string ⟨#[]⟩, .int .i64 0, .int .i64 0, .string ⟨#[]⟩]) Tryz.underlying22 info_ent rfl (by decide) (.slice la acc.length lc) (.slice xa X.length xc) acc.length X.length (acc.flatMap Ent.cells) (X.flatMap Ent.cells) rfl rfl HO2.out HX2.out (entFlat_one _) ?bA ?l1 ?l2 ?kk))
                case bA => exact HB2.out.size
                case l1 => omega
                case l2 => unfold maxLen; omega
                case kk =>
                  intro v' w' hown' hb'
                  go_wp2
                  refine ⟨⟨acc ++ X, X.length, n + 8 + frN b n, by simp; omega, by omega, by omega, rfl, by go_num, Lib.hid ?_, HP2, Lib.hid ?_, Lib.hid ?_, Lib.hid (hb' _ _ (Nat.le_refl _) HB2.out)⟩, by simp [intOf]; omega⟩
                  · unfold OwnE
                    rw [List.length_append, List.flatMap_append]
                    exact hown'
                  · intro e he
                    rcases List.mem_append.1 he with he | he
                    · exact HFI.out e he
                    · exact HXF.out e he
                  · constructor
                    · intro h0
                      omega
                    · intro h0
                      exact absurd (List.append_eq_nil_iff.1 h0).2 HXN.out
              · have k4 : ((per0 : Int) == 0) = false := by
                  have : (per0 : Int) ≠ 0 := by omega
                  simpa using this
                rw [if_neg hp1] at HP2
                go_wp2_with (first | (go_at_call 32; (refine HU1.out.mono ?_); rintro e u1 ⟨y1, rfl, ho1, hb1⟩) | (go_at_call 33; (refine (HGX.out _ _ ho1).mono ?_); rintro e u2 ⟨xa, xc, rfl, ho2, hb2⟩; have HB2 : Hid (Below w.heap.size w u2) := Lib.hid (HB.out.trans ((belowT hb1 hb2).mono HB.out.size)); have HO2 := Lib.hid ((HO.out.below hb1).below hb2); have HX2 := Lib.hid (ho2.read HXF.out).1; clear ho1 ho2 hb1 hb2) | (at_builtin; refine wpList_append_rd rfl (.tmp 66) (.tmp 67) 22 rfl w.heap.size 39 4 48 (.agg #[.string ⟨#[]⟩, .int .i64 0, .int .i64 0, .string ⟨#[]⟩]) Tryz.underlying22 info_ent rfl (by decide) (.slice la acc.length lc) (.slice xa X.length xc) acc.length X.length (acc.flatMap Ent.cells) (X.flatMap Ent.cells) rfl rfl HO2.out HX2.out (entFlat_one _) ?bA ?l1 ?l2 ?kk))
                case bA => exact HB2.out.size
                case l1 => omega
                case l2 => unfold maxLen; omega
                case kk =>
                  intro v' w' hown' hb'
                  go_wp2
                  refine ⟨⟨acc ++ X, per0, n + 8 + frN b n, by simp; omega, by omega, by omega, rfl, by go_num, Lib.hid ?_, HP2, Lib.hid ?_, Lib.hid ?_, Lib.hid (hb' _ _ (Nat.le_refl _) HB2.out)⟩, by simp [intOf]; omega⟩
                  · unfold OwnE
                    rw [List.length_append, List.flatMap_append]
                    exact hown'
                  · intro e he
                    rcases List.mem_append.1 he with he | he
                    · exact HFI.out e he
                    · exact HXF.out e he
                  · constructor
                    · intro h0
                      omega
                    · intro h0
                      exact absurd (List.append_eq_nil_iff.1 h0).2 HXN.out
      · have k1 : decide ((n : Int) < (A : Int)) = false := by simp; omega
        have k1n : decide (n < A) = false := by simp; omega
        obtain ⟨la, lc, hla, hlc1, hlc2⟩ := HO.out.form
        subst hla
        unfold maxLen at hlc2
        have HQ := Lib.hid (fun (es : List Ent) (per : Nat) (f : List UInt8) (h : IsTabP b es per f) => HP.out.end_ hl (by rw [HA.out]; exact hi) h)
        rw [HA.out] at HQ
        have HUN := Lib.hid (runframe_any wr (.slice va b.length vc) b (A : Int) (HV.out.below HB.out (Nat.le_refl _)) (by omega) (by have := HAT.out; omega))
        have hA32 := HAT.out
        cases hfr : frOk b A with
        | false =>
          have HR := Lib.hid (show getT b = none from getT_none fun es f h => by
            obtain ⟨per, h⟩ := h
            have := (HQ.out es per f h).2.2.1
            rw [hfr] at this; cases this)
          have HU : Hid (Calls Tryz.prog 32 #[.slice va b.length vc, .int .i64 (A : Int)] wr fun e w' => e = .returned (.tuple #[.slice none 0 0, .int .i64 0, .bool false]) ∧ Below wr.heap.size wr w') := Lib.hid (by
            refine HUN.out.mono ?_
            rintro e w' (⟨_, h1, h2⟩ | ⟨p, h0, h1, _⟩)
            · exact ⟨h1, h2⟩
            · obtain rfl : A = p := by omega
              rw [hfr] at h1; cases h1)
          clear hfr HUN hA32
          go_upto_region 17 with (go_at_call 32; (refine HU.out.mono ?_); rintro e u1 ⟨rfl, hb1⟩; have HB1 : Hid (Below w.heap.size w u1) := Lib.hid (HB.out.trans (hb1.mono HB.out.size)); have HO1 := Lib.hid (HO.out.below hb1); clear hb1)
          refine wp_region_plan [(true, 0), (true, 1), (true, 2), (true, 3), (true, 4), (true, 5), (true, 6), (true, 7), (false, 8), (true, 9), (true, 10), (true, 11), (true, 12), (true, 13), (true, 14), (true, 17), (true, 18), (false, 15), (true, 16), (true, 19), (true, 20)] (by kernel_rfl) (by kernel_rfl) (by kernel_rfl) (by kernel_rfl) (by kernel_rfl) ?_
          simp only [planO, List.drop_succ_cons, List.drop_zero]
          refine PlanO.take (v := ?vE10) (by kernel_rfl) ?yE10 ?rE10
          case yE10 => (intro wz hz; go_simp; try with_reducible rfl)
          (try simp only [Act.put, List.setIfInBounds_toArray, List.set_cons_zero, List.set_cons_succ])
          refine PlanO.take (v := .bool true) (by kernel_rfl) ?yE11 ?rE11
          case yE11 => (intro wz hz; go_simp; try simp)
          (try simp only [Act.put, List.setIfInBounds_toArray, List.set_cons_zero, List.set_cons_succ])
          refine PlanO.take (v := ?vE12) (by kernel_rfl) ?yE12 ?rE12
          case yE12 => (intro wz hz; go_simp; try with_reducible rfl)
          (try simp only [Act.put, List.setIfInBounds_toArray, List.set_cons_zero, List.set_cons_succ])
          refine PlanO.skip (by kernel_rfl) ?_
          (try simp only [Act.put, List.setIfInBounds_toArray, List.set_cons_zero, List.set_cons_succ])
          refine PlanO.skip (by kernel_rfl) ?_
          (try simp only [Act.put, List.setIfInBounds_toArray, List.set_cons_zero, List.set_cons_succ])
          refine PlanO.take (v := .bool true) (by kernel_rfl) ?yE15 ?rE15
          case yE15 => (intro wz hz; go_simp; try simp)
          (try simp only [Act.put, List.setIfInBounds_toArray, List.set_cons_zero, List.set_cons_succ])
          refine PlanO.take (v := ?vE16) (by kernel_rfl) ?yE16 ?rE16
          case yE16 => (intro wz hz; go_simp; try with_reducible rfl)
          (try simp only [Act.put, List.setIfInBounds_toArray, List.set_cons_zero, List.set_cons_succ])
          refine PlanO.skip (by kernel_rfl) ?_
          (try simp only [Act.put, List.setIfInBounds_toArray, List.set_cons_zero, List.set_cons_succ])
          refine PlanO.skip (by kernel_rfl) ?_
          (try simp only [Act.put, List.setIfInBounds_toArray, List.set_cons_zero, List.set_cons_succ])
          refine PlanO.skip (by kernel_rfl) ?_
          (try simp only [Act.put, List.setIfInBounds_toArray, List.set_cons_zero, List.set_cons_succ])
          refine PlanO.take (v := .bool true) (by kernel_rfl) ?yE110 ?rE110
          case yE110 => (intro wz hz; go_simp; try simp)
          (try simp only [Act.put, List.setIfInBounds_toArray, List.set_cons_zero, List.set_cons_succ])
          refine PlanO.take (v := ?vE111) (by kernel_rfl) ?yE111 ?rE111
          case yE111 => (intro wz hz; go_simp; try with_reducible rfl)
          (try simp only [Act.put, List.setIfInBounds_toArray, List.set_cons_zero, List.set_cons_succ])
          refine PlanO.skip (by kernel_rfl) ?_
          (try simp only [Act.put, List.setIfInBounds_toArray, List.set_cons_zero, List.set_cons_succ])
          refine PlanO.skip (by kernel_rfl) ?_
          (try simp only [Act.put, List.setIfInBounds_toArray, List.set_cons_zero, List.set_cons_succ])
          refine PlanO.skip (by kernel_rfl) ?_
          (try simp only [Act.put, List.setIfInBounds_toArray, List.set_cons_zero, List.set_cons_succ])
          refine PlanO.skip (by kernel_rfl) ?_
          (try simp only [Act.put, List.setIfInBounds_toArray, List.set_cons_zero, List.set_cons_succ])
          refine PlanO.skip (by kernel_rfl) ?_
          (try simp only [Act.put, List.setIfInBounds_toArray, List.set_cons_zero, List.set_cons_succ])
          refine PlanO.skip (by kernel_rfl) ?_
          (try simp only [Act.put, List.setIfInBounds_toArray, List.set_cons_zero, List.set_cons_succ])
          refine PlanO.skip (by kernel_rfl) ?_
          (try simp only [Act.put, List.setIfInBounds_toArray, List.set_cons_zero, List.set_cons_succ])
          refine PlanO.skip (by kernel_rfl) ?_
          (try simp only [Act.put, List.setIfInBounds_toArray, List.set_cons_zero, List.set_cons_succ])
          refine PlanO.take (v := .bool true) (by kernel_rfl) ?yE120 ?rE120
          case yE120 => (intro wz hz; go_simp; try simp)
          (try simp only [Act.put, List.setIfInBounds_toArray, List.set_cons_zero, List.set_cons_succ])
          refine PlanO.done (NoPanic.normal ?_)
          go_wp2
          go_ret3
          exact RetParts.no HR.out HB1.out.drew
        | true =>
          obtain ⟨f, hf⟩ : ∃ f, frP b A = f := ⟨_, rfl⟩
          have HU : Hid (Calls Tryz.prog 32 #[.slice va b.length vc, .int .i64 (A : Int)] wr fun e w' => ∃ u, e = .returned (.tuple #[u, .int .i64 ((A + 8 + frN b A : Nat) : Int), .bool true]) ∧ OwnB w' w.heap.size 5 u f ∧ Below wr.heap.size wr w') := Lib.hid (by
            refine HUN.out.mono ?_
            rintro e w' (⟨h0, _, _⟩ | ⟨p, h0, h1, u, rfl, h2, h3⟩)
            · have := h0 A rfl
              rw [hfr] at this; cases this
            · obtain rfl : A = p := by omega
              rw [hf] at h2
              exact ⟨u, rfl, h2.mono_B HB.out.size, h3⟩)
          have HFL : Hid (f.length ≤ 1048576) := Lib.hid (by
            rw [← hf, frP_length (frOk_le hfr)]
            unfold frOk at hfr
            simp only [Bool.and_eq_true, decide_eq_true_eq] at hfr
            exact hfr.1.2)
          have HQF : Hid (∀ es per g, IsTabP b es per g → acc = es ∧ per0 = min per es.length ∧ f = g) := Lib.hid fun es per g h => by
            obtain ⟨a1, a2, _, a3⟩ := HQ.out es per g h
            rw [hf] at a3
            exact ⟨a1, a2, a3⟩
          clear hfr hf HUN HQ
          by_cases hz0 : per0 = 0
          · have k4 : ((per0 : Int) == 0) = true := by rw [hz0]; rfl
            have HR := Lib.hid (show getT b = none from getT_none fun es g h => by
              obtain ⟨per, h⟩ := h
              have h2 : IsTabP b es per g := h
              have := (HQF.out es per g h2).2.1
              have hp := h2.1
              have hn := List.length_pos_iff.2 h2.2.2.1.2.1
              omega)
            go_upto_region 17 with (go_at_call 32; (refine HU.out.mono ?_); rintro e u1 ⟨fu, rfl, hfu, hb1⟩; have HFU := Lib.hid hfu; clear hfu; have HB1 : Hid (Below w.heap.size w u1) := Lib.hid (HB.out.trans (hb1.mono HB.out.size)); have HO1 := Lib.hid (HO.out.below hb1); clear hb1)
            refine wp_region_plan [(true, 0), (true, 1), (true, 2), (true, 3), (true, 4), (true, 5), (true, 6), (true, 7), (false, 8), (true, 9), (true, 10), (true, 11), (true, 12), (true, 13), (true, 14), (true, 17), (true, 18), (false, 15), (true, 16), (true, 19), (true, 20)] (by kernel_rfl) (by kernel_rfl) (by kernel_rfl) (by kernel_rfl) (by kernel_rfl) ?_
            simp only [planO, List.drop_succ_cons, List.drop_zero]
            refine PlanO.take (v := ?vE20) (by kernel_rfl) ?yE20 ?rE20
            case yE20 => (intro wz hz; go_simp; try with_reducible rfl)
            (try simp only [Act.put, List.setIfInBounds_toArray, List.set_cons_zero, List.set_cons_succ])
            refine PlanO.take (v := .bool false) (by kernel_rfl) ?yE21 ?rE21
            case yE21 => (intro wz hz; go_simp; try simp)
            (try simp only [Act.put, List.setIfInBounds_toArray, List.set_cons_zero, List.set_cons_succ])
            refine PlanO.take (v := ?vE22) (by kernel_rfl) ?yE22 ?rE22
            case yE22 => (intro wz hz; go_simp; try with_reducible rfl)
            (try simp only [Act.put, List.setIfInBounds_toArray, List.set_cons_zero, List.set_cons_succ])
            refine PlanO.take (v := ?vE23) (by kernel_rfl) ?yE23 ?rE23
            case yE23 => (intro wz hz; go_simp; try with_reducible rfl)
            (try simp only [Act.put, List.setIfInBounds_toArray, List.set_cons_zero, List.set_cons_succ])
            refine PlanO.take (v := .bool true) (by kernel_rfl) ?yE24 ?rE24
            case yE24 => (intro wz hz; go_simp; try simp)
            (try simp only [Act.put, List.setIfInBounds_toArray, List.set_cons_zero, List.set_cons_succ])
            refine PlanO.take (v := .bool true) (by kernel_rfl) ?yE25 ?rE25
            case yE25 => (intro wz hz; go_simp; try simp)
            (try simp only [Act.put, List.setIfInBounds_toArray, List.set_cons_zero, List.set_cons_succ])
            refine PlanO.take (v := ?vE26) (by kernel_rfl) ?yE26 ?rE26
            case yE26 => (intro wz hz; go_simp; try with_reducible rfl)
            (try simp only [Act.put, List.setIfInBounds_toArray, List.set_cons_zero, List.set_cons_succ])
            refine PlanO.skip (by kernel_rfl) ?_
            (try simp only [Act.put, List.setIfInBounds_toArray, List.set_cons_zero, List.set_cons_succ])
            refine PlanO.skip (by kernel_rfl) ?_
            (try simp only [Act.put, List.setIfInBounds_toArray, List.set_cons_zero, List.set_cons_succ])
            refine PlanO.skip (by kernel_rfl) ?_
            (try simp only [Act.put, List.setIfInBounds_toArray, List.set_cons_zero, List.set_cons_succ])
            refine PlanO.take (v := .bool true) (by kernel_rfl) ?yE210 ?rE210
            case yE210 => (intro wz hz; go_simp; try simp)
            (try simp only [Act.put, List.setIfInBounds_toArray, List.set_cons_zero, List.set_cons_succ])
            refine PlanO.take (v := ?vE211) (by kernel_rfl) ?yE211 ?rE211
            case yE211 => (intro wz hz; go_simp; try with_reducible rfl)
            (try simp only [Act.put, List.setIfInBounds_toArray, List.set_cons_zero, List.set_cons_succ])
            refine PlanO.skip (by kernel_rfl) ?_
            (try simp only [Act.put, List.setIfInBounds_toArray, List.set_cons_zero, List.set_cons_succ])
            refine PlanO.skip (by kernel_rfl) ?_
            (try simp only [Act.put, List.setIfInBounds_toArray, List.set_cons_zero, List.set_cons_succ])
            refine PlanO.skip (by kernel_rfl) ?_
            (try simp only [Act.put, List.setIfInBounds_toArray, List.set_cons_zero, List.set_cons_succ])
            refine PlanO.skip (by kernel_rfl) ?_
            (try simp only [Act.put, List.setIfInBounds_toArray, List.set_cons_zero, List.set_cons_succ])
            refine PlanO.skip (by kernel_rfl) ?_
            (try simp only [Act.put, List.setIfInBounds_toArray, List.set_cons_zero, List.set_cons_succ])
            refine PlanO.skip (by kernel_rfl) ?_
            (try simp only [Act.put, List.setIfInBounds_toArray, List.set_cons_zero, List.set_cons_succ])
            refine PlanO.skip (by kernel_rfl) ?_
            (try simp only [Act.put, List.setIfInBounds_toArray, List.set_cons_zero, List.set_cons_succ])
            refine PlanO.skip (by kernel_rfl) ?_
            (try simp only [Act.put, List.setIfInBounds_toArray, List.set_cons_zero, List.set_cons_succ])
            refine PlanO.take (v := .bool true) (by kernel_rfl) ?yE220 ?rE220
            case yE220 => (intro wz hz; go_simp; try simp)
            (try simp only [Act.put, List.setIfInBounds_toArray, List.set_cons_zero, List.set_cons_succ])
            refine PlanO.done (NoPanic.normal ?_)
            go_wp2
            go_ret3
            exact RetParts.no HR.out HB1.out.drew
          · have k4 : ((per0 : Int) == 0) = false := by
              have : (per0 : Int) ≠ 0 := by omega
              simpa using this
            have HNN := Lib.hid (show acc ≠ [] from fun h => hz0 (HPZ.out.2 h))
            cases hri : risingB acc with
            | false =>
              have HR := Lib.hid (show getT b = none from getT_none fun es g h => by
                obtain ⟨per, h⟩ := h
                have h2 : IsTabP b es per g := h
                have h3 := (HQF.out es per g h2).1
                have h4 := h2.2.2.1.1
                rw [← h3, hri] at h4
                cases h4)
              go_upto_region 17 with (go_at_call 32; (refine HU.out.mono ?_); rintro e u1 ⟨fu, rfl, hfu, hb1⟩; have HFU := Lib.hid hfu; clear hfu; have HB1 : Hid (Below w.heap.size w u1) := Lib.hid (HB.out.trans (hb1.mono HB.out.size)); have HO1 := Lib.hid (HO.out.below hb1); clear hb1)
              have HRI : Hid (∀ wz, Below u1.heap.size u1 wz → Calls Tryz.prog 26 #[.slice la acc.length lc] wz fun e w' => e = .returned (.bool false) ∧ Below wz.heap.size wz w') := Lib.hid fun wz hz => by
                have h := rrising_any _ acc wz ((HO1.out.below hz).read HFI.out)
                rw [hri] at h
                exact h
              refine wp_region_plan [(true, 0), (true, 1), (true, 2), (true, 3), (true, 4), (true, 5), (true, 6), (true, 7), (false, 8), (true, 9), (true, 10), (true, 11), (true, 12), (true, 13), (true, 14), (true, 17), (true, 18), (false, 15), (true, 16), (true, 19), (true, 20)] (by kernel_rfl) (by kernel_rfl) (by kernel_rfl) (by kernel_rfl) (by kernel_rfl) ?_
              simp only [planO, List.drop_succ_cons, List.drop_zero]
              refine PlanO.take (v := ?vE30) (by kernel_rfl) ?yE30 ?rE30
              case yE30 => (intro wz hz; go_simp; try with_reducible rfl)
              (try simp only [Act.put, List.setIfInBounds_toArray, List.set_cons_zero, List.set_cons_succ])
              refine PlanO.take (v := .bool false) (by kernel_rfl) ?yE31 ?rE31
              case yE31 => (intro wz hz; go_simp; try simp)
              (try simp only [Act.put, List.setIfInBounds_toArray, List.set_cons_zero, List.set_cons_succ])
              refine PlanO.take (v := ?vE32) (by kernel_rfl) ?yE32 ?rE32
              case yE32 => (intro wz hz; go_simp; try with_reducible rfl)
              (try simp only [Act.put, List.setIfInBounds_toArray, List.set_cons_zero, List.set_cons_succ])
              refine PlanO.take (v := ?vE33) (by kernel_rfl) ?yE33 ?rE33
              case yE33 => (intro wz hz; go_simp; try with_reducible rfl)
              (try simp only [Act.put, List.setIfInBounds_toArray, List.set_cons_zero, List.set_cons_succ])
              refine PlanO.take (v := .bool false) (by kernel_rfl) ?yE34 ?rE34
              case yE34 => (intro wz hz; go_simp; try simp)
              (try simp only [Act.put, List.setIfInBounds_toArray, List.set_cons_zero, List.set_cons_succ])
              refine PlanO.take (v := .bool false) (by kernel_rfl) ?yE35 ?rE35
              case yE35 => (intro wz hz; go_simp; try simp)
              (try simp only [Act.put, List.setIfInBounds_toArray, List.set_cons_zero, List.set_cons_succ])
              refine PlanO.take (v := ?vE36) (by kernel_rfl) ?yE36 ?rE36
              case yE36 => (intro wz hz; go_simp; try with_reducible rfl)
              (try simp only [Act.put, List.setIfInBounds_toArray, List.set_cons_zero, List.set_cons_succ])
              refine PlanO.take (v := ?vE37) (by kernel_rfl) ?yE37 ?rE37
              case yE37 => (intro wz hz; go_simp; try with_reducible rfl)
              (try simp only [Act.put, List.setIfInBounds_toArray, List.set_cons_zero, List.set_cons_succ])
              refine PlanO.exec (fun K hK => ?_)
              go_simp
              go_at_call 26
              (refine (HRI.out _ (Below.refl _ _).drew).mono ?_)
              rintro e u3 ⟨rfl, hb3⟩
              go_wp2_with fail
              refine hK.out _ _ hb3 ?_
              clear hK K
              (try simp only [Act.put, List.setIfInBounds_toArray, List.set_cons_zero, List.set_cons_succ])
              refine PlanO.take (v := .bool true) (by kernel_rfl) ?yE39 ?rE39
              case yE39 => (intro wz hz; go_simp; try simp)
              (try simp only [Act.put, List.setIfInBounds_toArray, List.set_cons_zero, List.set_cons_succ])
              refine PlanO.take (v := .bool true) (by kernel_rfl) ?yE310 ?rE310
              case yE310 => (intro wz hz; go_simp; try simp)
              (try simp only [Act.put, List.setIfInBounds_toArray, List.set_cons_zero, List.set_cons_succ])
              refine PlanO.take (v := ?vE311) (by kernel_rfl) ?yE311 ?rE311
              case yE311 => (intro wz hz; go_simp; try with_reducible rfl)
              (try simp only [Act.put, List.setIfInBounds_toArray, List.set_cons_zero, List.set_cons_succ])
              refine PlanO.skip (by kernel_rfl) ?_
              (try simp only [Act.put, List.setIfInBounds_toArray, List.set_cons_zero, List.set_cons_succ])
              refine PlanO.skip (by kernel_rfl) ?_
              (try simp only [Act.put, List.setIfInBounds_toArray, List.set_cons_zero, List.set_cons_succ])
              refine PlanO.skip (by kernel_rfl) ?_
              (try simp only [Act.put, List.setIfInBounds_toArray, List.set_cons_zero, List.set_cons_succ])
              refine PlanO.skip (by kernel_rfl) ?_
              (try simp only [Act.put, List.setIfInBounds_toArray, List.set_cons_zero, List.set_cons_succ])
              refine PlanO.skip (by kernel_rfl) ?_
              (try simp only [Act.put, List.setIfInBounds_toArray, List.set_cons_zero, List.set_cons_succ])
              refine PlanO.skip (by kernel_rfl) ?_
              (try simp only [Act.put, List.setIfInBounds_toArray, List.set_cons_zero, List.set_cons_succ])
              refine PlanO.skip (by kernel_rfl) ?_
              (try simp only [Act.put, List.setIfInBounds_toArray, List.set_cons_zero, List.set_cons_succ])
              refine PlanO.skip (by kernel_rfl) ?_
              (try simp only [Act.put, List.setIfInBounds_toArray, List.set_cons_zero, List.set_cons_succ])
              refine PlanO.take (v := .bool true) (by kernel_rfl) ?yE320 ?rE320
              case yE320 => (intro wz hz; go_simp; try simp)
              (try simp only [Act.put, List.setIfInBounds_toArray, List.set_cons_zero, List.set_cons_succ])
              refine PlanO.done (NoPanic.normal ?_)
              go_wp2
              go_ret3
              exact RetParts.no HR.out (HB1.out.trans ((below_draw10 hb3).mono HB1.out.size))
            | true =>
              have HRT := Lib.hid hri
              obtain ⟨T, hTT⟩ : ∃ T, tableL acc per0 f = T := ⟨_, rfl⟩
              by_cases hT : tableL acc per0 f = b
              · have HIS := Lib.hid (show IsTab b acc f from ⟨per0, by omega, hp0, ⟨hri, HNN.out, hacc⟩, HFL.out, hT⟩)
                have HNE : Hid True := Lib.hid trivial
                go_upto_region 17 with (go_at_call 32; (refine HU.out.mono ?_); rintro e u1 ⟨fu, rfl, hfu, hb1⟩; have HFU := Lib.hid hfu; clear hfu; have HB1 : Hid (Below w.heap.size w u1) := Lib.hid (HB.out.trans (hb1.mono HB.out.size)); have HO1 := Lib.hid (HO.out.below hb1); clear hb1)
                have HRI : Hid (∀ wz, Below u1.heap.size u1 wz → Calls Tryz.prog 26 #[.slice la acc.length lc] wz fun e w' => e = .returned (.bool true) ∧ Below wz.heap.size wz w') := Lib.hid fun wz hz => by
                  have h := rrising_any _ acc wz ((HO1.out.below hz).read HFI.out)
                  rw [HRT.out] at h
                  exact h
                have HTB : Hid (∀ wz, Below u1.heap.size u1 wz → Calls Tryz.prog 27 #[.slice la acc.length lc, .int .i64 (per0 : Int), fu] wz (RetB wz.heap.size wz b)) := Lib.hid fun wz hz => by
                  have h := rtable_any _ fu acc per0 f wz ((HO1.out.below hz).read HFI.out) (HFU.out.below hz (Nat.le_refl _)).read HRT.out hacc (by omega) hp0 HFL.out
                  rw [hT] at h
                  exact h
                have HV1 : Hid (∀ wz, Below u1.heap.size u1 wz → RdB wz (.slice va b.length vc) b) := Lib.hid fun wz hz => HV.out.below (HB1.out.trans (hz.mono HB1.out.size)) (Nat.le_refl _)
                refine wp_region_plan [(true, 0), (true, 1), (true, 2), (true, 3), (true, 4), (true, 5), (true, 6), (true, 7), (false, 8), (true, 9), (true, 10), (true, 11), (true, 12), (true, 13), (true, 14), (true, 17), (true, 18), (false, 15), (true, 16), (true, 19), (true, 20)] (by kernel_rfl) (by kernel_rfl) (by kernel_rfl) (by kernel_rfl) (by kernel_rfl) ?_
                simp only [planO, List.drop_succ_cons, List.drop_zero]
                refine PlanO.take (v := ?vE50) (by kernel_rfl) ?yE50 ?rE50
                case yE50 => (intro wz hz; go_simp; try with_reducible rfl)
                (try simp only [Act.put, List.setIfInBounds_toArray, List.set_cons_zero, List.set_cons_succ])
                refine PlanO.take (v := .bool false) (by kernel_rfl) ?yE51 ?rE51
                case yE51 => (intro wz hz; go_simp; try simp)
                (try simp only [Act.put, List.setIfInBounds_toArray, List.set_cons_zero, List.set_cons_succ])
                refine PlanO.take (v := ?vE52) (by kernel_rfl) ?yE52 ?rE52
                case yE52 => (intro wz hz; go_simp; try with_reducible rfl)
                (try simp only [Act.put, List.setIfInBounds_toArray, List.set_cons_zero, List.set_cons_succ])
                refine PlanO.take (v := ?vE53) (by kernel_rfl) ?yE53 ?rE53
                case yE53 => (intro wz hz; go_simp; try with_reducible rfl)
                (try simp only [Act.put, List.setIfInBounds_toArray, List.set_cons_zero, List.set_cons_succ])
                refine PlanO.take (v := .bool false) (by kernel_rfl) ?yE54 ?rE54
                case yE54 => (intro wz hz; go_simp; try simp)
                (try simp only [Act.put, List.setIfInBounds_toArray, List.set_cons_zero, List.set_cons_succ])
                refine PlanO.take (v := .bool false) (by kernel_rfl) ?yE55 ?rE55
                case yE55 => (intro wz hz; go_simp; try simp)
                (try simp only [Act.put, List.setIfInBounds_toArray, List.set_cons_zero, List.set_cons_succ])
                refine PlanO.take (v := ?vE56) (by kernel_rfl) ?yE56 ?rE56
                case yE56 => (intro wz hz; go_simp; try with_reducible rfl)
                (try simp only [Act.put, List.setIfInBounds_toArray, List.set_cons_zero, List.set_cons_succ])
                refine PlanO.take (v := ?vE57) (by kernel_rfl) ?yE57 ?rE57
                case yE57 => (intro wz hz; go_simp; try with_reducible rfl)
                (try simp only [Act.put, List.setIfInBounds_toArray, List.set_cons_zero, List.set_cons_succ])
                refine PlanO.exec (fun K hK => ?_)
                go_simp
                go_at_call 26
                (refine (HRI.out _ (Below.refl _ _).drew).mono ?_)
                rintro e u3 ⟨rfl, hb3⟩
                go_wp2_with fail
                refine hK.out _ _ hb3 ?_
                clear hK K
                (try simp only [Act.put, List.setIfInBounds_toArray, List.set_cons_zero, List.set_cons_succ])
                refine PlanO.take (v := .bool false) (by kernel_rfl) ?yE59 ?rE59
                case yE59 => (intro wz hz; go_simp; try simp)
                (try simp only [Act.put, List.setIfInBounds_toArray, List.set_cons_zero, List.set_cons_succ])
                refine PlanO.take (v := .bool false) (by kernel_rfl) ?yE510 ?rE510
                case yE510 => (intro wz hz; go_simp; try simp)
                (try simp only [Act.put, List.setIfInBounds_toArray, List.set_cons_zero, List.set_cons_succ])
                refine PlanO.take (v := ?vE511) (by kernel_rfl) ?yE511 ?rE511
                case yE511 => (intro wz hz; go_simp; try with_reducible rfl)
                (try simp only [Act.put, List.setIfInBounds_toArray, List.set_cons_zero, List.set_cons_succ])
                refine PlanO.take (v := ?vE512) (by kernel_rfl) ?yE512 ?rE512
                case yE512 => (intro wz hz; go_simp; try with_reducible rfl)
                (try simp only [Act.put, List.setIfInBounds_toArray, List.set_cons_zero, List.set_cons_succ])
                refine PlanO.take (v := ?vE513) (by kernel_rfl) ?yE513 ?rE513
                case yE513 => (intro wz hz; go_simp; try with_reducible rfl)
                (try simp only [Act.put, List.setIfInBounds_toArray, List.set_cons_zero, List.set_cons_succ])
                refine PlanO.take (v := ?vE514) (by kernel_rfl) ?yE514 ?rE514
                case yE514 => (intro wz hz; go_simp; try with_reducible rfl)
                (try simp only [Act.put, List.setIfInBounds_toArray, List.set_cons_zero, List.set_cons_succ])
                refine PlanO.take (v := ?vE517) (by kernel_rfl) ?yE517 ?rE517
                case yE517 => (intro wz hz; go_simp; try with_reducible rfl)
                (try simp only [Act.put, List.setIfInBounds_toArray, List.set_cons_zero, List.set_cons_succ])
                refine PlanO.take (v := ?vE518) (by kernel_rfl) ?yE518 ?rE518
                case yE518 => (intro wz hz; have q2 := rdB_convert (P := Tryz.prog) (HV1.out _ (Below.trans (below_draw10 hb3) (Below.mono hz (Below.size (below_draw10 hb3))))) 24 5 9 Tryz.underlying24 Tryz.underlying5 Tryz.underlying9; go_simp; try with_reducible rfl)
                (try simp only [Act.put, List.setIfInBounds_toArray, List.set_cons_zero, List.set_cons_succ])
                refine PlanO.exec (fun K hK => ?_)
                go_simp
                go_at_call 27
                (refine (HTB.out _ (below_draw10 hb3)).mono ?_)
                rintro e u5 ⟨p5, rfl, ho5, hb5⟩
                obtain ⟨t5, c5, hp5, _, _⟩ := ho5.read.form
                subst hp5
                go_wp2_with fail
                refine hK.out _ _ hb5 ?_
                clear hK K
                (try simp only [Act.put, List.setIfInBounds_toArray, List.set_cons_zero, List.set_cons_succ])
                refine PlanO.take (v := ?vE516) (by kernel_rfl) ?yE516 ?rE516
                case yE516 => (intro wz hz; have q1 := rdB_convert (P := Tryz.prog) (ho5.read.below hz (Nat.le_refl _)) 24 5 9 Tryz.underlying24 Tryz.underlying5 Tryz.underlying9; go_simp; try with_reducible rfl)
                (try simp only [Act.put, List.setIfInBounds_toArray, List.set_cons_zero, List.set_cons_succ])
                refine PlanO.take (v := .bool false) (by kernel_rfl) ?yE519 ?rE519
                case yE519 => (intro wz hz; go_simp; (try simp); (try exact HNE.out))
                (try simp only [Act.put, List.setIfInBounds_toArray, List.set_cons_zero, List.set_cons_succ])
                refine PlanO.take (v := .bool false) (by kernel_rfl) ?yE520 ?rE520
                case yE520 => (intro wz hz; go_simp; try simp)
                (try simp only [Act.put, List.setIfInBounds_toArray, List.set_cons_zero, List.set_cons_succ])
                refine PlanO.done (NoPanic.normal ?_)
                go_wp2
                go_ret3
                unfold RetParts
                rw [getT_some hl HIS.out]
                exact ⟨_, _, rfl, (HO1.out.below (below_draw10 hb3)).below hb5, (HFU.out.below (below_draw10 hb3) (Nat.le_refl _)).below hb5 (Nat.le_refl _), (HB1.out.trans ((below_draw10 hb3).mono HB1.out.size)).trans (hb5.mono (Nat.le_trans HB1.out.size (below_draw10 hb3).size))⟩
              · have HR := Lib.hid (show getT b = none from getT_none fun es g h => by
                  obtain ⟨per, h⟩ := h
                  have h2 : IsTabP b es per g := h
                  obtain ⟨a1, a2, a3⟩ := HQF.out es per g h2
                  refine hT ?_
                  rw [a1, a2, a3, table_min _ h2.2.2.1.2.1]
                  exact h2.2.2.2.2)
                have HNE : Hid (¬ T = b) := Lib.hid (by rw [← hTT]; exact hT)
                go_upto_region 17 with (go_at_call 32; (refine HU.out.mono ?_); rintro e u1 ⟨fu, rfl, hfu, hb1⟩; have HFU := Lib.hid hfu; clear hfu; have HB1 : Hid (Below w.heap.size w u1) := Lib.hid (HB.out.trans (hb1.mono HB.out.size)); have HO1 := Lib.hid (HO.out.below hb1); clear hb1)
                have HRI : Hid (∀ wz, Below u1.heap.size u1 wz → Calls Tryz.prog 26 #[.slice la acc.length lc] wz fun e w' => e = .returned (.bool true) ∧ Below wz.heap.size wz w') := Lib.hid fun wz hz => by
                  have h := rrising_any _ acc wz ((HO1.out.below hz).read HFI.out)
                  rw [HRT.out] at h
                  exact h
                have HTB : Hid (∀ wz, Below u1.heap.size u1 wz → Calls Tryz.prog 27 #[.slice la acc.length lc, .int .i64 (per0 : Int), fu] wz (RetB wz.heap.size wz T)) := Lib.hid fun wz hz => by
                  have h := rtable_any _ fu acc per0 f wz ((HO1.out.below hz).read HFI.out) (HFU.out.below hz (Nat.le_refl _)).read HRT.out hacc (by omega) hp0 HFL.out
                  rw [hTT] at h
                  exact h
                have HV1 : Hid (∀ wz, Below u1.heap.size u1 wz → RdB wz (.slice va b.length vc) b) := Lib.hid fun wz hz => HV.out.below (HB1.out.trans (hz.mono HB1.out.size)) (Nat.le_refl _)
                refine wp_region_plan [(true, 0), (true, 1), (true, 2), (true, 3), (true, 4), (true, 5), (true, 6), (true, 7), (false, 8), (true, 9), (true, 10), (true, 11), (true, 12), (true, 13), (true, 14), (true, 17), (true, 18), (false, 15), (true, 16), (true, 19), (true, 20)] (by kernel_rfl) (by kernel_rfl) (by kernel_rfl) (by kernel_rfl) (by kernel_rfl) ?_
                simp only [planO, List.drop_succ_cons, List.drop_zero]
                refine PlanO.take (v := ?vE40) (by kernel_rfl) ?yE40 ?rE40
                case yE40 => (intro wz hz; go_simp; try with_reducible rfl)
                (try simp only [Act.put, List.setIfInBounds_toArray, List.set_cons_zero, List.set_cons_succ])
                refine PlanO.take (v := .bool false) (by kernel_rfl) ?yE41 ?rE41
                case yE41 => (intro wz hz; go_simp; try simp)
                (try simp only [Act.put, List.setIfInBounds_toArray, List.set_cons_zero, List.set_cons_succ])
                refine PlanO.take (v := ?vE42) (by kernel_rfl) ?yE42 ?rE42
                case yE42 => (intro wz hz; go_simp; try with_reducible rfl)
                (try simp only [Act.put, List.setIfInBounds_toArray, List.set_cons_zero, List.set_cons_succ])
                refine PlanO.take (v := ?vE43) (by kernel_rfl) ?yE43 ?rE43
                case yE43 => (intro wz hz; go_simp; try with_reducible rfl)
                (try simp only [Act.put, List.setIfInBounds_toArray, List.set_cons_zero, List.set_cons_succ])
                refine PlanO.take (v := .bool false) (by kernel_rfl) ?yE44 ?rE44
                case yE44 => (intro wz hz; go_simp; try simp)
                (try simp only [Act.put, List.setIfInBounds_toArray, List.set_cons_zero, List.set_cons_succ])
                refine PlanO.take (v := .bool false) (by kernel_rfl) ?yE45 ?rE45
                case yE45 => (intro wz hz; go_simp; try simp)
                (try simp only [Act.put, List.setIfInBounds_toArray, List.set_cons_zero, List.set_cons_succ])
                refine PlanO.take (v := ?vE46) (by kernel_rfl) ?yE46 ?rE46
                case yE46 => (intro wz hz; go_simp; try with_reducible rfl)
                (try simp only [Act.put, List.setIfInBounds_toArray, List.set_cons_zero, List.set_cons_succ])
                refine PlanO.take (v := ?vE47) (by kernel_rfl) ?yE47 ?rE47
                case yE47 => (intro wz hz; go_simp; try with_reducible rfl)
                (try simp only [Act.put, List.setIfInBounds_toArray, List.set_cons_zero, List.set_cons_succ])
                refine PlanO.exec (fun K hK => ?_)
                go_simp
                go_at_call 26
                (refine (HRI.out _ (Below.refl _ _).drew).mono ?_)
                rintro e u3 ⟨rfl, hb3⟩
                go_wp2_with fail
                refine hK.out _ _ hb3 ?_
                clear hK K
                (try simp only [Act.put, List.setIfInBounds_toArray, List.set_cons_zero, List.set_cons_succ])
                refine PlanO.take (v := .bool false) (by kernel_rfl) ?yE49 ?rE49
                case yE49 => (intro wz hz; go_simp; try simp)
                (try simp only [Act.put, List.setIfInBounds_toArray, List.set_cons_zero, List.set_cons_succ])
                refine PlanO.take (v := .bool false) (by kernel_rfl) ?yE410 ?rE410
                case yE410 => (intro wz hz; go_simp; try simp)
                (try simp only [Act.put, List.setIfInBounds_toArray, List.set_cons_zero, List.set_cons_succ])
                refine PlanO.take (v := ?vE411) (by kernel_rfl) ?yE411 ?rE411
                case yE411 => (intro wz hz; go_simp; try with_reducible rfl)
                (try simp only [Act.put, List.setIfInBounds_toArray, List.set_cons_zero, List.set_cons_succ])
                refine PlanO.take (v := ?vE412) (by kernel_rfl) ?yE412 ?rE412
                case yE412 => (intro wz hz; go_simp; try with_reducible rfl)
                (try simp only [Act.put, List.setIfInBounds_toArray, List.set_cons_zero, List.set_cons_succ])
                refine PlanO.take (v := ?vE413) (by kernel_rfl) ?yE413 ?rE413
                case yE413 => (intro wz hz; go_simp; try with_reducible rfl)
                (try simp only [Act.put, List.setIfInBounds_toArray, List.set_cons_zero, List.set_cons_succ])
                refine PlanO.take (v := ?vE414) (by kernel_rfl) ?yE414 ?rE414
                case yE414 => (intro wz hz; go_simp; try with_reducible rfl)
                (try simp only [Act.put, List.setIfInBounds_toArray, List.set_cons_zero, List.set_cons_succ])
                refine PlanO.take (v := ?vE417) (by kernel_rfl) ?yE417 ?rE417
                case yE417 => (intro wz hz; go_simp; try with_reducible rfl)
                (try simp only [Act.put, List.setIfInBounds_toArray, List.set_cons_zero, List.set_cons_succ])
                refine PlanO.take (v := ?vE418) (by kernel_rfl) ?yE418 ?rE418
                case yE418 => (intro wz hz; have q2 := rdB_convert (P := Tryz.prog) (HV1.out _ (Below.trans (below_draw10 hb3) (Below.mono hz (Below.size (below_draw10 hb3))))) 24 5 9 Tryz.underlying24 Tryz.underlying5 Tryz.underlying9; go_simp; try with_reducible rfl)
                (try simp only [Act.put, List.setIfInBounds_toArray, List.set_cons_zero, List.set_cons_succ])
                refine PlanO.exec (fun K hK => ?_)
                go_simp
                go_at_call 27
                (refine (HTB.out _ (below_draw10 hb3)).mono ?_)
                rintro e u5 ⟨p5, rfl, ho5, hb5⟩
                obtain ⟨t5, c5, hp5, _, _⟩ := ho5.read.form
                subst hp5
                go_wp2_with fail
                refine hK.out _ _ hb5 ?_
                clear hK K
                (try simp only [Act.put, List.setIfInBounds_toArray, List.set_cons_zero, List.set_cons_succ])
                refine PlanO.take (v := ?vE416) (by kernel_rfl) ?yE416 ?rE416
                case yE416 => (intro wz hz; have q1 := rdB_convert (P := Tryz.prog) (ho5.read.below hz (Nat.le_refl _)) 24 5 9 Tryz.underlying24 Tryz.underlying5 Tryz.underlying9; go_simp; try with_reducible rfl)
                (try simp only [Act.put, List.setIfInBounds_toArray, List.set_cons_zero, List.set_cons_succ])
                refine PlanO.take (v := .bool true) (by kernel_rfl) ?yE419 ?rE419
                case yE419 => (intro wz hz; go_simp; (try simp); (try exact HNE.out))
                (try simp only [Act.put, List.setIfInBounds_toArray, List.set_cons_zero, List.set_cons_succ])
                refine PlanO.take (v := .bool true) (by kernel_rfl) ?yE420 ?rE420
                case yE420 => (intro wz hz; go_simp; try simp)
                (try simp only [Act.put, List.setIfInBounds_toArray, List.set_cons_zero, List.set_cons_succ])
                refine PlanO.done (NoPanic.normal ?_)
                go_wp2
                go_ret3
                exact RetParts.no HR.out ((HB1.out.trans ((below_draw10 hb3).mono HB1.out.size)).trans (hb5.mono (Nat.le_trans HB1.out.size (below_draw10 hb3).size)))
end Go.Proofs.YteeikmpfgbfeoaaGreat

/-
  What the document's Newest does.
-/
namespace Go.Proofs.YteeikmpfgbfeoaaGreat
open Go.RowKit

theorem newest_at {L : List Ent} {u : ByteArray} {s : Int} {k : Nat} (hk : k < L.length) (h : ∀ j, j < k → ¬ ((L.getD j Ent.none_).u = u ∧ (L.getD j Ent.none_).s ≤ s)) (h2 : (L.getD k Ent.none_).u = u ∧ (L.getD k Ent.none_).s ≤ s) : newest L u s = some (L.getD k Ent.none_) := by
  induction L generalizing k with
  | nil => simp at hk
  | cons x r ih =>
    unfold newest
    rw [List.find?_cons]
    cases k with
    | zero =>
      have : decide (x.u = u ∧ x.s ≤ s) = true := by rw [decide_eq_true_eq]; exact h2
      rw [this]; rfl
    | succ k =>
      have h0 := h 0 (by omega)
      have : decide (x.u = u ∧ x.s ≤ s) = false := by rw [decide_eq_false_iff_not]; exact h0
      rw [this]
      exact ih (by simpa using hk) (fun j hj => h (j + 1) (by omega)) h2
theorem newest_no {L : List Ent} {u : ByteArray} {s : Int} (h : ∀ j, j < L.length → ¬ ((L.getD j Ent.none_).u = u ∧ (L.getD j Ent.none_).s ≤ s)) : newest L u s = none := by
  unfold newest
  rw [List.find?_eq_none]
  intro x hx
  obtain ⟨j, hj, rfl⟩ := List.getElem_of_mem hx
  have := h j hj
  simp only [List.getD, List.getElem?_eq_getElem hj, Option.getD_some] at this
  simpa using this

set_option maxRecDepth 100000 in
set_option maxHeartbeats 4000000 in
theorem rnewest_any {w : World} {v : Value} {L : List Ent} (hv : OwnE w 0 v L) (u : ByteArray) (s : Int) :
    Calls Tryz.prog 37 #[v, .string u, .int .i64 s] w fun r w' => r = .returned (ansN (newest L u s)) ∧ Below w.heap.size w w' := by
  obtain ⟨va, vc, rfl, hc1, hc2⟩ := hv.form
  unfold maxLen at hc2
  have HO := Lib.hid hv
  clear hv
  go_enter Tryz.func37, Tryz.ntmps37
  go_wp2
  go_loopw [8] (fun i wr => ∃ k : Nat, k ≤ L.length ∧ i = .int .i64 (k : Int) ∧ Hid (∀ j, j < k → ¬ ((L.getD j Ent.none_).u = u ∧ (L.getD j Ent.none_).s ≤ s)) ∧ Hid (Below w.heap.size w wr ∧ wr.heap[w.heap.size]? = some (.cells #[.string ⟨#[]⟩, .int .i64 0, .int .i64 0, .string ⟨#[]⟩] 39 (0, 0)))) (fun i _ => L.length - (intOf i).toNat)
  case atStart => exact ⟨0, Nat.zero_le _, rfl, Lib.hid (fun j h => by omega), Lib.hid ⟨(Below.refl _ _).alloc (Nat.le_refl _) _, heap_alloc_new w _⟩⟩
  case round =>
    obtain ⟨k, hk, rfl, HK, HB⟩ := hrel
    have hsr := HB.out.2
    have s0 := blk_cell (i := 0) hsr
    have s1 := blk_cell (i := 1) hsr
    have s2 := blk_cell (i := 2) hsr
    have s3 := blk_cell (i := 3) hsr
    have t0 := blk_free (i := 0) hsr
    have t1 := blk_free (i := 1) hsr
    have t2 := blk_free (i := 2) hsr
    have t3 := blk_free (i := 3) hsr
    clear hsr
    by_cases hlt : k < L.length
    · obtain ⟨g, rfl, hg, x0, x1, x2, x3⟩ := own_ent (HO.out.below HB.out.1) hlt
      have HAT := Lib.hid (@newest_at L u s k hlt HK.out)
      have HMO := Lib.hid (show ¬ ((L.getD k Ent.none_).u = u ∧ (L.getD k Ent.none_).s ≤ s) → ∀ j, j < k + 1 → ¬ ((L.getD j Ent.none_).u = u ∧ (L.getD j Ent.none_).s ≤ s) from fun h2 j hj => by
        rcases Nat.lt_or_ge j k with h1 | h1
        · exact HK.out j h1
        · obtain rfl : j = k := by omega
          exact h2)
      generalize L.getD k Ent.none_ = X at *
      obtain ⟨xu, xs, xk, xv⟩ := X
      simp only at x0 x1 x2 x3
      by_cases hu : xu = u
      · by_cases hs : xs ≤ s
        · have HR := Lib.hid (HAT.out ⟨hu, hs⟩)
          clear HAT HMO
          subst hu
          go_wp2
          refine bodyPost_ret (results_row_tmp rfl _ _ w.heap.size 39 #[.string xu, .int .i64 xs, .int .i64 xk, .string xv] (0, 0) _ rfl ?hgA Tryz.underlying39 rfl (by kernel_rfl)) rfl ?_
          case hgA => exact (set4 HB.out.2 rfl rfl rfl rfl).1
          rw [HR.out]
          exact ⟨rfl, (set4 HB.out.2 rfl rfl rfl rfl).2 _ (Nat.le_refl _) _ HB.out.1⟩
        · have HN := Lib.hid (HMO.out (fun h => hs h.2))
          clear HAT HMO
          subst hu
          go_wp2
          refine ⟨⟨k + 1, hlt, by go_num, HN, HB⟩, ?_⟩
          simp [intOf]; omega
      · have HN := Lib.hid (HMO.out (fun h => hu h.1))
        have hne : (xu.toList == u.toList) = false := by
          rw [beq_eq_false_iff_ne, toList_data, toList_data]
          exact fun e => hu (ByteArray.ext (Array.toList_inj.1 e))
        clear HAT HMO
        go_wp2
        refine ⟨⟨k + 1, hlt, by go_num, HN, HB⟩, ?_⟩
        simp [intOf]; omega
    · have hke : k = L.length := by omega
      have HR := Lib.hid (@newest_no L u s (fun j hj => HK.out j (by omega)))
      clear hke
      go_wp2
      refine bodyPost_ret (results_row_tmp rfl _ _ w.heap.size 39 #[.string ⟨#[]⟩, .int .i64 0, .int .i64 0, .string ⟨#[]⟩] (0, 0) _ rfl ?hgB Tryz.underlying39 rfl (by kernel_rfl)) rfl ?_
      case hgB => exact (set4 HB.out.2 rfl rfl rfl rfl).1
      rw [HR.out]
      exact ⟨rfl, (set4 HB.out.2 rfl rfl rfl rfl).2 _ (Nat.le_refl _) _ HB.out.1⟩
end Go.Proofs.YteeikmpfgbfeoaaGreat

/-
  The results of a function that tells a struct, that lies in a row of cells, and two values besides.
-/
namespace Go.Proofs.YteeikmpfgbfeoaaGreat
open Go.RowKit

theorem results_row_tmp2 {P : Program} {fn : Func} {p u u' : Tmp} {ty : TypeId} (h : fn.results = #[.cell p ty, .tmp u, .tmp u']) (tmps : Array Value) (w : World) (g : Nat) (t : TypeId) (cs : Array Value) (fr : Nat × Nat) (d : TypeDesc)
    (hp : tmps.getD p undef = .pointer (some ⟨g, 0, none⟩)) (hg : w.heap[g]? = some (.cells cs t fr))
    (hu : P.underlying ty = some d) (hd : (match d with | .struct _ | .array _ _ => true | _ => false) = true) (hi : (P.info? ty).map (·.size) = some cs.size) :
    (results fn tmps).run P w = .ok (.tuple #[.agg cs, tmps.getD u undef, tmps.getD u' undef]) w := by
  have h1 : (results fn tmps).run P w = ((asAddr (tmps.getD p undef)).run P w).andThen fun a w₁ => ((loadVar ty a).run P w₁).andThen fun v w₂ => .ok (.tuple #[v, tmps.getD u undef, tmps.getD u' undef]) w₂ := by
    simp only [results, h]
    simp [Sem.run_bind, Result.andThen]
  rw [h1, hp]
  simp [asAddr, run_loadVar_row w g t ty cs fr d hg hu hd hi]

end Go.Proofs.YteeikmpfgbfeoaaGreat

/-
  Tables: the entry of a User at a number, as the document finds it in a table.
-/
namespace Go.Proofs.YteeikmpfgbfeoaaGreat
open Go.RowKit

/-- What is found: nothing, where the bytes are no table. -/
noncomputable def findT (b : List UInt8) (u : ByteArray) (s : Int) : Option (Option Ent) := match getT b with
  | none => none
  | some (es, f) => some (if mayL f (hashL u.data.toList) then newest es u s else none)
/-- .. as three values. -/
def ansF : Option (Option Ent) → Value
  | none => .tuple #[.agg #[.string ⟨#[]⟩, .int .i64 0, .int .i64 0, .string ⟨#[]⟩], .bool false, .int .i64 5]
  | some none => .tuple #[.agg #[.string ⟨#[]⟩, .int .i64 0, .int .i64 0, .string ⟨#[]⟩], .bool false, .int .i64 0]
  | some (some e) => .tuple #[entV e, .bool true, .int .i64 0]

theorem ansF_form (o : Option (Option Ent)) : ∃ (a : ByteArray) (b c : Int) (d : ByteArray) (f : Bool) (g : Int), ansF o = .tuple #[.agg #[.string a, .int .i64 b, .int .i64 c, .string d], .bool f, .int .i64 g] := by
  rcases o with _ | _ | e
  · exact ⟨_, _, _, _, _, _, rfl⟩
  · exact ⟨_, _, _, _, _, _, rfl⟩
  · exact ⟨_, _, _, _, _, _, rfl⟩

theorem IsTabP.filter_len {b : List UInt8} {es : List Ent} {per : Nat} {f : List UInt8} (h : IsTabP b es per f) : f.length ≤ b.length := by
  have := h.len
  omega

theorem alloc_keepT {w : World} {o x : Obj} {k : Nat} (h : w.heap[k]? = some x) : (w.alloc o).heap[k]? = some x := (Below.block ((Below.refl _ _).alloc (Nat.le_refl _) _) _ (blk_lt h)).trans h

set_option maxRecDepth 100000 in
set_option maxHeartbeats 400000 in
theorem rfind_any (v : Value) (b : List UInt8) (u : ByteArray) (s : Int) (w : World) (hv : RdB w v b) (hl : b.length ≤ 1000000) (hu : u.size ≤ maxLen) :
    Calls Tryz.prog 12 #[v, .string u, .int .i64 s] w fun e w' => e = .returned (ansF (findT b u s)) ∧ Below w.heap.size w w' := by
  have HV := Lib.hid hv
  clear hv
  cases hg : getT b with
  | none =>
    have HR := Lib.hid (show findT b u s = none by unfold findT; rw [hg])
    have HP : Hid (∀ wz, Below w.heap.size w wz → Calls Tryz.prog 10 #[v] wz fun e w' => e = .returned (.tuple #[.slice none 0 0, .slice none 0 0, .int .i64 5]) ∧ Below wz.heap.size wz w') := Lib.hid fun wz hz => by
      have h := rparts_any v b wz (HV.out.below hz (Nat.le_refl _)) hl
      unfold RetParts at h
      rw [hg] at h
      exact h
    clear hg
    go_enter Tryz.func12, Tryz.ntmps12
    go_wp2_with (go_at_call 10; (refine (HP.out _ ((Below.refl _ _).alloc (Nat.le_refl _) _)).mono ?_); rintro e w1 ⟨rfl, hb1⟩; have hrow := (hb1.block _ (by simp)).trans (heap_alloc_new w (.cells #[.string ⟨#[]⟩, .int .i64 0, .int .i64 0, .string ⟨#[]⟩] 39)); have HROW := Lib.hid hrow; have HB1 : Hid (Below w.heap.size w w1) := Lib.hid (((Below.refl _ _).alloc (Nat.le_refl _) _).trans (hb1.mono (by simp))); have s0 := blk_cell (i := 0) hrow; have t0 := blk_free (i := 0) hrow; have s1 := blk_cell (i := 1) hrow; have t1 := blk_free (i := 1) hrow; have s2 := blk_cell (i := 2) hrow; have t2 := blk_free (i := 2) hrow; have s3 := blk_cell (i := 3) hrow; have t3 := blk_free (i := 3) hrow; clear hrow hb1)
    refine bodyPost_ret (results_row_tmp2 rfl _ _ w.heap.size 39 #[.string ⟨#[]⟩, .int .i64 0, .int .i64 0, .string ⟨#[]⟩] (0, 0) _ rfl ?hgE Tryz.underlying39 rfl (by kernel_rfl)) rfl ?_
    case hgE => exact (set4 HROW.out rfl rfl rfl rfl).1
    rw [HR.out]
    exact ⟨rfl, (set4 HROW.out rfl rfl rfl rfl).2 _ (Nat.le_refl _) _ HB1.out⟩
  | some x =>
    obtain ⟨es, f⟩ := x
    have hfl : f.length ≤ 1000000 := by
      obtain ⟨per, h⟩ := getT_is hg
      have := IsTabP.filter_len (show IsTabP b es per f from h)
      omega
    have HP : Hid (∀ wz, Below w.heap.size w wz → Calls Tryz.prog 10 #[v] wz fun e w' => ∃ x y, e = .returned (.tuple #[x, y, .int .i64 0]) ∧ OwnE w' wz.heap.size x es ∧ OwnB w' wz.heap.size 5 y f ∧ Below wz.heap.size wz w') := Lib.hid fun wz hz => by
      have h := rparts_any v b wz (HV.out.below hz (Nat.le_refl _)) hl
      unfold RetParts at h
      rw [hg] at h
      exact h
    cases hm : mayL f (hashL u.data.toList) with
    | false =>
      have HR := Lib.hid (show findT b u s = some none by unfold findT; rw [hg]; simp only; rw [hm]; rfl)
      have HM : Hid (∀ y wz, RdB wz y f → Calls Tryz.prog 36 #[y, .string u] wz fun e w' => e = .returned (.bool false) ∧ wz = w') := Lib.hid fun y wz hy => by
        have h := rmaybe_any y f u hu wz hy hfl
        rw [hm] at h
        exact h
      clear hg hm
      go_enter Tryz.func12, Tryz.ntmps12
      go_wp2_with (first | (go_at_call 10; (refine (HP.out _ ((Below.refl _ _).alloc (Nat.le_refl _) _)).mono ?_); rintro e w1 ⟨x, y, rfl, hx, hy, hb1⟩; have HY := Lib.hid hy.read; have hrow := (hb1.block _ (by simp)).trans (heap_alloc_new w (.cells #[.string ⟨#[]⟩, .int .i64 0, .int .i64 0, .string ⟨#[]⟩] 39)); have HROW := Lib.hid hrow; have HB1 : Hid (Below w.heap.size w w1) := Lib.hid (((Below.refl _ _).alloc (Nat.le_refl _) _).trans (hb1.mono (by simp))); have s0 := blk_cell (i := 0) hrow; have t0 := blk_free (i := 0) hrow; have s1 := blk_cell (i := 1) hrow; have t1 := blk_free (i := 1) hrow; have s2 := blk_cell (i := 2) hrow; have t2 := blk_free (i := 2) hrow; have s3 := blk_cell (i := 3) hrow; have t3 := blk_free (i := 3) hrow; clear hrow hb1 hx hy) | (go_at_call 36; (refine (HM.out _ _ HY.out).mono ?_); rintro e w2 ⟨rfl, rfl⟩))
      refine bodyPost_ret (results_row_tmp2 rfl _ _ w.heap.size 39 #[.string ⟨#[]⟩, .int .i64 0, .int .i64 0, .string ⟨#[]⟩] (0, 0) _ rfl ?hgF Tryz.underlying39 rfl (by kernel_rfl)) rfl ?_
      case hgF => exact (set4 HROW.out rfl rfl rfl rfl).1
      rw [HR.out]
      exact ⟨rfl, (set4 HROW.out rfl rfl rfl rfl).2 _ (Nat.le_refl _) _ HB1.out⟩
    | true =>
      have HR := Lib.hid (show findT b u s = some (newest es u s) by unfold findT; rw [hg]; simp only; rw [hm]; rfl)
      have HM : Hid (∀ y wz, RdB wz y f → Calls Tryz.prog 36 #[y, .string u] wz fun e w' => e = .returned (.bool true) ∧ wz = w') := Lib.hid fun y wz hy => by
        have h := rmaybe_any y f u hu wz hy hfl
        rw [hm] at h
        exact h
      obtain ⟨xu, xs, xk, xv, ok, hn⟩ := ansN_form (newest es u s)
      have HF : Hid (ansF (some (newest es u s)) = .tuple #[.agg #[.string xu, .int .i64 xs, .int .i64 xk, .string xv], .bool ok, .int .i64 0]) := Lib.hid (by
        cases he : newest es u s with
        | none => rw [he] at hn; unfold ansN at hn; simp only [Value.tuple.injEq, Array.mk.injEq, List.cons.injEq, Value.agg.injEq, Value.string.injEq, Value.int.injEq, Value.bool.injEq, true_and, and_true] at hn; obtain ⟨⟨rfl, rfl, rfl, rfl⟩, rfl⟩ := hn; rfl
        | some e => rw [he] at hn; unfold ansN at hn; simp only [Value.tuple.injEq, Array.mk.injEq, List.cons.injEq, Value.agg.injEq, Value.string.injEq, Value.int.injEq, Value.bool.injEq, true_and, and_true] at hn; obtain ⟨⟨rfl, rfl, rfl, rfl⟩, rfl⟩ := hn; rfl)
      have HNW : Hid (∀ x wz, OwnE wz 0 x es → Calls Tryz.prog 37 #[x, .string u, .int .i64 s] wz fun e w' => e = .returned (.tuple #[.agg #[.string xu, .int .i64 xs, .int .i64 xk, .string xv], .bool ok]) ∧ Below wz.heap.size wz w') := Lib.hid fun x wz hx => by
        have h := rnewest_any hx u s
        rw [hn] at h
        exact h
      clear hg hm hn
      go_enter Tryz.func12, Tryz.ntmps12
      go_wp2_with (first | (go_at_call 10; (refine (HP.out _ ((Below.refl _ _).alloc (Nat.le_refl _) _)).mono ?_); rintro e w1 ⟨x, y, rfl, hx, hy, hb1⟩; have HX := Lib.hid (own_monoE hx (Nat.zero_le _)); have HY := Lib.hid hy.read; have HROW1 := Lib.hid ((hb1.block _ (by simp)).trans (heap_alloc_new w (.cells #[.string ⟨#[]⟩, .int .i64 0, .int .i64 0, .string ⟨#[]⟩] 39))); have HB1 : Hid (Below w.heap.size w w1) := Lib.hid (((Below.refl _ _).alloc (Nat.le_refl _) _).trans (hb1.mono (by simp))); clear hb1 hx hy) | (go_at_call 36; (refine (HM.out _ _ HY.out).mono ?_); rintro e w2 ⟨rfl, rfl⟩) | (go_at_call 37; (refine (HNW.out _ _ HX.out).mono ?_); rintro e w3 ⟨rfl, hb3⟩; have hrow := alloc_keepT (o := .cells #[.string xu, .int .i64 xs, .int .i64 xk, .string xv] 39) ((hb3.block _ (blk_lt HROW1.out)).trans HROW1.out); have HROW := Lib.hid hrow; have HB3 : Hid (Below w.heap.size w w3) := Lib.hid (HB1.out.trans (hb3.mono HB1.out.size)); have s0 := blk_cell (i := 0) hrow; have t0 := blk_free (i := 0) hrow; have s1 := blk_cell (i := 1) hrow; have t1 := blk_free (i := 1) hrow; have s2 := blk_cell (i := 2) hrow; have t2 := blk_free (i := 2) hrow; have s3 := blk_cell (i := 3) hrow; have t3 := blk_free (i := 3) hrow; clear hrow hb3))
      refine bodyPost_ret (results_row_tmp2 rfl _ _ w.heap.size 39 #[.string xu, .int .i64 xs, .int .i64 xk, .string xv] (0, 0) _ rfl ?hgG Tryz.underlying39 rfl (by kernel_rfl)) rfl ?_
      case hgG => exact (set4 HROW.out rfl rfl rfl rfl).1
      rw [HR.out, HF.out]
      exact ⟨rfl, (set4 HROW.out rfl rfl rfl rfl).2 _ (Nat.le_refl _) _ (HB3.out.alloc HB3.out.size _)⟩
end Go.Proofs.YteeikmpfgbfeoaaGreat
