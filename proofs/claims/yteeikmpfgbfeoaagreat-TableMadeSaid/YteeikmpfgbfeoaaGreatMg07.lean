import Derived.Test.YteeikmpfgbfeoaaGreatSumTurn
import Derived.Test.YteeikmpfgbfeoaaGreatWords
import Derived.Test.YteeikmpfgbfeoaaGreatMg06
import Derived.Test.YteeikmpfgbfeoaaGreatMg05
import Derived.Deep.Cut

/-
  Bytes put one over another, as the walk spells it; where a slice of the call's own lies: plain facts.
-/
namespace Go.Proofs.YteeikmpfgbfeoaaGreat
open Go.RowKit

theorem ofInt_u8 (a : Nat) (ha : a < 256) : (BitVec.ofInt 8 (a : Int)).toNat = a := by
  rw [BitVec.ofInt_natCast, BitVec.toNat_ofNat]
  exact Nat.mod_eq_of_lt (by omega)

theorem xor_u8 (a b : UInt8) : bits .xor .u8 (a.toNat : Int) (b.toNat : Int) = ((a ^^^ b).toNat : Int) := by
  have ha := a.toNat_lt
  have hb := b.toNat_lt
  have hx : a.toNat ^^^ b.toNat < 2 ^ 8 := Nat.xor_lt_two_pow (by omega) (by omega)
  show IntKind.u8.wrap ((BitVec.ofInt 8 (a.toNat : Int) ^^^ BitVec.ofInt 8 (b.toNat : Int)).toNat : Int) = _
  rw [BitVec.toNat_xor, ofInt_u8 _ (by omega), ofInt_u8 _ (by omega), IntKind.wrap_u8, UInt8.toNat_xor]
  omega

/-- A slice of the call's own that is not empty: where it lies. -/
theorem OwnB.place {w : World} {B e : Nat} {v : Value} {l : List UInt8} (h : OwnB w B e v l) (hne : l ≠ []) :
    ∃ g cap, v = .slice (some ⟨g, 0, none⟩) l.length cap ∧ B ≤ g ∧ l.length ≤ cap ∧ cap ≤ maxLen := by
  obtain ⟨h0, h1⟩ := h
  rcases h1 with ⟨rfl, h2⟩ | ⟨g, cap, cur, rfl, hB, hg, hn, hm, hs, htake⟩
  · exact absurd (List.eq_nil_of_length_eq_zero (by simpa using h2)) hne
  · exact ⟨g, cap, rfl, hB, hn, hm⟩
end Go.Proofs.YteeikmpfgbfeoaaGreat

/-
  The walk of TableMade.
-/
namespace Go.Proofs.YteeikmpfgbfeoaaGreat
open Go.RowKit

/-- A byte of the first of two rows is stored; then the same byte of the second. -/
theorem two_set {W w : World} {B gx gy n cx cy p : Nat} {T : List UInt8} (hx : OwnB w B 5 (.slice (some ⟨gx, 0, none⟩) n cx) T) (hy : OwnB w B 5 (.slice (some ⟨gy, 0, none⟩) n cy) T) (hn : T.length = n) (hne : gx ≠ gy) (hgx : B ≤ gx) (hgy : B ≤ gy) (hb : Below B W w) (c : UInt8) :
    OwnB ((w.setCell ⟨gx, p, none⟩ (bv c)).setCell ⟨gy, p, none⟩ (bv c)) B 5 (.slice (some ⟨gx, 0, none⟩) n cx) (T.set p c) ∧ OwnB ((w.setCell ⟨gx, p, none⟩ (bv c)).setCell ⟨gy, p, none⟩ (bv c)) B 5 (.slice (some ⟨gy, 0, none⟩) n cy) (T.set p c) ∧ Below B W ((w.setCell ⟨gx, p, none⟩ (bv c)).setCell ⟨gy, p, none⟩ (bv c)) := by
  subst hn
  refine ⟨?_, ?_, ?_⟩
  · have h1 := hx.stored p c
    unfold OwnB at h1 ⊢
    exact ownsRow_setCell_other h1 (a := ⟨gy, p, none⟩) (fun e => hne (by cases e; rfl)) _
  · have h0 : OwnB (w.setCell ⟨gx, p, none⟩ (bv c)) B 5 (.slice (some ⟨gy, 0, none⟩) T.length cy) T := by
      unfold OwnB
      exact ownsRow_setCell_other hy (a := ⟨gx, p, none⟩) (fun e => hne (by cases e; rfl)) _
    exact h0.stored p c
  · exact (hb.setCell (p := ⟨gx, p, none⟩) hgx _).setCell (p := ⟨gy, p, none⟩) hgy _

set_option maxRecDepth 100000 in
set_option maxHeartbeats 1000000 in
theorem tableMade_walkC (HP : PutTC) (HA : AllTC) (HF : FindTC) (v0 : Value) (ns : List UInt8) (a1 a2 : Int) (bits : Nat) (a4 a5 a6 a7 : Int) (W : World) (w0 : RdB W v0 ns) (wa1 : (Lit.int .u8 a1).wf = true) (wa2 : (Lit.int .u8 a2).wf = true) (wa3 : (Lit.float .f64 bits).wf = true) (wa4 : (Lit.int .u16 a4).wf = true) (wa5 : (Lit.int .u8 a5).wf = true) (wa6 : (Lit.int .u8 a6).wf = true) (wa7 : (Lit.int .u8 a7).wf = true) :
    Calls Tryz.prog 4 #[v0, .int .u8 a1, .int .u8 a2, .float .f64 bits, .int .u16 a4, .int .u8 a5, .int .u8 a6, .int .u8 a7] W fun r w' => r = .returned (.bool true) ∧ Below W.heap.size W w' := by
  have HAW := Lib.hid (awake13_any HP HA)
  have n1 := bounds_u8 wa1
  have n2 := bounds_u8 wa2
  have n4 := bounds_u16 wa4
  have n5 := bounds_u8 wa5
  have n6 := bounds_u8 wa6
  have n7 := bounds_u8 wa7
  have HWB := Lib.hid wa3
  obtain ⟨sp, rfl⟩ : ∃ n : Nat, a1 = (n : Int) := ⟨a1.toNat, by omega⟩
  obtain ⟨pp, rfl⟩ : ∃ n : Nat, a2 = (n : Int) := ⟨a2.toNat, by omega⟩
  obtain ⟨at_, rfl⟩ : ∃ n : Nat, a4 = (n : Int) := ⟨a4.toNat, by omega⟩
  obtain ⟨y, rfl⟩ : ∃ y : UInt8, a5 = (y.toNat : Int) := ⟨UInt8.ofNat a5.toNat, by rw [UInt8.toNat_ofNat']; omega⟩
  obtain ⟨us, rfl⟩ : ∃ n : Nat, a6 = (n : Int) := ⟨a6.toNat, by omega⟩
  obtain ⟨sq, rfl⟩ : ∃ n : Nat, a7 = (n : Int) := ⟨a7.toNat, by omega⟩
  clear wa1 wa2 wa3 wa4 wa5 wa6 wa7
  obtain ⟨va, vc, rfl, hc1, hc2⟩ := w0.form
  unfold maxLen at hc2
  have HV0 := Lib.hid w0
  clear w0
  by_cases c0 : ns.length = 0
  · have d0 : ((ns.length : Int) == 0) = true := by rw [c0]; rfl
    clear c0
    go_enter Tryz.func4, Tryz.ntmps4
    go_wp2_with (go_at_call 6; (refine (HAW.out _).mono ?_); rintro e w9 ⟨rfl, hb9⟩)
    go_ret
    exact ⟨rfl, hb9⟩
  · have d0 : ((ns.length : Int) == 0) = false := by
      have : (ns.length : Int) ≠ 0 := by omega
      simpa using this
    by_cases c1 : 120 < ns.length
    · have d1 : decide ((120 : Int) < (ns.length : Int)) = true := by simp; omega
      have d1n : decide (120 < ns.length) = true := by simp; omega
      clear c0
      go_enter Tryz.func4, Tryz.ntmps4
      go_wp2_with (go_at_call 6; (refine (HAW.out _).mono ?_); rintro e w9 ⟨rfl, hb9⟩)
      go_ret
      exact ⟨rfl, hb9⟩
    · have d1 : decide ((120 : Int) < (ns.length : Int)) = false := by simp; omega
      have d1n : decide (120 < ns.length) = false := by simp; omega
      have hne : ns ≠ [] := fun h => c0 (by rw [h]; rfl)
      have HMK := Lib.hid (make12_any _ ns sp (by omega) W HV0.out (by omega))
      have hm := mayT_mk sp hne (by omega)
      have HFT := Lib.hid (mk_fits ns sp)
      generalize mkB ns sp = L at *
      clear c0 c1 hne
      obtain ⟨m, hmm⟩ : ∃ m, us % 50 = m := ⟨_, rfl⟩
      have m1 : (us : Int).tmod 50 = (m : Int) := by rw [Int.tmod_eq_emod_of_nonneg (by omega)]; omega
      have m2 : (us : Int) % 50 = (m : Int) := by omega
      have hml : m < 50 := by omega
      clear hmm
      have HDI := Lib.hid (rdigits_any m (by omega))
      have hdl := digL_len m
      obtain ⟨ku, hku⟩ : ∃ ku, (⟨#[107, 101, 121]⟩ : ByteArray) ++ strB (digL m) = ku := ⟨_, rfl⟩
      have hks : ku.size ≤ 1000 := by
        rw [← hku, ByteArray.size_append, strB_size]
        show 3 + (digL m).length ≤ 1000
        omega
      have hkm : ku.size ≤ maxLen := by unfold maxLen; omega
      have hlim : ¬ 9223372036854775807 < 3 + (digL m).length := by omega
      have HSQ := Lib.hid (show (Lit.int .i64 (sq : Int)).wf = true by simp only [Lit.wf, IntKind.min, IntKind.max, IntKind.signed, IntKind.bits]; simp; omega)
      obtain ⟨k, hkk⟩ : ∃ k, 1 + pp % 64 = k := ⟨_, rfl⟩
      have k1 : 1 + (pp : Int).tmod 64 = (k : Int) := by rw [Int.tmod_eq_emod_of_nonneg (by omega)]; omega
      have k2 : 1 + (pp : Int) % 64 = (k : Int) := by omega
      have k3 : IntKind.i64.wrap (1 + (pp : Int) % 64) = (k : Int) := by rw [IntWalk.i64_in _ (by omega)]; omega
      have hk1 : 1 ≤ k := by omega
      have hk2 : k ≤ 64 := by omega
      clear hkk
      obtain ⟨T0, hT0⟩ : ∃ T0, tableL L k (makeL (hashes (usersL L)) bits) = T0 := ⟨_, rfl⟩
      have hts := table_small hm hk1 hk2 (makeF_few L bits (by have := hm.2.2; omega))
      rw [hT0] at hts
      have HPU : Hid (∀ v w, OwnE w 0 v L → Calls Tryz.prog 7 #[v, .int .i64 (k : Int), .float .f64 bits] w fun e w' => ∃ x, e = .returned (.tuple #[x, .int .i64 0]) ∧ OwnB w' w.heap.size 5 x T0 ∧ Below w.heap.size w w') := Lib.hid fun v w ho => by
        rw [← hT0]
        exact put_yes HP (ho.read HFT.out) hm hk1 hk2 HWB.out
      have HPR : Hid (∀ v w, OwnE w 0 v L → Calls Tryz.prog 8 #[v, .int .i64 (k : Int), .float .f64 bits] w fun e w' => ∃ x, e = .returned (.tuple #[x, .int .i64 0]) ∧ OwnB w' w.heap.size 5 x T0 ∧ Below w.heap.size w w') := Lib.hid fun v w ho => by
        have h0 := putT_may (per := (k : Int)) hm (by omega) (by omega)
        refine (rputtab_any v L (k : Int) bits w (ho.read HFT.out) (by simp only [Lit.wf, IntKind.min, IntKind.max, IntKind.signed, IntKind.bits]; simp; omega) HWB.out).mono ?_
        rintro e w' ⟨x, rfl, ho, hb'⟩
        rw [h0, if_pos rfl] at ho
        rw [← hT0]
        exact ⟨x, by rw [h0], ho, hb'⟩
      obtain ⟨n, hn⟩ : ∃ n, T0.length = n := ⟨_, rfl⟩
      have HTN := Lib.hid hn
      have HNE := Lib.hid (show T0 ≠ [] from fun h => by rw [h] at hts; simp at hts)
      rw [hn] at hts
      have hn1 : 17 ≤ n := hts.1
      have hn2 : n ≤ 1000000 := hts.2
      have b0 : ((n : Int) == 0) = false := by
        have : (n : Int) ≠ 0 := by omega
        simpa using this
      have b0n : (n == 0) = false := by
        have : n ≠ 0 := by omega
        simpa using this
      obtain ⟨p, hp⟩ : ∃ p, at_ % n = p := ⟨_, rfl⟩
      have hpn : p < n := by rw [← hp]; exact Nat.mod_lt _ (by omega)
      have b1 : (at_ : Int).tmod (n : Int) = (p : Int) := by rw [Int.tmod_eq_emod_of_nonneg (by omega), ← hp]; simp
      have b2 : (at_ : Int) % (n : Int) = (p : Int) := by rw [← hp]; simp
      have b3 : ¬ (n : Int) = 0 := by omega
      have b4 : ((p : Nat) : Int) < (n : Int) := by omega
      clear hp hn hts hm hT0 hdl
      go_enter Tryz.func4, Tryz.ntmps4
      go_wp2_with (first | (go_at_call 6; (refine (HAW.out _).mono ?_); rintro e w9 ⟨rfl, hb9⟩) | (go_at_call 14; (refine (num12_any _ _).mono ?_); rintro e w10 ⟨rfl, rfl⟩) | (go_at_call 16; (refine HMK.out.mono ?_); rintro e w1 ⟨x1, rfl, ho1, hb1⟩; have HO1 := Lib.hid (show OwnE w1 0 x1 L from own_base ho1 fun _ _ => Nat.zero_le _); have HB1 : Hid (Below W.heap.size W w1) := Lib.hid hb1; clear ho1 hb1) | (go_at_call 7; (refine (HPU.out _ _ HO1.out).mono ?_); rintro e w2 ⟨x2, rfl, ho2, hb2⟩; obtain ⟨gx, cx, hx2, hgx, _, _⟩ := OwnB.place ho2 HNE.out; rw [HTN.out] at hx2; subst hx2; have HGX := Lib.hid hgx; have HGX2 := Lib.hid (own_lt ho2 gx rfl); have HX2 := Lib.hid ho2; have HO2 := Lib.hid (HO1.out.below hb2); have HB2 := Lib.hid (belowT HB1.out hb2); have HB2S := Lib.hid hb2.size; clear ho2 hb2 hgx) | (go_at_call 8; (refine (HPR.out _ _ HO2.out).mono ?_); rintro e w3 ⟨x3, rfl, ho3, hb3⟩; obtain ⟨gy, cy, hx3, hgy, _, _⟩ := OwnB.place ho3 HNE.out; rw [HTN.out] at hx3; subst hx3; have HGY := Lib.hid hgy; have HY3 := Lib.hid (ho3.mono_B (Nat.le_trans HB1.out.size HB2S.out)); have HX3 := Lib.hid (HX2.out.below hb3 (Nat.le_refl _)); have HB3 := Lib.hid (belowT HB2.out hb3); have q1 := rdB_convert (P := Tryz.prog) HX3.out.read 24 5 9 Tryz.underlying24 Tryz.underlying5 Tryz.underlying9; have q2 := rdB_convert (P := Tryz.prog) ho3.read 24 5 9 Tryz.underlying24 Tryz.underlying5 Tryz.underlying9; clear ho3 hb3 hgy) | (go_at_call 17; (refine (HDI.out _).mono ?_); rintro e w4 ⟨rfl, hb4⟩; have HX4 := Lib.hid (HX3.out.below hb4 (Nat.le_refl _)); have HY4 := Lib.hid (HY3.out.below hb4 (Nat.le_refl _)); have HB4 := Lib.hid (belowT HB3.out hb4); clear hb4))
      have HGW : Hid (W.heap.size ≤ gx ∧ W.heap.size ≤ gy ∧ gx ≠ gy) := Lib.hid ⟨Nat.le_trans HB1.out.size HGX.out, Nat.le_trans HB2.out.size HGY.out, by have := HGX2.out; have := HGY.out; omega⟩
      have HX5 := Lib.hid (HX4.out.mono_B HB1.out.size)
      have HY5 := HY4
      clear HX2 HX3 HX4 HY3 HY4 HO1 HO2 HB1 HB2 HB3 q1 q2 HGX HGY HGX2 HB2S
      go_loopw [24] (fun i wr => ∃ (j : Nat) (T : List UInt8), j ≤ 2 ∧ i = .int .i64 (j : Int) ∧ T.length = n ∧ Hid (OwnB wr W.heap.size 5 (.slice (some ⟨gx, 0, none⟩) n cx) T) ∧ Hid (OwnB wr W.heap.size 5 (.slice (some ⟨gy, 0, none⟩) n cy) T) ∧ Hid (Below W.heap.size W wr)) (fun i _ => 2 - (intOf i).toNat)
      case atStart => exact ⟨0, T0, by omega, rfl, HTN.out, HX5, HY5, HB4⟩
      case round =>
        obtain ⟨j, T, hj, rfl, hT, HX, HY, HB⟩ := hrel
        have HTT := Lib.hid hT
        have HTL := Lib.hid (show T.length ≤ 1000000 by omega)
        clear hT
        by_cases hlt : j < 2
        · have g1 : decide ((j : Int) < 2) = true := by simp; omega
          have g2 : (j : Int) < 2 := by omega
          obtain ⟨te, hte⟩ : ∃ te, errT T = te := ⟨_, rfl⟩
          have HES := Lib.hid hte
          obtain ⟨TE, hTE⟩ : ∃ TE, entsT T = TE := ⟨_, rfl⟩
          have HEN := Lib.hid hTE
          have HTE := Lib.hid (show TE.length ≤ 256 by rw [← hTE]; exact (entsT_fits T).2)
          obtain ⟨au, as_, ak, av, ab, ae, han⟩ := ansF_form (findT T ku (sq : Int))
          have HAN := Lib.hid han
          clear hte hTE han
          go_upto_region 19 with (first | (go_at_call 6; (refine (HAW.out _).mono ?_); rintro e w9 ⟨rfl, hb9⟩) | (go_at_call 14; (refine (num12_any _ _).mono ?_); rintro e w10 ⟨rfl, rfl⟩) | (go_at_call 9; (refine (HA _ T _ HX.out.read HTL.out).mono ?_); rintro e u1 ⟨x1, rfl, ho1, hb1⟩; rw [HES.out]; rw [HEN.out] at ho1; have HO1 := Lib.hid ho1; have E1 := Lib.hid hb1; clear ho1 hb1) | (go_at_call 10; (refine (rparts_any _ T _ (HY.out.below E1.out (Nat.le_refl _)).read HTL.out).mono ?_); intro e u2 h5; obtain ⟨x2, f2, rfl, ho2, hb2⟩ := h5.all; rw [HES.out]; rw [HEN.out] at ho2; have HO2 := Lib.hid ho2; have E2 := Lib.hid hb2; clear h5 ho2 hb2) | (go_at_call 11; (refine (HF _ T ku (sq : Int) _ (HX.out.below (belowT E1.out E2.out) (Nat.le_refl _)).read HTL.out hks HSQ.out).mono ?_); rintro e u3 ⟨rfl, hb3⟩; rw [HAN.out]; have E3 := Lib.hid (belowT hb3 ((Below.refl _ u3).alloc (Nat.le_refl _) (.cells #[.string au, .int .i64 as_, .int .i64 ak, .string av] 39))); have HX3 := Lib.hid (heap_alloc_new u3 (.cells #[.string au, .int .i64 as_, .int .i64 ak, .string av] 39)); clear hb3) | (go_at_call 12; (refine (rfind_any _ T ku (sq : Int) _ (HY.out.below (belowT (belowT E1.out E2.out) E3.out) (Nat.le_refl _)).read HTL.out hkm).mono ?_); rintro e u4 ⟨rfl, hb4⟩; rw [HAN.out]; have E4 := Lib.hid (belowT hb4 ((Below.refl _ u4).alloc (Nat.le_refl _) (.cells #[.string au, .int .i64 as_, .int .i64 ak, .string av] 39))); have HX4 := Lib.hid (heap_alloc_new u4 (.cells #[.string au, .int .i64 as_, .int .i64 ak, .string av] 39)); clear hb4) | (go_at_call 15; (refine (rsame_ent _ _ TE _ (by have := HTE.out; omega) (own_base (HO1.out.below (belowT (belowT E2.out E3.out) E4.out)) fun _ _ => Nat.zero_le _) (own_base (HO2.out.below (belowT E3.out E4.out)) fun _ _ => Nat.zero_le _)).mono ?_); rintro e u5 ⟨rfl, hb5⟩; have E5 := Lib.hid hb5; have p6 := ((belowT E4.out hb5).block u3.heap.size (blk_lt HX3.out)).trans HX3.out; have p7 := (hb5.block _ (blk_lt HX4.out)).trans HX4.out; have f0 := blk_cell (i := 0) p6; have f1 := blk_cell (i := 1) p6; have f2 := blk_cell (i := 2) p6; have f3 := blk_cell (i := 3) p6; have h0 := blk_cell (i := 0) p7; have h1 := blk_cell (i := 1) p7; have h2 := blk_cell (i := 2) p7; have h3 := blk_cell (i := 3) p7; have HD := Lib.hid (belowT (belowT (belowT (belowT E1.out E2.out) E3.out) E4.out) hb5); clear hb5 p6 p7))
          have HXu := Lib.hid (HX.out.below HD.out (Nat.le_refl _))
          have HYu := Lib.hid (HY.out.below HD.out (Nat.le_refl _))
          have HBu := Lib.hid (HB.out.trans (HD.out.mono HB.out.size))
          have cx0 := HXu.out.cellAt p (by rw [HTT.out]; exact hpn)
          have fx0 := HXu.out.frozenAt p
          have cy0 := HYu.out.cellAt p (by rw [HTT.out]; exact hpn)
          obtain ⟨d, hd⟩ : ∃ d, T.getD p 0 = d := ⟨_, rfl⟩
          rw [hd] at cx0 cy0
          have hxr := xor_u8 d y
          obtain ⟨c, hc⟩ : ∃ c, d ^^^ y = c := ⟨_, rfl⟩
          rw [hc] at hxr
          replace cx0 : u5.cell? ⟨gx, p, none⟩ = some (.int .u8 (d.toNat : Int)) := cx0
          have h6 := two_set (p := p) HXu.out HYu.out HTT.out HGW.out.2.2 HGW.out.1 HGW.out.2.1 HBu.out c
          have H6 := Lib.hid h6
          have h0 : OwnB (u5.setCell ⟨gx, p, none⟩ (bv c)) W.heap.size 5 (.slice (some ⟨gy, 0, none⟩) n cy) T := by
            unfold OwnB
            exact ownsRow_setCell_other HYu.out (a := ⟨gx, p, none⟩) (fun e => HGW.out.2.2 (by cases e; rfl)) _
          have H0 := Lib.hid h0
          have HDD := Lib.hid hd
          clear hc hd h6 h0 cy0 f0 f1 f2 f3 h1 h2 h3
          go_upto_region 20 with (fail)
          obtain ⟨u6, hu6⟩ : ∃ u6, u6 = u5.setCell ⟨gx, p, none⟩ (.int .u8 (c.toNat : Int)) := ⟨_, rfl⟩
          rw [← hu6]
          have cy0 : u6.cell? ⟨gy, p, none⟩ = some (.int .u8 (d.toNat : Int)) := by
            have h := H0.out.cellAt p (by rw [HTT.out]; exact hpn)
            rw [HDD.out] at h
            rw [hu6]
            exact h
          have fy0 : u6.frozen? ⟨gy, p, none⟩ = false := by
            rw [hu6]
            exact H0.out.frozenAt p
          have HU6 := Lib.hid hu6
          clear hu6 cx0 fx0
          go_wp2
          refine ⟨⟨j + 1, T.set p c, by omega, by go_num, by rw [List.length_set]; exact HTT.out, Lib.hid ?_, Lib.hid ?_, Lib.hid ?_⟩, by simp [intOf]; omega⟩
          · rw [HU6.out]; exact H6.out.1
          · rw [HU6.out]; exact H6.out.2.1
          · rw [HU6.out]; exact H6.out.2.2
        · have g1 : decide ((j : Int) < 2) = false := by simp; omega
          go_wp2_with (go_at_call 6; (refine (HAW.out _).mono ?_); rintro e w9 ⟨rfl, hb9⟩)
          go_ret
          exact ⟨rfl, belowT HB.out hb9⟩
end Go.Proofs.YteeikmpfgbfeoaaGreat
