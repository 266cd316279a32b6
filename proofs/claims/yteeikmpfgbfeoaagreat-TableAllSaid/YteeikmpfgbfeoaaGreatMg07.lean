import Derived.Test.YteeikmpfgbfeoaaGreatMg06

/-
  The walk of TableAll.
-/
namespace Go.Proofs.YteeikmpfgbfeoaaGreat
open Go.RowKit

set_option maxRecDepth 100000 in
set_option maxHeartbeats 1000000 in
theorem tableAll_walkC (HP : PutTC) (HA : AllTC) (HF : FindTC) (HE : EndsTC) (v0 : Value) (es : List Ent) (per : Int) (bits : Nat) (v3 : Value) (b : List UInt8) (u : ByteArray) (s : Int) (W : World) (w0 : RdE W v0 es) (w1 : (Lit.int .i64 per).wf = true) (w2 : (Lit.float .f64 bits).wf = true) (w3 : RdB W v3 b) (w4 : u.size ≤ maxLen) (w5 : (Lit.int .i64 s).wf = true) :
    Calls Tryz.prog 3 #[v0, .int .i64 per, .float .f64 bits, v3, .string u, .int .i64 s] W fun r w' => r = .returned (.bool true) ∧ Below W.heap.size W w' := by
  have HAW := Lib.hid (awake13_any HP HA)
  obtain ⟨va, vc, rfl, hc1, hc2⟩ := w0.form
  obtain ⟨xa, xc, rfl, hc3, hc4⟩ := w3.form
  unfold maxLen at hc2 hc4
  have HUM := Lib.hid w4
  unfold maxLen at w4
  have HWP := Lib.hid w1
  have HWB := Lib.hid w2
  have HWS := Lib.hid w5
  have HV0 := Lib.hid w0
  have HV1 := Lib.hid w3
  clear w0 w1 w2 w3 w5
  have HE0 := Lib.hid (show ∀ wz : World, Below W.heap.size W wz → Below W.heap.size W wz from fun _ h => h)
  have R0 : Hid (∀ wz, Below W.heap.size W wz → RdE wz (.slice va es.length vc) es) := Lib.hid fun wz hz => HV0.out.below hz (Nat.le_refl _)
  have R1 : Hid (∀ wz, Below W.heap.size W wz → RdB wz (.slice xa b.length xc) b) := Lib.hid fun wz hz => HV1.out.below hz (Nat.le_refl _)
  have HGR := Lib.hid (great12_any (.slice va es.length vc) es W (R0.out W (Below.refl _ _)))
  go_enter Tryz.func3, Tryz.ntmps3
  by_cases c2 : 3000 < b.length
  · have d2 : decide ((3000 : Int) < (b.length : Int)) = true := by simp; omega
    have d2n : decide (3000 < b.length) = true := by simp; omega
    go_wp2_with (first | (go_at_call 5; (refine HGR.out.mono ?_); rintro e w1 ⟨⟨g, rfl, hg⟩, rfl⟩; cases g) | (go_at_call 6; (refine (HAW.out _).mono ?_); rintro e w10 ⟨rfl, hb10⟩))
    all_goals
      go_ret
      exact ⟨rfl, HE0.out _ hb10⟩
  · have d2 : decide ((3000 : Int) < (b.length : Int)) = false := by simp; omega
    have d2n : decide (3000 < b.length) = false := by simp; omega
    by_cases c3 : 300 < u.size
    · have d3 : decide ((300 : Int) < (u.size : Int)) = true := by simp; omega
      have d3n : decide (300 < u.size) = true := by simp; omega
      go_wp2_with (first | (go_at_call 5; (refine HGR.out.mono ?_); rintro e w1 ⟨⟨g, rfl, hg⟩, rfl⟩; cases g) | (go_at_call 6; (refine (HAW.out _).mono ?_); rintro e w10 ⟨rfl, hb10⟩))
      all_goals
        go_ret
        exact ⟨rfl, HE0.out _ hb10⟩
    · have d3 : decide ((300 : Int) < (u.size : Int)) = false := by simp; omega
      have d3n : decide (300 < u.size) = false := by simp; omega
      have HBL := Lib.hid (show b.length ≤ 1000000 by omega)
      have HU := Lib.hid (show u.size ≤ 1000 by omega)
      clear c2 c3
      obtain ⟨pe, hpe⟩ : ∃ pe, putTErr es per = pe := ⟨_, rfl⟩
      have HPE := Lib.hid hpe
      obtain ⟨PL, hpl⟩ : ∃ PL, (if putTErr es per = 0 then tableL es per.toNat (makeL (hashes (usersL es)) bits) else []) = PL := ⟨_, rfl⟩
      have HPL := Lib.hid hpl
      obtain ⟨GL, hgl⟩ : ∃ GL, entsT b = GL := ⟨_, rfl⟩
      have HLN := Lib.hid (show GL.length ≤ 256 by rw [← hgl]; exact (entsT_fits b).2)
      have HGL := Lib.hid hgl
      obtain ⟨go, hgo⟩ : ∃ go, errT b = go := ⟨_, rfl⟩
      have HGS := Lib.hid hgo
      obtain ⟨au, as_, ak, av, ab, ae, han⟩ := ansF_form (findT b u s)
      have HAN := Lib.hid han
      obtain ⟨lo, hlo⟩ : ∃ lo, (es.getD 0 Ent.none_).u = lo := ⟨_, rfl⟩
      have HLO := Lib.hid hlo
      obtain ⟨hi, hhi⟩ : ∃ hi, (es.getD (es.length - 1) Ent.none_).u = hi := ⟨_, rfl⟩
      have HHI := Lib.hid hhi
      clear hpe hpl hgl hgo han hlo hhi
      by_cases he0 : es = []
      · have hlo0 : lo = ⟨#[]⟩ := by rw [← HLO.out, he0]; rfl
        have hhi0 : hi = ⟨#[]⟩ := by rw [← HHI.out, he0]; rfl
        have e0 : (es.length : Int) = 0 := by rw [he0]; rfl
        have e1 : decide ((0 : Int) < (es.length : Int)) = false := by rw [e0]; rfl
        have e1n : decide (0 < es.length) = false := by simp; omega
        subst hlo0
        subst hhi0
        clear he0 e0
        go_wp2_with (first | (go_at_call 5; (refine HGR.out.mono ?_); rintro e w1 ⟨⟨g, rfl, hg⟩, rfl⟩; cases g) | (go_at_call 6; (refine (HAW.out _).mono ?_); rintro e w10 ⟨rfl, hb10⟩) | (go_at_call 7; (refine (HP _ es _ _ _ (R0.out _ (Below.refl _ _)) (hg (by simp)) HWP.out HWB.out).mono ?_); rintro e w2 ⟨x2, rfl, ho2, hb2⟩; have HSM := Lib.hid (hg (by simp)); rw [HPE.out]; rw [HPL.out] at ho2; have HO2 := Lib.hid ho2; have HB2 : Hid (Below W.heap.size W w2) := Lib.hid (hb2); clear ho2 hb2) | (go_at_call 8; (refine (rputtab_any _ es _ _ _ (R0.out _ HB2.out) HWP.out HWB.out).mono ?_); rintro e w3 ⟨x3, rfl, ho3, hb3⟩; rw [HPE.out]; rw [HPL.out] at ho3; have HO3 := Lib.hid ho3; have HP2 := Lib.hid (HO2.out.below hb3 (Nat.le_refl _)); have HB3 : Hid (Below W.heap.size W w3) := Lib.hid (belowT HB2.out hb3); clear ho3 hb3) | (go_at_call 9; (refine (HA _ b _ (R1.out _ HB3.out) HBL.out).mono ?_); rintro e w4 ⟨x4, rfl, ho4, hb4⟩; rw [HGS.out]; rw [HGL.out] at ho4; have HO4 := Lib.hid ho4; have HB4 : Hid (Below W.heap.size W w4) := Lib.hid (belowT HB3.out hb4); have HC4 := Lib.hid hb4; clear ho4 hb4) | (go_at_call 10; (refine (rparts_any _ b _ (R1.out _ HB4.out) HBL.out).mono ?_); intro e w5 h5; obtain ⟨x5, f5, rfl, ho5, hb5⟩ := h5.all; rw [HGS.out]; rw [HGL.out] at ho5; have HO5 := Lib.hid ho5; have HB5 : Hid (Below W.heap.size W w5) := Lib.hid (belowT HB4.out hb5); have HC5 := Lib.hid hb5; clear h5 ho5 hb5) | (go_at_call 11; (refine (HF _ b u s _ (R1.out _ HB5.out) HBL.out HU.out HWS.out).mono ?_); rintro e w6 ⟨rfl, hb6⟩; rw [HAN.out]; have HC6 := Lib.hid (belowT hb6 ((Below.refl _ _).alloc (Nat.le_refl _) (.cells #[.string au, .int .i64 as_, .int .i64 ak, .string av] 39))); have HB6 := Lib.hid (belowT HB5.out HC6.out); have HX60 := Lib.hid (heap_alloc_new w6 (.cells #[.string au, .int .i64 as_, .int .i64 ak, .string av] 39)); clear hb6) | (go_at_call 12; (refine (rfind_any _ b u s _ (R1.out _ HB6.out) HBL.out HUM.out).mono ?_); rintro e w7 ⟨rfl, hb7⟩; rw [HAN.out]; have HC7 := Lib.hid (belowT hb7 ((Below.refl _ _).alloc (Nat.le_refl _) (.cells #[.string au, .int .i64 as_, .int .i64 ak, .string av] 39))); have HB7 := Lib.hid (belowT HB6.out HC7.out); have HX7 := Lib.hid (heap_alloc_new w7 (.cells #[.string au, .int .i64 as_, .int .i64 ak, .string av] 39)); have HX6 := Lib.hid ((HC7.out.block w6.heap.size (blk_lt HX60.out)).trans HX60.out); have HL6 := Lib.hid (blk_lt HX6.out); have HL7 := Lib.hid (blk_lt HX7.out); clear hb7) | (go_at_call 13; (refine (HE _ es _ (R0.out _ HB7.out) HSM.out).mono ?_); rintro e w8 ⟨rfl, hb8⟩; rw [HLO.out, HHI.out]; have HC8 := Lib.hid hb8; have HB8 : Hid (Below W.heap.size W w8) := Lib.hid (belowT HB7.out hb8); have q1 := rdB_convert (P := Tryz.prog) ((HP2.out.below (belowT (belowT (belowT (belowT HC4.out HC5.out) HC6.out) HC7.out) HC8.out) (Nat.le_refl _)).read) 24 5 9 Tryz.underlying24 Tryz.underlying5 Tryz.underlying9; have q2 := rdB_convert (P := Tryz.prog) ((HO3.out.below (belowT (belowT (belowT (belowT HC4.out HC5.out) HC6.out) HC7.out) HC8.out) (Nat.le_refl _)).read) 24 5 9 Tryz.underlying24 Tryz.underlying5 Tryz.underlying9; clear hb8) | (go_at_call 15; (refine (rsame_ent _ _ GL _ (by have := HLN.out; omega) (own_base (HO4.out.below (belowT (belowT (belowT HC5.out HC6.out) HC7.out) HC8.out)) fun _ _ => Nat.zero_le _) (own_base (HO5.out.below (belowT (belowT HC6.out HC7.out) HC8.out)) fun _ _ => Nat.zero_le _)).mono ?_); rintro e w9 ⟨rfl, hb9⟩; have p5 := (belowT HC8.out hb9).block w6.heap.size HL6.out; have p7 := (belowT HC8.out hb9).block w7.heap.size HL7.out; rw [HX6.out] at p5; rw [HX7.out] at p7; have y0 := blk_cell (i := 0) p5; have y1 := blk_cell (i := 1) p5; have y2 := blk_cell (i := 2) p5; have y3 := blk_cell (i := 3) p5; have z0 := blk_cell (i := 0) p7; have z1 := blk_cell (i := 1) p7; have z2 := blk_cell (i := 2) p7; have z3 := blk_cell (i := 3) p7; clear p5 p7; have HB9 := Lib.hid (belowT HB8.out hb9); clear hb9) | (go_at_call 14; (refine (num12_any _ _).mono ?_); rintro e w11 ⟨rfl, rfl⟩))
        all_goals
          go_ret
          first
          | exact ⟨rfl, hb10⟩
          | exact ⟨rfl, belowT HB9.out hb10⟩
      · obtain ⟨_, _, hva, hone⟩ := HV0.out.one
        cases hva
        have hpos := List.length_pos_iff.2 he0
        obtain ⟨lb, off, rfl, hbw, c0, _, _, _, _⟩ := hone 0 hpos
        obtain ⟨_, _, hbb, _, p0, _, _, _, _⟩ := hone (es.length - 1) (by omega)
        cases hbb
        obtain ⟨m, hm⟩ : ∃ m, es.length - 1 = m := ⟨_, rfl⟩
        rw [HHI.out, hm] at p0
        rw [HLO.out] at c0
        have c0 : W.cell? ⟨lb, off, none⟩ = some (.string lo) := by simpa using c0
        have HC0 := Lib.hid c0
        have HP0 := Lib.hid p0
        have HBW := Lib.hid hbw
        have e1 : decide ((0 : Int) < (es.length : Int)) = true := by simp; omega
        have e1n : decide (0 < es.length) = true := by simp; omega
        have f1 : IntKind.i64.wrap ((es.length : Int) - 1) = (m : Int) := by rw [IntWalk.i64_in _ (by omega)]; omega
        have f2 : m < es.length := by omega
        have f3 : (m : Int) < (es.length : Int) := by omega
        clear hm he0 hone c0 p0
        go_wp2_with (first | (go_at_call 5; (refine HGR.out.mono ?_); rintro e w1 ⟨⟨g, rfl, hg⟩, rfl⟩; cases g) | (go_at_call 6; (refine (HAW.out _).mono ?_); rintro e w10 ⟨rfl, hb10⟩) | (go_at_call 7; (refine (HP _ es _ _ _ (R0.out _ (Below.refl _ _)) (hg (by simp)) HWP.out HWB.out).mono ?_); rintro e w2 ⟨x2, rfl, ho2, hb2⟩; have HSM := Lib.hid (hg (by simp)); rw [HPE.out]; rw [HPL.out] at ho2; have HO2 := Lib.hid ho2; have HB2 : Hid (Below W.heap.size W w2) := Lib.hid (hb2); clear ho2 hb2) | (go_at_call 8; (refine (rputtab_any _ es _ _ _ (R0.out _ HB2.out) HWP.out HWB.out).mono ?_); rintro e w3 ⟨x3, rfl, ho3, hb3⟩; rw [HPE.out]; rw [HPL.out] at ho3; have HO3 := Lib.hid ho3; have HP2 := Lib.hid (HO2.out.below hb3 (Nat.le_refl _)); have HB3 : Hid (Below W.heap.size W w3) := Lib.hid (belowT HB2.out hb3); clear ho3 hb3) | (go_at_call 9; (refine (HA _ b _ (R1.out _ HB3.out) HBL.out).mono ?_); rintro e w4 ⟨x4, rfl, ho4, hb4⟩; rw [HGS.out]; rw [HGL.out] at ho4; have HO4 := Lib.hid ho4; have HB4 : Hid (Below W.heap.size W w4) := Lib.hid (belowT HB3.out hb4); have HC4 := Lib.hid hb4; clear ho4 hb4) | (go_at_call 10; (refine (rparts_any _ b _ (R1.out _ HB4.out) HBL.out).mono ?_); intro e w5 h5; obtain ⟨x5, f5, rfl, ho5, hb5⟩ := h5.all; rw [HGS.out]; rw [HGL.out] at ho5; have HO5 := Lib.hid ho5; have HB5 : Hid (Below W.heap.size W w5) := Lib.hid (belowT HB4.out hb5); have HC5 := Lib.hid hb5; clear h5 ho5 hb5) | (go_at_call 11; (refine (HF _ b u s _ (R1.out _ HB5.out) HBL.out HU.out HWS.out).mono ?_); rintro e w6 ⟨rfl, hb6⟩; rw [HAN.out]; have HC6 := Lib.hid (belowT hb6 ((Below.refl _ _).alloc (Nat.le_refl _) (.cells #[.string au, .int .i64 as_, .int .i64 ak, .string av] 39))); have HB6 := Lib.hid (belowT HB5.out HC6.out); have HX60 := Lib.hid (heap_alloc_new w6 (.cells #[.string au, .int .i64 as_, .int .i64 ak, .string av] 39)); clear hb6) | (go_at_call 12; (refine (rfind_any _ b u s _ (R1.out _ HB6.out) HBL.out HUM.out).mono ?_); rintro e w7 ⟨rfl, hb7⟩; rw [HAN.out]; have HC7 := Lib.hid (belowT hb7 ((Below.refl _ _).alloc (Nat.le_refl _) (.cells #[.string au, .int .i64 as_, .int .i64 ak, .string av] 39))); have HB7 := Lib.hid (belowT HB6.out HC7.out); have HX7 := Lib.hid (heap_alloc_new w7 (.cells #[.string au, .int .i64 as_, .int .i64 ak, .string av] 39)); have HX6 := Lib.hid ((HC7.out.block w6.heap.size (blk_lt HX60.out)).trans HX60.out); have HL6 := Lib.hid (blk_lt HX6.out); have HL7 := Lib.hid (blk_lt HX7.out); clear hb7) | (go_at_call 13; (refine (HE _ es _ (R0.out _ HB7.out) HSM.out).mono ?_); rintro e w8 ⟨rfl, hb8⟩; rw [HLO.out, HHI.out]; have HC8 := Lib.hid hb8; have HB8 : Hid (Below W.heap.size W w8) := Lib.hid (belowT HB7.out hb8); have q1 := rdB_convert (P := Tryz.prog) ((HP2.out.below (belowT (belowT (belowT (belowT HC4.out HC5.out) HC6.out) HC7.out) HC8.out) (Nat.le_refl _)).read) 24 5 9 Tryz.underlying24 Tryz.underlying5 Tryz.underlying9; have q2 := rdB_convert (P := Tryz.prog) ((HO3.out.below (belowT (belowT (belowT (belowT HC4.out HC5.out) HC6.out) HC7.out) HC8.out) (Nat.le_refl _)).read) 24 5 9 Tryz.underlying24 Tryz.underlying5 Tryz.underlying9; have l0 := (HB8.out.cell (p := ⟨lb, off, none⟩) HBW.out).trans HC0.out; have l1 := (HB8.out.cell (p := ⟨lb, off + m * 4, none⟩) HBW.out).trans HP0.out; clear hb8) | (go_at_call 15; (refine (rsame_ent _ _ GL _ (by have := HLN.out; omega) (own_base (HO4.out.below (belowT (belowT (belowT HC5.out HC6.out) HC7.out) HC8.out)) fun _ _ => Nat.zero_le _) (own_base (HO5.out.below (belowT (belowT HC6.out HC7.out) HC8.out)) fun _ _ => Nat.zero_le _)).mono ?_); rintro e w9 ⟨rfl, hb9⟩; have p5 := (belowT HC8.out hb9).block w6.heap.size HL6.out; have p7 := (belowT HC8.out hb9).block w7.heap.size HL7.out; rw [HX6.out] at p5; rw [HX7.out] at p7; have y0 := blk_cell (i := 0) p5; have y1 := blk_cell (i := 1) p5; have y2 := blk_cell (i := 2) p5; have y3 := blk_cell (i := 3) p5; have z0 := blk_cell (i := 0) p7; have z1 := blk_cell (i := 1) p7; have z2 := blk_cell (i := 2) p7; have z3 := blk_cell (i := 3) p7; clear p5 p7; have HB9 := Lib.hid (belowT HB8.out hb9); clear hb9) | (go_at_call 14; (refine (num12_any _ _).mono ?_); rintro e w11 ⟨rfl, rfl⟩))
        all_goals
          go_ret
          first
          | exact ⟨rfl, hb10⟩
          | exact ⟨rfl, belowT HB9.out hb10⟩
end Go.Proofs.YteeikmpfgbfeoaaGreat
