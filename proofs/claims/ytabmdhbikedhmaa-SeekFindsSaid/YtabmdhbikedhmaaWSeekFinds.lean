/-
  The walk of SeekFinds.
-/
import Derived.Test.YtabmdhbikedhmaaSeekC
import Derived.Test.YtabmdhbikedhmaaRepDigits
import Derived.Test.YtabmdhbikedhmaaKeyRefCmp
namespace Go.Proofs.Ytabmdhbikedhmaa
open Go.RowKit

theorem seek_facts (L : List Ent) (u : ByteArray) (s k : Int) : seekN L u s k ≤ L.length ∧ (∀ j, j < seekN L u s k → (L.getD j Ent.none_).cmp ⟨u, s, k, ⟨#[]⟩⟩ < 0) ∧ (seekN L u s k < L.length → ¬ (L.getD (seekN L u s k) Ent.none_).cmp ⟨u, s, k, ⟨#[]⟩⟩ < 0) := by
  have hlh := low_high ⟨u, s, k, ⟨#[]⟩⟩ L
  have hl := congrArg List.length hlh
  rw [List.length_append] at hl
  unfold seekN
  refine ⟨by omega, fun j hj => ?_, fun hj => ?_⟩
  · have hm : L.getD j Ent.none_ ∈ lowE ⟨u, s, k, ⟨#[]⟩⟩ L := by
      have : L.getD j Ent.none_ = (lowE ⟨u, s, k, ⟨#[]⟩⟩ L)[j] := by
        have h2 : (lowE ⟨u, s, k, ⟨#[]⟩⟩ L ++ highE ⟨u, s, k, ⟨#[]⟩⟩ L).getD j Ent.none_ = (lowE ⟨u, s, k, ⟨#[]⟩⟩ L)[j] := by
          simp only [List.getD]
          rw [List.getElem?_append_left hj, List.getElem?_eq_getElem hj]
          rfl
        rw [hlh] at h2
        exact h2
      rw [this]
      exact List.getElem_mem _
    exact low_lt hm
  · intro hc
    cases hh : highE ⟨u, s, k, ⟨#[]⟩⟩ L with
    | nil => rw [hh] at hl; simp at hl; omega
    | cons x r =>
      have hx : L.getD (lowE ⟨u, s, k, ⟨#[]⟩⟩ L).length Ent.none_ = x := by
        have h2 : (lowE ⟨u, s, k, ⟨#[]⟩⟩ L ++ x :: r).getD (lowE ⟨u, s, k, ⟨#[]⟩⟩ L).length Ent.none_ = x := by simp [List.getD]
        rw [← hh, hlh] at h2
        exact h2
      rw [hx] at hc
      unfold highE at hh
      have := List.head?_dropWhile_not (fun x : Ent => decide (x.cmp ⟨u, s, k, ⟨#[]⟩⟩ < 0)) L
      rw [hh] at this
      simp at this
      omega

set_option maxRecDepth 100000 in
set_option maxHeartbeats 600000 in
theorem seekFinds_walkC {It : (Nat → Prop) → World → Nat → List Ent → Int → Prop} (hi : ItC It) (v0 : Value) (ns : List UInt8) (a1 a2 : Int) (W : World) (w0 : RdB W v0 ns) (wa1 : (Lit.int .u8 a1).wf = true) (wa2 : (Lit.int .u8 a2).wf = true) :
    Calls Try.prog 5 #[v0, .int .u8 a1, .int .u8 a2] W fun r w' => r = .returned (.bool true) ∧ Below W.heap.size W w' := by
  have HAW := Lib.hid (awake14_any hi)
  have HI := Lib.hid hi
  have n1 := bounds_u8 wa1
  have n2 := bounds_u8 wa2
  obtain ⟨us, rfl⟩ : ∃ n : Nat, a1 = (n : Int) := ⟨a1.toNat, by omega⟩
  obtain ⟨sq, rfl⟩ : ∃ n : Nat, a2 = (n : Int) := ⟨a2.toNat, by omega⟩
  clear wa1 wa2
  obtain ⟨va, vc, rfl, hc1, hc2⟩ := w0.form
  unfold maxLen at hc2
  have HV0 := Lib.hid w0
  clear w0 hi
  by_cases c1 : 80 < ns.length
  · have d1 : decide ((80 : Int) < (ns.length : Int)) = true := by simp; omega
    have d1n : decide (80 < ns.length) = true := by simp; omega
    go_enter Try.func5, Try.ntmps5
    go_wp2_with (go_at_call 8; (refine (HAW.out _).mono ?_); rintro e w9 ⟨rfl, hb9⟩)
    go_ret
    exact ⟨rfl, hb9⟩
  · have d1 : decide ((80 : Int) < (ns.length : Int)) = false := by simp; omega
    have d1n : decide (80 < ns.length) = false := by simp; omega
    have HMK := Lib.hid (make12_any _ ns 9 (by omega) W HV0.out (by omega))
    have HSM := Lib.hid (may_small (mkB_may ns 9) (by have := mkB_len ns 9; omega))
    have HFT := Lib.hid (mk_fits ns 9)
    have hso := sort_self (mkB_up ns 9)
    have hLl := mkB_len ns 9
    have hne : ns ≠ [] → mkB ns 9 ≠ [] := fun h => mkB_ne 9 h (by omega)
    generalize mkB ns 9 = L at *
    have HNW : Hid (∀ v w, OwnE w 0 v L → Calls Try.prog 9 #[v] w fun e w' => ∃ q G, e = .returned (.pointer (some ⟨q, 0, none⟩)) ∧ It G w' q L (-1) ∧ (∀ k, G k → w.heap.size ≤ k) ∧ Below w.heap.size w w') := Lib.hid fun v w ho => by
      have h := HI.out.new_ v L w (ho.read HFT.out) HSM.out
      rw [hso] at h
      exact h
    obtain ⟨m, hmm⟩ : ∃ m, us % 15 = m := ⟨_, rfl⟩
    have m1 : (us : Int).tmod 15 = (m : Int) := by rw [Int.tmod_eq_emod_of_nonneg (by omega)]; omega
    have m2 : (us : Int) % 15 = (m : Int) := by omega
    have hml : m < 15 := by omega
    clear hmm
    have HDI := Lib.hid (rdigits_any m (by omega))
    have hdl := digL_len m
    obtain ⟨ku, hku⟩ : ∃ ku, (⟨#[107, 101, 121]⟩ : ByteArray) ++ strB (digL m) = ku := ⟨_, rfl⟩
    have hks : ku.size ≤ maxLen := by
      rw [← hku, ByteArray.size_append, strB_size]
      unfold maxLen
      show 3 + (digL m).length ≤ _
      omega
    have hlim : ¬ 9223372036854775807 < 3 + (digL m).length := by omega
    have HSQ := Lib.hid (show (Lit.int .i64 (sq : Int)).wf = true by simp only [Lit.wf, IntKind.min, IntKind.max, IntKind.signed, IntKind.bits]; simp; omega)
    obtain ⟨s1, s2, s3⟩ := seek_facts L ku (sq : Int) 1
    obtain ⟨p, hp⟩ : ∃ p, seekN L ku (sq : Int) 1 = p := ⟨_, rfl⟩
    rw [hp] at s1 s2 s3
    have HP := Lib.hid hp
    have HPV := Lib.hid (show prevA ((p : Nat) : Int) = (p : Int) - 1 by unfold prevA; omega)
    have hrc := fun (Y : Ent) w => rcmp_any Y.u Y.s Y.k ku (sq : Int) 1 w
    clear hso hp hdl
    by_cases hpl : p < L.length
    · have HST := Lib.hid (show stands L (p : Int) = true by unfold stands; simp; omega)
      have hc5 := hrc (L.getD p Ent.none_)
      have hcc : cmpK (L.getD p Ent.none_).u.data.toList (L.getD p Ent.none_).s (L.getD p Ent.none_).k ku.data.toList (sq : Int) 1 = (L.getD p Ent.none_).cmp ⟨ku, (sq : Int), 1, ⟨#[]⟩⟩ := rfl
      rw [hcc] at hc5
      have hc5n := s3 hpl
      have HA5 := Lib.hid (show ansN (atA L (p : Int)) = ansN (some (L.getD p Ent.none_)) by unfold atA; rw [HST.out]; rfl)
      generalize (L.getD p Ent.none_).cmp ⟨ku, (sq : Int), 1, ⟨#[]⟩⟩ = c5 at *
      generalize L.getD p Ent.none_ = X at *
      obtain ⟨xu, xs, xk, xv⟩ := X
      replace HA5 : Hid (ansN (atA L (p : Int)) = .tuple #[.agg #[.string xu, .int .i64 xs, .int .i64 xk, .string xv], .bool true]) := HA5
      have HC5 := Lib.hid hc5
      have d5 : decide (c5 < 0) = false := by simpa using hc5n
      clear hc5 hcc s3
      by_cases hp0 : p = 0
      · subst hp0
        have HS7 := Lib.hid (show stands L (((0 : Nat) : Int) - 1) = false by unfold stands; simp)
        go_enter Try.func5, Try.ntmps5
        go_wp2_with (first | (go_at_call 8; (refine (HAW.out _).mono ?_); rintro e w9 ⟨rfl, hb9⟩) | (go_at_call 23; (refine HMK.out.mono ?_); rintro e w1 ⟨x1, rfl, ho1, hb1⟩; have HO1 := Lib.hid (show OwnE w1 0 x1 L from own_base ho1 fun _ _ => Nat.zero_le _); have HB1 := Lib.hid hb1; clear ho1 hb1) | (go_at_call 9; (refine (HNW.out _ _ HO1.out).mono ?_); rintro e w2 ⟨q, G, rfl, i2, g2, hb2⟩; have I2 := Lib.hid i2; have G2 := Lib.hid (show ∀ k, G k → W.heap.size ≤ k from fun k hk => Nat.le_trans HB1.out.size (g2 k hk)); have HB2 := Lib.hid (belowT HB1.out hb2); clear i2 g2 hb2) | (go_at_call 25; (refine (HDI.out _).mono ?_); rintro e w3 ⟨rfl, hb3⟩; have D23 := Lib.hid (belowT hb3 ((Below.refl _ w3).alloc (Nat.le_refl _) (.cells #[.string ku, .int .i64 (sq : Int), .int .i64 1] 31))); have I3 := Lib.hid (HI.out.below I2.out D23.out); have HB3 := Lib.hid (belowT HB2.out D23.out); have HKX := Lib.hid (heap_alloc_new w3 (.cells #[.string ku, .int .i64 (sq : Int), .int .i64 1] 31)); have HKN := Lib.hid (show ¬ G w3.heap.size from fun hg => by have := HI.out.lt I2.out _ hg; have := hb3.size; omega); clear hb3) | (go_at_call 15; (refine (HI.out.seek I3.out ku (sq : Int) 1 hks HSQ.out (by decide)).mono ?_); rintro e w4 ⟨rfl, i4, t4⟩; rw [HP.out] at i4; rw [HP.out, HST.out]; have I4 := Lib.hid i4; have HB4 := Lib.hid (touch_below G2.out HB3.out t4); have HK4 := Lib.hid ((t4.block w3.heap.size ⟨by simp, HKN.out⟩).trans HKX.out); clear i4 t4) | (go_at_call 21; (with_reducible refine (HI.out.at_ I4.out).mono ?_); rintro e w5 ⟨rfl, hb⟩; rw [HA5.out]; have D5 := Lib.hid (belowT hb ((Below.refl _ w5).alloc (Nat.le_refl _) (.cells #[.string xu, .int .i64 xs, .int .i64 xk, .string xv] 36))); have I5 := Lib.hid (HI.out.below I4.out D5.out); have HB5 := Lib.hid (belowT HB4.out D5.out); have HK5 := Lib.hid ((D5.out.block _ (blk_lt HK4.out)).trans HK4.out); have hkk := HK5.out; have k0 := blk_cell (i := 0) hkk; have k1 := blk_cell (i := 1) hkk; have k2 := blk_cell (i := 2) hkk; replace k0 : (w5.alloc (.cells #[.string xu, .int .i64 xs, .int .i64 xk, .string xv] 36)).cell? ⟨w3.heap.size, 0, none⟩ = some (.string ku) := k0; replace k1 : (w5.alloc (.cells #[.string xu, .int .i64 xs, .int .i64 xk, .string xv] 36)).cell? ⟨w3.heap.size, 1, none⟩ = some (.int .i64 (sq : Int)) := k1; replace k2 : (w5.alloc (.cells #[.string xu, .int .i64 xs, .int .i64 xk, .string xv] 36)).cell? ⟨w3.heap.size, 2, none⟩ = some (.int .i64 1) := k2; clear hkk hb) | (go_at_call 26; (with_reducible refine (HC5.out _).mono ?_); rintro e w6 ⟨rfl, hb⟩; have I6 := Lib.hid (HI.out.below I5.out hb); have HB6 := Lib.hid (belowT HB5.out hb); have HK6 := Lib.hid ((hb.block _ (blk_lt HK5.out)).trans HK5.out); clear hb) | (go_at_call 19; (with_reducible refine (HI.out.prev I6.out).mono ?_); rintro e w7 ⟨rfl, im, tm⟩; rw [HPV.out] at im; rw [HPV.out, HS7.out]; have I7 := Lib.hid im; have HB7 := Lib.hid (touch_below G2.out HB6.out tm); have HK7 := Lib.hid ((tm.block w3.heap.size ⟨blk_lt HK6.out, HKN.out⟩).trans HK6.out); clear im tm))
        go_ret
        exact ⟨rfl, belowT HB7.out hb9⟩
      · obtain ⟨r, rfl⟩ : ∃ r, p = r + 1 := ⟨p - 1, by omega⟩
        have hr1 : ((r + 1 : Nat) : Int) - 1 = (r : Int) := by omega
        rw [hr1] at HPV
        have HS7 := Lib.hid (show stands L (r : Int) = true by unfold stands; simp; omega)
        have hc8 := hrc (L.getD r Ent.none_)
        have hcc : cmpK (L.getD r Ent.none_).u.data.toList (L.getD r Ent.none_).s (L.getD r Ent.none_).k ku.data.toList (sq : Int) 1 = (L.getD r Ent.none_).cmp ⟨ku, (sq : Int), 1, ⟨#[]⟩⟩ := rfl
        rw [hcc] at hc8
        have hc8n := s2 r (by omega)
        have HA8 := Lib.hid (show ansN (atA L (r : Int)) = ansN (some (L.getD r Ent.none_)) by unfold atA; rw [HS7.out]; rfl)
        generalize (L.getD r Ent.none_).cmp ⟨ku, (sq : Int), 1, ⟨#[]⟩⟩ = c8 at *
        generalize L.getD r Ent.none_ = Y at *
        obtain ⟨yu, ys, yk, yv⟩ := Y
        replace HA8 : Hid (ansN (atA L (r : Int)) = .tuple #[.agg #[.string yu, .int .i64 ys, .int .i64 yk, .string yv], .bool true]) := HA8
        have HC8 := Lib.hid hc8
        have d8 : decide (c8 < 0) = true := by simpa using hc8n
        have HNX := Lib.hid (show nextA L (r : Int) = ((r + 1 : Nat) : Int) by unfold nextA; omega)
        have HS11 := HST
        clear hc8 hcc s2 hr1
        go_enter Try.func5, Try.ntmps5
        go_wp2_with (first | (go_at_call 8; (refine (HAW.out _).mono ?_); rintro e w9 ⟨rfl, hb9⟩) | (go_at_call 23; (refine HMK.out.mono ?_); rintro e w1 ⟨x1, rfl, ho1, hb1⟩; have HO1 := Lib.hid (show OwnE w1 0 x1 L from own_base ho1 fun _ _ => Nat.zero_le _); have HB1 := Lib.hid hb1; clear ho1 hb1) | (go_at_call 9; (refine (HNW.out _ _ HO1.out).mono ?_); rintro e w2 ⟨q, G, rfl, i2, g2, hb2⟩; have I2 := Lib.hid i2; have G2 := Lib.hid (show ∀ k, G k → W.heap.size ≤ k from fun k hk => Nat.le_trans HB1.out.size (g2 k hk)); have HB2 := Lib.hid (belowT HB1.out hb2); clear i2 g2 hb2) | (go_at_call 25; (refine (HDI.out _).mono ?_); rintro e w3 ⟨rfl, hb3⟩; have D23 := Lib.hid (belowT hb3 ((Below.refl _ w3).alloc (Nat.le_refl _) (.cells #[.string ku, .int .i64 (sq : Int), .int .i64 1] 31))); have I3 := Lib.hid (HI.out.below I2.out D23.out); have HB3 := Lib.hid (belowT HB2.out D23.out); have HKX := Lib.hid (heap_alloc_new w3 (.cells #[.string ku, .int .i64 (sq : Int), .int .i64 1] 31)); have HKN := Lib.hid (show ¬ G w3.heap.size from fun hg => by have := HI.out.lt I2.out _ hg; have := hb3.size; omega); clear hb3) | (go_at_call 15; (refine (HI.out.seek I3.out ku (sq : Int) 1 hks HSQ.out (by decide)).mono ?_); rintro e w4 ⟨rfl, i4, t4⟩; rw [HP.out] at i4; rw [HP.out, HST.out]; have I4 := Lib.hid i4; have HB4 := Lib.hid (touch_below G2.out HB3.out t4); have HK4 := Lib.hid ((t4.block w3.heap.size ⟨by simp, HKN.out⟩).trans HKX.out); clear i4 t4) | (go_at_call 21; (with_reducible refine (HI.out.at_ I4.out).mono ?_); rintro e w5 ⟨rfl, hb⟩; rw [HA5.out]; have D5 := Lib.hid (belowT hb ((Below.refl _ w5).alloc (Nat.le_refl _) (.cells #[.string xu, .int .i64 xs, .int .i64 xk, .string xv] 36))); have I5 := Lib.hid (HI.out.below I4.out D5.out); have HB5 := Lib.hid (belowT HB4.out D5.out); have HK5 := Lib.hid ((D5.out.block _ (blk_lt HK4.out)).trans HK4.out); have hkk := HK5.out; have k0 := blk_cell (i := 0) hkk; have k1 := blk_cell (i := 1) hkk; have k2 := blk_cell (i := 2) hkk; replace k0 : (w5.alloc (.cells #[.string xu, .int .i64 xs, .int .i64 xk, .string xv] 36)).cell? ⟨w3.heap.size, 0, none⟩ = some (.string ku) := k0; replace k1 : (w5.alloc (.cells #[.string xu, .int .i64 xs, .int .i64 xk, .string xv] 36)).cell? ⟨w3.heap.size, 1, none⟩ = some (.int .i64 (sq : Int)) := k1; replace k2 : (w5.alloc (.cells #[.string xu, .int .i64 xs, .int .i64 xk, .string xv] 36)).cell? ⟨w3.heap.size, 2, none⟩ = some (.int .i64 1) := k2; clear hkk hb) | (go_at_call 26; (with_reducible refine (HC5.out _).mono ?_); rintro e w6 ⟨rfl, hb⟩; have I6 := Lib.hid (HI.out.below I5.out hb); have HB6 := Lib.hid (belowT HB5.out hb); have HK6 := Lib.hid ((hb.block _ (blk_lt HK5.out)).trans HK5.out); clear hb) | (go_at_call 19; (with_reducible refine (HI.out.prev I6.out).mono ?_); rintro e w7 ⟨rfl, im, tm⟩; rw [HPV.out] at im; rw [HPV.out, HS7.out]; have I7 := Lib.hid im; have HB7 := Lib.hid (touch_below G2.out HB6.out tm); have HK7 := Lib.hid ((tm.block w3.heap.size ⟨blk_lt HK6.out, HKN.out⟩).trans HK6.out); clear im tm) | (go_at_call 21; (with_reducible refine (HI.out.at_ I7.out).mono ?_); rintro e w8 ⟨rfl, hb⟩; rw [HA8.out]; have D8 := Lib.hid (belowT hb ((Below.refl _ w8).alloc (Nat.le_refl _) (.cells #[.string yu, .int .i64 ys, .int .i64 yk, .string yv] 36))); have I8 := Lib.hid (HI.out.below I7.out D8.out); have HB8 := Lib.hid (belowT HB7.out D8.out); have HK8 := Lib.hid ((D8.out.block _ (blk_lt HK7.out)).trans HK7.out); have hkk := HK8.out; have k0 := blk_cell (i := 0) hkk; have k1 := blk_cell (i := 1) hkk; have k2 := blk_cell (i := 2) hkk; replace k0 : (w8.alloc (.cells #[.string yu, .int .i64 ys, .int .i64 yk, .string yv] 36)).cell? ⟨w3.heap.size, 0, none⟩ = some (.string ku) := k0; replace k1 : (w8.alloc (.cells #[.string yu, .int .i64 ys, .int .i64 yk, .string yv] 36)).cell? ⟨w3.heap.size, 1, none⟩ = some (.int .i64 (sq : Int)) := k1; replace k2 : (w8.alloc (.cells #[.string yu, .int .i64 ys, .int .i64 yk, .string yv] 36)).cell? ⟨w3.heap.size, 2, none⟩ = some (.int .i64 1) := k2; clear hkk hb) | (go_at_call 26; (with_reducible refine (HC8.out _).mono ?_); rintro e w10 ⟨rfl, hb⟩; have I10 := Lib.hid (HI.out.below I8.out hb); have HB10 := Lib.hid (belowT HB8.out hb); have HK10 := Lib.hid ((hb.block _ (blk_lt HK8.out)).trans HK8.out); clear hb) | (go_at_call 17; (with_reducible refine (HI.out.next I10.out).mono ?_); rintro e w11 ⟨rfl, im, tm⟩; rw [HNX.out, HS11.out]; have HB11 := Lib.hid (touch_below G2.out HB10.out tm); clear im tm))
        go_ret
        exact ⟨rfl, belowT HB11.out hb9⟩
    · have HST := Lib.hid (show stands L (p : Int) = false by unfold stands; simp; omega)
      have HA5 := Lib.hid (show ansN (atA L (p : Int)) = ansN none by unfold atA; rw [HST.out]; rfl)
      replace HA5 : Hid (ansN (atA L (p : Int)) = .tuple #[.agg #[.string ⟨#[]⟩, .int .i64 0, .int .i64 0, .string ⟨#[]⟩], .bool false]) := HA5
      by_cases hp0 : p = 0
      · subst hp0
        have HS7 := Lib.hid (show stands L (((0 : Nat) : Int) - 1) = false by unfold stands; simp)
        have hn0 : ns.length = 0 := by
          rcases Nat.eq_zero_or_pos ns.length with h | h
          · exact h
          · have := List.length_pos_iff.2 (hne (List.length_pos_iff.1 h))
            omega
        have z0 : ((ns.length : Int) == 0) = true := by rw [hn0]; rfl
        clear hn0 hne
        go_enter Try.func5, Try.ntmps5
        go_wp2_with (first | (go_at_call 8; (refine (HAW.out _).mono ?_); rintro e w9 ⟨rfl, hb9⟩) | (go_at_call 23; (refine HMK.out.mono ?_); rintro e w1 ⟨x1, rfl, ho1, hb1⟩; have HO1 := Lib.hid (show OwnE w1 0 x1 L from own_base ho1 fun _ _ => Nat.zero_le _); have HB1 := Lib.hid hb1; clear ho1 hb1) | (go_at_call 9; (refine (HNW.out _ _ HO1.out).mono ?_); rintro e w2 ⟨q, G, rfl, i2, g2, hb2⟩; have I2 := Lib.hid i2; have G2 := Lib.hid (show ∀ k, G k → W.heap.size ≤ k from fun k hk => Nat.le_trans HB1.out.size (g2 k hk)); have HB2 := Lib.hid (belowT HB1.out hb2); clear i2 g2 hb2) | (go_at_call 25; (refine (HDI.out _).mono ?_); rintro e w3 ⟨rfl, hb3⟩; have D23 := Lib.hid (belowT hb3 ((Below.refl _ w3).alloc (Nat.le_refl _) (.cells #[.string ku, .int .i64 (sq : Int), .int .i64 1] 31))); have I3 := Lib.hid (HI.out.below I2.out D23.out); have HB3 := Lib.hid (belowT HB2.out D23.out); have HKX := Lib.hid (heap_alloc_new w3 (.cells #[.string ku, .int .i64 (sq : Int), .int .i64 1] 31)); have HKN := Lib.hid (show ¬ G w3.heap.size from fun hg => by have := HI.out.lt I2.out _ hg; have := hb3.size; omega); clear hb3) | (go_at_call 15; (refine (HI.out.seek I3.out ku (sq : Int) 1 hks HSQ.out (by decide)).mono ?_); rintro e w4 ⟨rfl, i4, t4⟩; rw [HP.out] at i4; rw [HP.out, HST.out]; have I4 := Lib.hid i4; have HB4 := Lib.hid (touch_below G2.out HB3.out t4); have HK4 := Lib.hid ((t4.block w3.heap.size ⟨by simp, HKN.out⟩).trans HKX.out); clear i4 t4) | (go_at_call 21; (with_reducible refine (HI.out.at_ I4.out).mono ?_); rintro e w5 ⟨rfl, hb⟩; rw [HA5.out]; have D5 := Lib.hid (belowT hb ((Below.refl _ w5).alloc (Nat.le_refl _) (.cells #[.string ⟨#[]⟩, .int .i64 0, .int .i64 0, .string ⟨#[]⟩] 36))); have I5 := Lib.hid (HI.out.below I4.out D5.out); have HB5 := Lib.hid (belowT HB4.out D5.out); have HK5 := Lib.hid ((D5.out.block _ (blk_lt HK4.out)).trans HK4.out); have hkk := HK5.out; have k0 := blk_cell (i := 0) hkk; have k1 := blk_cell (i := 1) hkk; have k2 := blk_cell (i := 2) hkk; replace k0 : (w5.alloc (.cells #[.string ⟨#[]⟩, .int .i64 0, .int .i64 0, .string ⟨#[]⟩] 36)).cell? ⟨w3.heap.size, 0, none⟩ = some (.string ku) := k0; replace k1 : (w5.alloc (.cells #[.string ⟨#[]⟩, .int .i64 0, .int .i64 0, .string ⟨#[]⟩] 36)).cell? ⟨w3.heap.size, 1, none⟩ = some (.int .i64 (sq : Int)) := k1; replace k2 : (w5.alloc (.cells #[.string ⟨#[]⟩, .int .i64 0, .int .i64 0, .string ⟨#[]⟩] 36)).cell? ⟨w3.heap.size, 2, none⟩ = some (.int .i64 1) := k2; clear hkk hb) | (go_at_call 19; (with_reducible refine (HI.out.prev I5.out).mono ?_); rintro e w7 ⟨rfl, im, tm⟩; rw [HPV.out] at im; rw [HPV.out, HS7.out]; have I7 := Lib.hid im; have HB7 := Lib.hid (touch_below G2.out HB5.out tm); have HK7 := Lib.hid ((tm.block w3.heap.size ⟨blk_lt HK5.out, HKN.out⟩).trans HK5.out); clear im tm))
        go_ret
        exact ⟨rfl, belowT HB7.out hb9⟩
      · obtain ⟨r, rfl⟩ : ∃ r, p = r + 1 := ⟨p - 1, by omega⟩
        have hr1 : ((r + 1 : Nat) : Int) - 1 = (r : Int) := by omega
        rw [hr1] at HPV
        have HS7 := Lib.hid (show stands L (r : Int) = true by unfold stands; simp; omega)
        have hc8 := hrc (L.getD r Ent.none_)
        have hcc : cmpK (L.getD r Ent.none_).u.data.toList (L.getD r Ent.none_).s (L.getD r Ent.none_).k ku.data.toList (sq : Int) 1 = (L.getD r Ent.none_).cmp ⟨ku, (sq : Int), 1, ⟨#[]⟩⟩ := rfl
        rw [hcc] at hc8
        have hc8n := s2 r (by omega)
        have HA8 := Lib.hid (show ansN (atA L (r : Int)) = ansN (some (L.getD r Ent.none_)) by unfold atA; rw [HS7.out]; rfl)
        generalize (L.getD r Ent.none_).cmp ⟨ku, (sq : Int), 1, ⟨#[]⟩⟩ = c8 at *
        generalize L.getD r Ent.none_ = Y at *
        obtain ⟨yu, ys, yk, yv⟩ := Y
        replace HA8 : Hid (ansN (atA L (r : Int)) = .tuple #[.agg #[.string yu, .int .i64 ys, .int .i64 yk, .string yv], .bool true]) := HA8
        have HC8 := Lib.hid hc8
        have d8 : decide (c8 < 0) = true := by simpa using hc8n
        have HNX := Lib.hid (show nextA L (r : Int) = ((r + 1 : Nat) : Int) by unfold nextA; omega)
        have HS11 := HST
        clear hc8 hcc s2 hr1
        go_enter Try.func5, Try.ntmps5
        go_wp2_with (first | (go_at_call 8; (refine (HAW.out _).mono ?_); rintro e w9 ⟨rfl, hb9⟩) | (go_at_call 23; (refine HMK.out.mono ?_); rintro e w1 ⟨x1, rfl, ho1, hb1⟩; have HO1 := Lib.hid (show OwnE w1 0 x1 L from own_base ho1 fun _ _ => Nat.zero_le _); have HB1 := Lib.hid hb1; clear ho1 hb1) | (go_at_call 9; (refine (HNW.out _ _ HO1.out).mono ?_); rintro e w2 ⟨q, G, rfl, i2, g2, hb2⟩; have I2 := Lib.hid i2; have G2 := Lib.hid (show ∀ k, G k → W.heap.size ≤ k from fun k hk => Nat.le_trans HB1.out.size (g2 k hk)); have HB2 := Lib.hid (belowT HB1.out hb2); clear i2 g2 hb2) | (go_at_call 25; (refine (HDI.out _).mono ?_); rintro e w3 ⟨rfl, hb3⟩; have D23 := Lib.hid (belowT hb3 ((Below.refl _ w3).alloc (Nat.le_refl _) (.cells #[.string ku, .int .i64 (sq : Int), .int .i64 1] 31))); have I3 := Lib.hid (HI.out.below I2.out D23.out); have HB3 := Lib.hid (belowT HB2.out D23.out); have HKX := Lib.hid (heap_alloc_new w3 (.cells #[.string ku, .int .i64 (sq : Int), .int .i64 1] 31)); have HKN := Lib.hid (show ¬ G w3.heap.size from fun hg => by have := HI.out.lt I2.out _ hg; have := hb3.size; omega); clear hb3) | (go_at_call 15; (refine (HI.out.seek I3.out ku (sq : Int) 1 hks HSQ.out (by decide)).mono ?_); rintro e w4 ⟨rfl, i4, t4⟩; rw [HP.out] at i4; rw [HP.out, HST.out]; have I4 := Lib.hid i4; have HB4 := Lib.hid (touch_below G2.out HB3.out t4); have HK4 := Lib.hid ((t4.block w3.heap.size ⟨by simp, HKN.out⟩).trans HKX.out); clear i4 t4) | (go_at_call 21; (with_reducible refine (HI.out.at_ I4.out).mono ?_); rintro e w5 ⟨rfl, hb⟩; rw [HA5.out]; have D5 := Lib.hid (belowT hb ((Below.refl _ w5).alloc (Nat.le_refl _) (.cells #[.string ⟨#[]⟩, .int .i64 0, .int .i64 0, .string ⟨#[]⟩] 36))); have I5 := Lib.hid (HI.out.below I4.out D5.out); have HB5 := Lib.hid (belowT HB4.out D5.out); have HK5 := Lib.hid ((D5.out.block _ (blk_lt HK4.out)).trans HK4.out); have hkk := HK5.out; have k0 := blk_cell (i := 0) hkk; have k1 := blk_cell (i := 1) hkk; have k2 := blk_cell (i := 2) hkk; replace k0 : (w5.alloc (.cells #[.string ⟨#[]⟩, .int .i64 0, .int .i64 0, .string ⟨#[]⟩] 36)).cell? ⟨w3.heap.size, 0, none⟩ = some (.string ku) := k0; replace k1 : (w5.alloc (.cells #[.string ⟨#[]⟩, .int .i64 0, .int .i64 0, .string ⟨#[]⟩] 36)).cell? ⟨w3.heap.size, 1, none⟩ = some (.int .i64 (sq : Int)) := k1; replace k2 : (w5.alloc (.cells #[.string ⟨#[]⟩, .int .i64 0, .int .i64 0, .string ⟨#[]⟩] 36)).cell? ⟨w3.heap.size, 2, none⟩ = some (.int .i64 1) := k2; clear hkk hb) | (go_at_call 19; (with_reducible refine (HI.out.prev I5.out).mono ?_); rintro e w7 ⟨rfl, im, tm⟩; rw [HPV.out] at im; rw [HPV.out, HS7.out]; have I7 := Lib.hid im; have HB7 := Lib.hid (touch_below G2.out HB5.out tm); have HK7 := Lib.hid ((tm.block w3.heap.size ⟨blk_lt HK5.out, HKN.out⟩).trans HK5.out); clear im tm) | (go_at_call 21; (with_reducible refine (HI.out.at_ I7.out).mono ?_); rintro e w8 ⟨rfl, hb⟩; rw [HA8.out]; have D8 := Lib.hid (belowT hb ((Below.refl _ w8).alloc (Nat.le_refl _) (.cells #[.string yu, .int .i64 ys, .int .i64 yk, .string yv] 36))); have I8 := Lib.hid (HI.out.below I7.out D8.out); have HB8 := Lib.hid (belowT HB7.out D8.out); have HK8 := Lib.hid ((D8.out.block _ (blk_lt HK7.out)).trans HK7.out); have hkk := HK8.out; have k0 := blk_cell (i := 0) hkk; have k1 := blk_cell (i := 1) hkk; have k2 := blk_cell (i := 2) hkk; replace k0 : (w8.alloc (.cells #[.string yu, .int .i64 ys, .int .i64 yk, .string yv] 36)).cell? ⟨w3.heap.size, 0, none⟩ = some (.string ku) := k0; replace k1 : (w8.alloc (.cells #[.string yu, .int .i64 ys, .int .i64 yk, .string yv] 36)).cell? ⟨w3.heap.size, 1, none⟩ = some (.int .i64 (sq : Int)) := k1; replace k2 : (w8.alloc (.cells #[.string yu, .int .i64 ys, .int .i64 yk, .string yv] 36)).cell? ⟨w3.heap.size, 2, none⟩ = some (.int .i64 1) := k2; clear hkk hb) | (go_at_call 26; (with_reducible refine (HC8.out _).mono ?_); rintro e w10 ⟨rfl, hb⟩; have I10 := Lib.hid (HI.out.below I8.out hb); have HB10 := Lib.hid (belowT HB8.out hb); have HK10 := Lib.hid ((hb.block _ (blk_lt HK8.out)).trans HK8.out); clear hb) | (go_at_call 17; (with_reducible refine (HI.out.next I10.out).mono ?_); rintro e w11 ⟨rfl, im, tm⟩; rw [HNX.out, HS11.out]; have HB11 := Lib.hid (touch_below G2.out HB10.out tm); clear im tm))
        go_ret
        exact ⟨rfl, belowT HB11.out hb9⟩
end Go.Proofs.Ytabmdhbikedhmaa
