import Derived.Test.YtnmmeaoapfampaaMg00

/-
  The library's merge of two parts that are in order, in place: of the first there is one.
-/
namespace Go.Proofs.Ytnmmeaoapfampaa
open Go.RowKit

theorem take_all {Y : List Ent} {p : Nat} {Q : Ent → Prop} (h : ∀ t, t < p → t < Y.length → Q (Y.getD t Ent.none_)) : ∀ y ∈ Y.take p, Q y := by
  intro y hy
  obtain ⟨t, ht, rfl⟩ := List.mem_iff_getElem.1 hy
  rw [List.length_take] at ht
  have := h t (by omega) (by omega)
  rw [List.getElem_take]
  simpa [List.getD, show t < Y.length by omega] using this
theorem drop_all {Y : List Ent} {p : Nat} {Q : Ent → Prop} (h : ∀ t, p ≤ t → t < Y.length → Q (Y.getD t Ent.none_)) : ∀ y ∈ Y.drop p, Q y := by
  intro y hy
  obtain ⟨t, ht, rfl⟩ := List.mem_iff_getElem.1 hy
  rw [List.length_drop] at ht
  have := h (p + t) (by omega) (by omega)
  rw [List.getElem_drop]
  simpa [List.getD, show p + t < Y.length by omega] using this
theorem le_at' {l : List Ent} (h : Le l) {i j : Nat} (hij : i ≤ j) (hj : j < l.length) : (l.getD i Ent.none_).cmp (l.getD j Ent.none_) ≤ 0 := by
  rcases Nat.lt_or_ge i j with h1 | h1
  · exact le_at h h1 hj
  · obtain rfl : i = j := by omega
    rw [cmp_self]; omega

set_option maxRecDepth 100000 in
set_option maxHeartbeats 1000000 in
theorem sym_one {B g cap n a m b : Nat} {w0 w : World} {A Y C : List Ent} {x : Ent} (h : SL B w0 (some ⟨g, 0, none⟩) cap n (A ++ (x :: (Y ++ C))) w) (ha : a = A.length) (hm : m = a + 1) (hb : b = m + Y.length) (hY : Le Y) (hn : n ≤ 1000) :
    Calls Try.prog 47 #[.slice (some ⟨g, 0, none⟩) n cap, .int .i64 a, .int .i64 m, .int .i64 b, .func (.func 32) #[] #[]] w fun e w' => e = .returned (.tuple #[]) ∧ ∃ Z, Le Z ∧ Stab (x :: Y) Z ∧ SL B w0 (some ⟨g, 0, none⟩) cap n (A ++ (Z ++ C)) w' := by
  have hlen := h.len
  simp only [List.length_append, List.length_cons] at hlen
  have hbn : b ≤ n := by omega
  have ham : a < m := by omega
  have hmb : m ≤ b := by omega
  have hma : (m : Int) - (a : Int) = 1 := by omega
  obtain ⟨L, hL⟩ : ∃ L, L = A ++ (x :: (Y ++ C)) := ⟨_, rfl⟩
  rw [← hL] at h
  have HL := Lib.hid hL
  have HS := Lib.hid h
  have HA := Lib.hid ha
  have HM := Lib.hid hm
  have HB := Lib.hid hb
  have HY := Lib.hid hY
  clear hlen hL h ha hm hb hY
  go_enter Try.func47, Try.ntmps47
  go_wp2
  go_loopg [10, 11] (b - m) (fun kx s10 s11 wr => ∃ i j : Nat, s10 = .int .i64 i ∧ s11 = .int .i64 j ∧ m ≤ i ∧ i ≤ j ∧ j ≤ b ∧ j - i ≤ kx ∧ Hid ((∀ t, t + m < i → t < Y.length → (Y.getD t Ent.none_).cmp x < 0) ∧ (∀ t, j ≤ t + m → t < Y.length → 0 ≤ (Y.getD t Ent.none_).cmp x)) ∧ Hid (SL B w0 (some ⟨g, 0, none⟩) cap n (L) wr))
  case atStart => exact ⟨m, b, rfl, rfl, Nat.le_refl _, hmb, Nat.le_refl _, Nat.le_refl _, Lib.hid ⟨fun t h _ => by omega, fun t h1 h2 => by have := HB.out; omega⟩, HS⟩
  case round =>
    clear HS
    obtain ⟨i, j, rfl, rfl, hmi, hij, hjb, hk, HI, HS⟩ := hrel
    by_cases hlt : i < j
    · have hltz : (i : Int) < (j : Int) := by omega
      obtain ⟨h, hh⟩ : ∃ h : Nat, h = (i + j) / 2 := ⟨_, rfl⟩
      have h1 : i ≤ h := by omega
      have h2 : h < j := by omega
      have hhz : ((i : Int) + (j : Int)) / 2 = (h : Int) := by omega
      have hhn : (h : Int) < (n : Int) := by omega
      have han : (a : Int) < (n : Int) := by omega
      clear hh
      obtain ⟨y, hy⟩ : ∃ y, Y.getD (h - m) Ent.none_ = y := ⟨_, rfl⟩
      have gx : L.getD h Ent.none_ = y := by
        have := HA.out; have := HM.out; have := HB.out
        rw [HL.out, show A ++ (x :: (Y ++ C)) = (A ++ [x]) ++ (Y ++ C) by simp, getD_right (by simp; omega), getD_left (by simp; omega), ← hy]
        congr 1
        simp; omega
      have gy : L.getD a Ent.none_ = x := by rw [HL.out]; exact getD_at HA.out
      have hs := HS.out
      have c0 := fun z_ os => ((hs.shift z_ os).cells (i := h) (by omega)).1
      have c1 := fun z_ os => ((hs.shift z_ os).cells (i := h) (by omega)).2.1
      have c2 := fun z_ os => ((hs.shift z_ os).cells (i := h) (by omega)).2.2.1
      have c3 := fun z_ os => ((hs.shift z_ os).cells (i := h) (by omega)).2.2.2
      have d0 := fun z_ os => ((hs.shift z_ os).cells (i := a) (by omega)).1
      have d1 := fun z_ os => ((hs.shift z_ os).cells (i := a) (by omega)).2.1
      have d2 := fun z_ os => ((hs.shift z_ os).cells (i := a) (by omega)).2.2.1
      have d3 := fun z_ os => ((hs.shift z_ os).cells (i := a) (by omega)).2.2.2
      have hc := fun z_ os => hs.compare (i := h) (j := a) (by omega) (by omega) z_ os
      rw [gx] at c0 c1 c2 c3
      rw [gy] at d0 d1 d2 d3
      rw [gx, gy] at hc
      have HC := Lib.hid hc
      clear hc
      have HYY := Lib.hid hy
      clear hs gx gy hy
      by_cases hv : y.cmp x < 0
      · have HV := Lib.hid hv
        go_wp2_with fail
        refine wp_region_shift (by kernel_rfl) (by kernel_rfl) ?_
        repeat (quiet_step (exact HC.out _ _))
        refine wpQuiet_nil ?_
        intro _ hw'
        obtain ⟨⟨nq, osq⟩, hw''⟩ := hw'
        subst hw''
        have hz := HS.out.shift nq osq
        clear c0 c1 c2 c3 d0 d1 d2 d3 HC
        generalize shiftW wr nq osq = wz at hz ⊢
        have HZ := Lib.hid hz
        clear hz
        go_wp2
        go_roundg (j - (h + 1))
        case measure => omega
        case rel =>
          refine ⟨h + 1, j, by go_num, rfl, by omega, by omega, hjb, Nat.le_refl _, Lib.hid ⟨fun t ht htl => ?_, HI.out.2⟩, HZ⟩
          have := le_at' HY.out (i := t) (j := h - m) (by omega) (by have := HB.out; omega)
          rw [HYY.out] at this
          exact cmp_le_lt this HV.out
      · have HV := Lib.hid hv
        go_wp2_with fail
        refine wp_region_shift (by kernel_rfl) (by kernel_rfl) ?_
        repeat (quiet_step (exact HC.out _ _))
        refine wpQuiet_nil ?_
        intro _ hw'
        obtain ⟨⟨nq, osq⟩, hw''⟩ := hw'
        subst hw''
        have hz := HS.out.shift nq osq
        clear c0 c1 c2 c3 d0 d1 d2 d3 HC
        generalize shiftW wr nq osq = wz at hz ⊢
        have HZ := Lib.hid hz
        clear hz
        go_wp2
        go_roundg (h - i)
        case measure => omega
        case rel =>
          refine ⟨i, h, rfl, rfl, hmi, h1, by omega, Nat.le_refl _, Lib.hid ⟨HI.out.1, fun t ht htl => Int.not_lt.1 fun hlt' => ?_⟩, HZ⟩
          have h9 := le_at' HY.out (i := h - m) (j := t) (by omega) htl
          rw [HYY.out] at h9
          have h10 := cmp_le_lt h9 hlt'
          have := HV.out
          omega
    · have hltz : ¬ (i : Int) < (j : Int) := by omega
      obtain rfl : j = i := by omega
      obtain ⟨p, hp⟩ : ∃ p, j = m + p := ⟨j - m, by omega⟩
      have hpz : (j : Int) - 1 = ((a + p : Nat) : Int) := by have := HM.out; omega
      have HP := Lib.hid hp
      have hpl : p ≤ Y.length := by have := HB.out; omega
      have hap : a + p < n := by have := HM.out; omega
      have H1 : Hid (∀ y ∈ Y.take p, y.cmp x < 0) := Lib.hid (take_all fun t ht htl => HI.out.1 t (by omega) htl)
      have H2 : Hid (∀ y ∈ Y.drop p, 0 ≤ y.cmp x) := Lib.hid (drop_all fun t ht htl => HI.out.2 t (by omega) htl)
      have HT : Hid (∃ Y1 Y2, Y.take p = Y1 ++ Y2 ∧ a = a + Y1.length ∧ SL B w0 (some ⟨g, 0, none⟩) cap n (A ++ (Y1 ++ (x :: (Y2 ++ (Y.drop p ++ C))))) wr) := by
        refine Lib.hid ⟨[], Y.take p, rfl, by simp, ?_⟩
        have := HS.out
        rw [HL.out] at this
        rw [List.nil_append, ← List.append_assoc (Y.take p), List.take_append_drop]
        exact this
      obtain ⟨u, hu⟩ : ∃ u, u = a + p := ⟨_, rfl⟩
      rw [← hu] at hpz hap
      have HU := Lib.hid hu
      have hau : a ≤ u := by omega
      clear hp HI HS hu
      go_wp2
      go_loopg [13] p (fun kx s13 wr => ∃ k : Nat, s13 = .int .i64 k ∧ a ≤ k ∧ k ≤ u ∧ u - k ≤ kx ∧ Hid (∃ Y1 Y2, Y.take p = Y1 ++ Y2 ∧ k = a + Y1.length ∧ SL B w0 (some ⟨g, 0, none⟩) cap n (A ++ (Y1 ++ (x :: (Y2 ++ (Y.drop p ++ C))))) wr))
      case atStart => exact ⟨a, rfl, Nat.le_refl _, hau, by have := HU.out; omega, HT⟩
      case round =>
        clear HT
        obtain ⟨k, rfl, hak, hku, hkk, HT⟩ := hrel
        by_cases hlk : k < u
        · have hlkz : (k : Int) < (u : Int) := by omega
          obtain ⟨Y1, Y2, hy1, hk1, hs⟩ := HT.out
          have hl := congrArg List.length hy1
          simp only [List.length_take, List.length_append] at hl
          obtain ⟨y, Y3, rfl⟩ : ∃ y Y3, Y2 = y :: Y3 := by
            cases Y2 with
            | nil => exfalso; have := HU.out; simp at hl; omega
            | cons y r => exact ⟨y, r, rfl⟩
          have eA : A ++ (Y1 ++ (x :: (y :: Y3 ++ (Y.drop p ++ C)))) = (A ++ Y1) ++ x :: ([] ++ y :: (Y3 ++ (Y.drop p ++ C))) := by simp
          rw [eA] at hs
          have hk2 : k = (A ++ Y1).length := by have := HA.out; simp; omega
          have gx : ((A ++ Y1) ++ x :: ([] ++ y :: (Y3 ++ (Y.drop p ++ C)))).getD k Ent.none_ = x := getD_at hk2
          have gy : ((A ++ Y1) ++ x :: ([] ++ y :: (Y3 ++ (Y.drop p ++ C)))).getD (k + 1) Ent.none_ = y := by
            rw [show (A ++ Y1) ++ x :: ([] ++ y :: (Y3 ++ (Y.drop p ++ C))) = ((A ++ Y1) ++ [x]) ++ y :: (Y3 ++ (Y.drop p ++ C)) by simp]
            exact getD_at (by simp only [List.length_append, List.length_singleton] at hk2 ⊢; omega)
          obtain ⟨c0, c1, c2, c3⟩ := hs.cells (i := k) (by omega)
          obtain ⟨d0, d1, d2, d3⟩ := hs.cells (i := k + 1) (by omega)
          have S2 := hs.swap (i := k) (j := k + 1) (by omega) (by omega) gx gy
          have fz : ∀ o, wr.frozen? ⟨g, o, none⟩ = false := fun o => hs.free o (i := k) (by omega)
          rw [gx] at c0 c1 c2 c3
          rw [gy] at d0 d1 d2 d3
          rw [swp_parts hk2 (by rw [← hk2]; simp)] at S2
          have HSW := Lib.hid S2
          clear S2
          have HY1 := Lib.hid hy1
          have HK1 := Lib.hid hk1
          clear HT hs hy1 hk1 hl eA hk2 gx gy
          have ek : ((k : Int) + 1).toNat = k + 1 := by omega
          have pk : (0 : Int) ≤ (k : Int) + 1 := by omega
          have bk : (k : Int) + 1 < (n : Int) := by omega
          have bk0 : (k : Int) < (n : Int) := by omega
          have rk : IntKind.i64.wrap ((k : Int) + 1) = (k : Int) + 1 := by rw [IntKind.wrap_i64]; omega
          go_wp2_with fail
          go_big_region
          go_wp2
          go_roundg (u - (k + 1))
          case measure => omega
          case rel => exact ⟨k + 1, by go_num, by omega, by omega, Nat.le_refl _, Y1 ++ [y], Y3, by rw [HY1.out]; simp, by have := HK1.out; simp; omega, by simpa using HSW.out⟩
        · have hlkz : ¬ (k : Int) < (u : Int) := by omega
          go_wp2
          refine bodyPost_ret (results_none rfl _ _ _) rfl ?_
          obtain ⟨Y1, Y2, hy1, hk1, hs⟩ := HT.out
          have hl := congrArg List.length hy1
          simp only [List.length_take, List.length_append] at hl
          obtain rfl : Y2 = [] := List.eq_nil_of_length_eq_zero (by have := HU.out; omega)
          rw [List.append_nil] at hy1
          subst hy1
          refine ⟨rfl, Y.take p ++ x :: Y.drop p, ins_le' (by rw [List.take_append_drop]; exact HY.out) H1.out (fun v hv => cmp_ge (by have := H2.out v hv; omega)), ?_, by simpa using hs⟩
          have := ins_stab' (B := Y.drop p) H1.out
          rwa [List.take_append_drop] at this
end Go.Proofs.Ytnmmeaoapfampaa

/-
  The library's merge of two parts that are in order, in place: of the second there is one.
-/
namespace Go.Proofs.Ytnmmeaoapfampaa
open Go.RowKit

set_option maxRecDepth 100000 in
set_option maxHeartbeats 1000000 in
theorem sym_two {B g cap n a m b : Nat} {w0 w : World} {A X C : List Ent} {y : Ent} (h : SL B w0 (some ⟨g, 0, none⟩) cap n (A ++ (X ++ (y :: C))) w) (ha : a = A.length) (hm : m = a + X.length) (hb : b = m + 1) (hX : Le X) (h2 : 2 ≤ X.length) (hn : n ≤ 1000) :
    Calls Try.prog 47 #[.slice (some ⟨g, 0, none⟩) n cap, .int .i64 a, .int .i64 m, .int .i64 b, .func (.func 32) #[] #[]] w fun e w' => e = .returned (.tuple #[]) ∧ ∃ Z, Le Z ∧ Stab (X ++ [y]) Z ∧ SL B w0 (some ⟨g, 0, none⟩) cap n (A ++ (Z ++ C)) w' := by
  have hlen := h.len
  simp only [List.length_append, List.length_cons] at hlen
  have hmn : m < n := by omega
  have ham : a ≤ m := by omega
  obtain ⟨d, hd⟩ : ∃ d, d = m - a := ⟨_, rfl⟩
  have hma : (m : Int) - (a : Int) = (d : Int) := by omega
  have hd1 : ((d : Int) == 1) = false := by simp; omega
  have hbm : (b : Int) - (m : Int) = 1 := by omega
  obtain ⟨L, hL⟩ : ∃ L, L = A ++ (X ++ (y :: C)) := ⟨_, rfl⟩
  rw [← hL] at h
  have HL := Lib.hid hL
  have HS := Lib.hid h
  have HA := Lib.hid ha
  have HM := Lib.hid hm
  have HX := Lib.hid hX
  clear hlen hL h ha hm hb hX hd h2
  go_enter Try.func47, Try.ntmps47
  go_wp2
  go_loopg [14, 15] (m - a) (fun kx s14 s15 wr => ∃ i j : Nat, s14 = .int .i64 i ∧ s15 = .int .i64 j ∧ a ≤ i ∧ i ≤ j ∧ j ≤ m ∧ j - i ≤ kx ∧ Hid ((∀ t, t + a < i → t < X.length → 0 ≤ y.cmp (X.getD t Ent.none_)) ∧ (∀ t, j ≤ t + a → t < X.length → y.cmp (X.getD t Ent.none_) < 0)) ∧ Hid (SL B w0 (some ⟨g, 0, none⟩) cap n (L) wr))
  case atStart => exact ⟨a, m, rfl, rfl, Nat.le_refl _, ham, Nat.le_refl _, Nat.le_refl _, Lib.hid ⟨fun t h _ => by omega, fun t h1 h2 => by have := HM.out; omega⟩, HS⟩
  case round =>
    clear HS
    obtain ⟨i, j, rfl, rfl, hai, hij, hjm, hk, HI, HS⟩ := hrel
    by_cases hlt : i < j
    · have hltz : (i : Int) < (j : Int) := by omega
      obtain ⟨h, hh⟩ : ∃ h : Nat, h = (i + j) / 2 := ⟨_, rfl⟩
      have h1 : i ≤ h := by omega
      have h2 : h < j := by omega
      have hhz : ((i : Int) + (j : Int)) / 2 = (h : Int) := by omega
      have hhn : (h : Int) < (n : Int) := by omega
      have hmz : (m : Int) < (n : Int) := by omega
      clear hh
      obtain ⟨x, hx⟩ : ∃ x, X.getD (h - a) Ent.none_ = x := ⟨_, rfl⟩
      have gy : L.getD h Ent.none_ = x := by
        have := HA.out; have := HM.out
        rw [HL.out, getD_right (by omega), getD_left (by omega), ← hx, HA.out]
      have gx : L.getD m Ent.none_ = y := by
        rw [HL.out, ← List.append_assoc]
        exact getD_at (by have := HA.out; have := HM.out; simp; omega)
      have hs := HS.out
      have c0 := fun z_ os => ((hs.shift z_ os).cells (i := m) (by omega)).1
      have c1 := fun z_ os => ((hs.shift z_ os).cells (i := m) (by omega)).2.1
      have c2 := fun z_ os => ((hs.shift z_ os).cells (i := m) (by omega)).2.2.1
      have c3 := fun z_ os => ((hs.shift z_ os).cells (i := m) (by omega)).2.2.2
      have d0 := fun z_ os => ((hs.shift z_ os).cells (i := h) (by omega)).1
      have d1 := fun z_ os => ((hs.shift z_ os).cells (i := h) (by omega)).2.1
      have d2 := fun z_ os => ((hs.shift z_ os).cells (i := h) (by omega)).2.2.1
      have d3 := fun z_ os => ((hs.shift z_ os).cells (i := h) (by omega)).2.2.2
      have hc := fun z_ os => hs.compare (i := m) (j := h) (by omega) (by omega) z_ os
      rw [gx] at c0 c1 c2 c3
      rw [gy] at d0 d1 d2 d3
      rw [gx, gy] at hc
      have HC := Lib.hid hc
      clear hc
      have HXX := Lib.hid hx
      clear hs gx gy hx
      by_cases hv : y.cmp x < 0
      · have HV := Lib.hid hv
        have hv2 : (!decide (y.cmp x < 0)) = false := by simp; omega
        go_wp2_with fail
        refine wp_region_shift (by kernel_rfl) (by kernel_rfl) ?_
        repeat (quiet_step (exact HC.out _ _))
        refine wpQuiet_nil ?_
        intro _ hw'
        obtain ⟨⟨nq, osq⟩, hw''⟩ := hw'
        subst hw''
        have hz := HS.out.shift nq osq
        clear c0 c1 c2 c3 d0 d1 d2 d3 HC
        generalize shiftW wr nq osq = wz at hz ⊢
        have HZ := Lib.hid hz
        clear hz
        go_wp2
        go_roundg (h - i)
        case measure => omega
        case rel =>
          refine ⟨i, h, rfl, rfl, hai, h1, by omega, Nat.le_refl _, Lib.hid ⟨HI.out.1, fun t ht htl => ?_⟩, HZ⟩
          have h9 := le_at' HX.out (i := h - a) (j := t) (by omega) htl
          rw [HXX.out] at h9
          exact cmp_lt_le HV.out h9
      · have HV := Lib.hid hv
        have hv2 : (!decide (y.cmp x < 0)) = true := by simp; omega
        go_wp2_with fail
        refine wp_region_shift (by kernel_rfl) (by kernel_rfl) ?_
        repeat (quiet_step (exact HC.out _ _))
        refine wpQuiet_nil ?_
        intro _ hw'
        obtain ⟨⟨nq, osq⟩, hw''⟩ := hw'
        subst hw''
        have hz := HS.out.shift nq osq
        clear c0 c1 c2 c3 d0 d1 d2 d3 HC
        generalize shiftW wr nq osq = wz at hz ⊢
        have HZ := Lib.hid hz
        clear hz
        go_wp2
        go_roundg (j - (h + 1))
        case measure => omega
        case rel =>
          refine ⟨h + 1, j, by go_num, rfl, by omega, by omega, hjm, Nat.le_refl _, Lib.hid ⟨fun t ht htl => Int.not_lt.1 fun hlt' => ?_, HI.out.2⟩, HZ⟩
          have h9 := le_at' HX.out (i := t) (j := h - a) (by omega) (by have := HM.out; omega)
          rw [HXX.out] at h9
          have h10 := cmp_lt_le hlt' h9
          have := HV.out
          omega
    · have hltz : ¬ (i : Int) < (j : Int) := by omega
      obtain rfl : j = i := by omega
      obtain ⟨p, hp⟩ : ∃ p, j = a + p := ⟨j - a, by omega⟩
      have HP := Lib.hid hp
      have hpl : p ≤ X.length := by have := HM.out; omega
      have H1 : Hid (∀ v ∈ X.take p, 0 ≤ y.cmp v) := Lib.hid (take_all fun t ht htl => HI.out.1 t (by omega) htl)
      have H2 : Hid (∀ v ∈ X.drop p, y.cmp v < 0) := Lib.hid (drop_all fun t ht htl => HI.out.2 t (by omega) htl)
      have HT : Hid (∃ X2 X3, X.drop p = X2 ++ X3 ∧ m = j + X2.length ∧ SL B w0 (some ⟨g, 0, none⟩) cap n (A ++ (X.take p ++ (X2 ++ (y :: (X3 ++ C))))) wr) := by
        refine Lib.hid ⟨X.drop p, [], by simp, by rw [List.length_drop]; have := HM.out; omega, ?_⟩
        have := HS.out
        rw [HL.out] at this
        rw [List.nil_append, ← List.append_assoc (X.take p), List.take_append_drop]
        exact this
      clear hp HI HS
      go_wp2
      go_loopg [17] (m - j) (fun kx s17 wr => ∃ k : Nat, s17 = .int .i64 k ∧ j ≤ k ∧ k ≤ m ∧ k - j ≤ kx ∧ Hid (∃ X2 X3, X.drop p = X2 ++ X3 ∧ k = j + X2.length ∧ SL B w0 (some ⟨g, 0, none⟩) cap n (A ++ (X.take p ++ (X2 ++ (y :: (X3 ++ C))))) wr))
      case atStart => exact ⟨m, rfl, hjm, Nat.le_refl _, Nat.le_refl _, HT⟩
      case round =>
        clear HT
        obtain ⟨k, rfl, hjk, hkm, hkk, HT⟩ := hrel
        by_cases hlk : j < k
        · obtain ⟨q, rfl⟩ : ∃ q, k = q + 1 := ⟨k - 1, by omega⟩
          have hlkz : (j : Int) < (q : Int) + 1 := by omega
          obtain ⟨X2, X3, hx1, hk1, hs⟩ := HT.out
          obtain ⟨X4, x, rfl⟩ : ∃ X4 x, X2 = X4 ++ [x] := by
            refine ⟨X2.dropLast, X2.getLast (fun e => by rw [e] at hk1; simp at hk1; omega), (List.dropLast_concat_getLast _).symm⟩
          have eA : A ++ (X.take p ++ (X4 ++ [x] ++ (y :: (X3 ++ C)))) = (A ++ X.take p ++ X4) ++ x :: ([] ++ y :: (X3 ++ C)) := by simp
          rw [eA] at hs
          rw [List.length_append, List.length_singleton] at hk1
          have hk2 : q = (A ++ X.take p ++ X4).length := by have := HA.out; have := HP.out; simp; omega
          have gy : ((A ++ X.take p ++ X4) ++ x :: ([] ++ y :: (X3 ++ C))).getD q Ent.none_ = x := getD_at hk2
          have gx : ((A ++ X.take p ++ X4) ++ x :: ([] ++ y :: (X3 ++ C))).getD (q + 1) Ent.none_ = y := by
            rw [show (A ++ X.take p ++ X4) ++ x :: ([] ++ y :: (X3 ++ C)) = ((A ++ X.take p ++ X4) ++ [x]) ++ y :: (X3 ++ C) by simp]
            exact getD_at (by rw [List.length_append, ← hk2, List.length_singleton])
          obtain ⟨c0, c1, c2, c3⟩ := hs.cells (i := q + 1) (by omega)
          obtain ⟨d0, d1, d2, d3⟩ := hs.cells (i := q) (by omega)
          have S2 := hs.swap (i := q + 1) (j := q) (by omega) (by omega) gx gy
          have fz : ∀ o, wr.frozen? ⟨g, o, none⟩ = false := fun o => hs.free o (i := q + 1) (by omega)
          rw [gx] at c0 c1 c2 c3
          rw [gy] at d0 d1 d2 d3
          rw [swp_comm, swp_parts hk2 (by rw [← hk2]; simp)] at S2
          have HSW := Lib.hid S2
          clear S2
          have HX1 := Lib.hid hx1
          have HK1 := Lib.hid hk1
          clear HT hs hx1 hk1 eA hk2 gx gy
          have ek : ((q : Int) + 1).toNat = q + 1 := by omega
          have pk : (0 : Int) ≤ (q : Int) + 1 := by omega
          have bk : (q : Int) + 1 < (n : Int) := by omega
          have bk0 : (q : Int) < (n : Int) := by omega
          have rk : IntKind.i64.wrap (q : Int) = (q : Int) := by rw [IntKind.wrap_i64]; omega
          go_wp2_with fail
          go_big_region
          go_wp2
          go_roundg (q - j)
          case measure => omega
          case rel => exact ⟨q, by go_num, by omega, by omega, Nat.le_refl _, X4, x :: X3, by rw [HX1.out]; simp, by have := HK1.out; omega, by simpa using HSW.out⟩
        · have hlkz : ¬ (j : Int) < (k : Int) := by omega
          go_wp2
          refine bodyPost_ret (results_none rfl _ _ _) rfl ?_
          obtain ⟨X2, X3, hx1, hk1, hs⟩ := HT.out
          obtain rfl : X2 = [] := List.eq_nil_of_length_eq_zero (by omega)
          rw [List.nil_append] at hx1
          subst hx1
          refine ⟨rfl, X.take p ++ y :: X.drop p, ins_le (by rw [List.take_append_drop]; exact HX.out) (fun v hv => cmp_ge (by have := H1.out v hv; omega)) H2.out, ?_, by simpa using hs⟩
          exact ins_stab (by rw [List.take_append_drop]; exact Stab.refl _) H2.out
end Go.Proofs.Ytnmmeaoapfampaa
