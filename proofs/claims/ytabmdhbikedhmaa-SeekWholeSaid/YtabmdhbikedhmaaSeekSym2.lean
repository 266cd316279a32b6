/-
  The library's merge of two parts that are in order, in place: of the second there is one.
-/
import Derived.Test.YtabmdhbikedhmaaSeekSym1
namespace Go.Proofs.Ytabmdhbikedhmaa
open Go.RowKit

set_option maxRecDepth 100000 in
set_option maxHeartbeats 1000000 in
theorem sym_two {B g cap n a m b : Nat} {w0 w : World} {A X C : List Ent} {y : Ent} (h : SL B w0 (some ⟨g, 0, none⟩) cap n (A ++ (X ++ (y :: C))) w) (ha : a = A.length) (hm : m = a + X.length) (hb : b = m + 1) (hX : Le X) (h2 : 2 ≤ X.length) (hn : n ≤ 1000) :
    Calls Try.prog 44 #[.slice (some ⟨g, 0, none⟩) n cap, .int .i64 a, .int .i64 m, .int .i64 b, .func (.func 29) #[] #[]] w fun e w' => e = .returned (.tuple #[]) ∧ ∃ Z, Le Z ∧ Stab (X ++ [y]) Z ∧ SL B w0 (some ⟨g, 0, none⟩) cap n (A ++ (Z ++ C)) w' := by
  have hlen := h.len
  simp only [List.length_append, List.length_cons] at hlen
  have hmn : m < n := by omega
  have ham : a ≤ m := by omega
  obtain ⟨d, hd⟩ : ∃ d, d = m - a := ⟨_, rfl⟩
  have hma : (m : Int) - (a : Int) = (d : Int) := by omega
  have hd1 : ((d : Int) == 1) = false := by simp; omega
  have hbm : (b : Int) - (m : Int) = 1 := by omega
  obtain ⟨L, hL⟩ : ∃ L, L = A ++ (X ++ (y :: C)) := ⟨_, rfl⟩
  rw [← hL] at h
  have HL := Lib.hid hL
  have HS := Lib.hid h
  have HA := Lib.hid ha
  have HM := Lib.hid hm
  have HX := Lib.hid hX
  clear hlen hL h ha hm hb hX hd h2
  go_enter Try.func44, Try.ntmps44
  go_wp2
  go_loopg [14, 15] (m - a) (fun kx s14 s15 wr => ∃ i j : Nat, s14 = .int .i64 i ∧ s15 = .int .i64 j ∧ a ≤ i ∧ i ≤ j ∧ j ≤ m ∧ j - i ≤ kx ∧ Hid ((∀ t, t + a < i → t < X.length → 0 ≤ y.cmp (X.getD t Ent.none_)) ∧ (∀ t, j ≤ t + a → t < X.length → y.cmp (X.getD t Ent.none_) < 0)) ∧ Hid (SL B w0 (some ⟨g, 0, none⟩) cap n (L) wr))
  case atStart => exact ⟨a, m, rfl, rfl, Nat.le_refl _, ham, Nat.le_refl _, Nat.le_refl _, Lib.hid ⟨fun t h _ => by omega, fun t h1 h2 => by have := HM.out; omega⟩, HS⟩
  case round =>
    clear HS
    obtain ⟨i, j, rfl, rfl, hai, hij, hjm, hk, HI, HS⟩ := hrel
    by_cases hlt : i < j
    · have hltz : (i : Int) < (j : Int) := by omega
      obtain ⟨h, hh⟩ : ∃ h : Nat, h = (i + j) / 2 := ⟨_, rfl⟩
      have h1 : i ≤ h := by omega
      have h2 : h < j := by omega
      have hhz : ((i : Int) + (j : Int)) / 2 = (h : Int) := by omega
      have hhn : (h : Int) < (n : Int) := by omega
      have hmz : (m : Int) < (n : Int) := by omega
      clear hh
      obtain ⟨x, hx⟩ : ∃ x, X.getD (h - a) Ent.none_ = x := ⟨_, rfl⟩
      have gy : L.getD h Ent.none_ = x := by
        have := HA.out; have := HM.out
        rw [HL.out, getD_right (by omega), getD_left (by omega), ← hx, HA.out]
      have gx : L.getD m Ent.none_ = y := by
        rw [HL.out, ← List.append_assoc]
        exact getD_at (by have := HA.out; have := HM.out; simp; omega)
      have hs := HS.out
      have c0 := fun z_ os => ((hs.shift z_ os).cells (i := m) (by omega)).1
      have c1 := fun z_ os => ((hs.shift z_ os).cells (i := m) (by omega)).2.1
      have c2 := fun z_ os => ((hs.shift z_ os).cells (i := m) (by omega)).2.2.1
      have c3 := fun z_ os => ((hs.shift z_ os).cells (i := m) (by omega)).2.2.2
      have d0 := fun z_ os => ((hs.shift z_ os).cells (i := h) (by omega)).1
      have d1 := fun z_ os => ((hs.shift z_ os).cells (i := h) (by omega)).2.1
      have d2 := fun z_ os => ((hs.shift z_ os).cells (i := h) (by omega)).2.2.1
      have d3 := fun z_ os => ((hs.shift z_ os).cells (i := h) (by omega)).2.2.2
      have hc := fun z_ os => hs.compare (i := m) (j := h) (by omega) (by omega) z_ os
      rw [gx] at c0 c1 c2 c3
      rw [gy] at d0 d1 d2 d3
      rw [gx, gy] at hc
      have HC := Lib.hid hc
      clear hc
      have HXX := Lib.hid hx
      clear hs gx gy hx
      by_cases hv : y.cmp x < 0
      · have HV := Lib.hid hv
        have hv2 : (!decide (y.cmp x < 0)) = false := by simp; omega
        go_wp2_with fail
        refine wp_region_shift (by kernel_rfl) (by kernel_rfl) ?_
        repeat (quiet_step (exact HC.out _ _))
        refine wpQuiet_nil ?_
        intro _ hw'
        obtain ⟨⟨nq, osq⟩, hw''⟩ := hw'
        subst hw''
        have hz := HS.out.shift nq osq
        clear c0 c1 c2 c3 d0 d1 d2 d3 HC
        generalize shiftW wr nq osq = wz at hz ⊢
        have HZ := Lib.hid hz
        clear hz
        go_wp2
        go_roundg (h - i)
        case measure => omega
        case rel =>
          refine ⟨i, h, rfl, rfl, hai, h1, by omega, Nat.le_refl _, Lib.hid ⟨HI.out.1, fun t ht htl => ?_⟩, HZ⟩
          have h9 := le_at' HX.out (i := h - a) (j := t) (by omega) htl
          rw [HXX.out] at h9
          exact cmp_lt_le HV.out h9
      · have HV := Lib.hid hv
        have hv2 : (!decide (y.cmp x < 0)) = true := by simp; omega
        go_wp2_with fail
        refine wp_region_shift (by kernel_rfl) (by kernel_rfl) ?_
        repeat (quiet_step (exact HC.out _ _))
        refine wpQuiet_nil ?_
        intro _ hw'
        obtain ⟨⟨nq, osq⟩, hw''⟩ := hw'
        subst hw''
        have hz := HS.out.shift nq osq
        clear c0 c1 c2 c3 d0 d1 d2 d3 HC
        generalize shiftW wr nq osq = wz at hz ⊢
        have HZ := Lib.hid hz
        clear hz
        go_wp2
        go_roundg (j - (h + 1))
        case measure => omega
        case rel =>
          refine ⟨h + 1, j, by go_num, rfl, by omega, by omega, hjm, Nat.le_refl _, Lib.hid ⟨fun t ht htl => Int.not_lt.1 fun hlt' => ?_, HI.out.2⟩, HZ⟩
          have h9 := le_at' HX.out (i := t) (j := h - a) (by omega) (by have := HM.out; omega)
          rw [HXX.out] at h9
          have h10 := cmp_lt_le hlt' h9
          have := HV.out
          omega
    · have hltz : ¬ (i : Int) < (j : Int) := by omega
      obtain rfl : j = i := by omega
      obtain ⟨p, hp⟩ : ∃ p, j = a + p := ⟨j - a, by omega⟩
      have HP := Lib.hid hp
      have hpl : p ≤ X.length := by have := HM.out; omega
      have H1 : Hid (∀ v ∈ X.take p, 0 ≤ y.cmp v) := Lib.hid (take_all fun t ht htl => HI.out.1 t (by omega) htl)
      have H2 : Hid (∀ v ∈ X.drop p, y.cmp v < 0) := Lib.hid (drop_all fun t ht htl => HI.out.2 t (by omega) htl)
      have HT : Hid (∃ X2 X3, X.drop p = X2 ++ X3 ∧ m = j + X2.length ∧ SL B w0 (some ⟨g, 0, none⟩) cap n (A ++ (X.take p ++ (X2 ++ (y :: (X3 ++ C))))) wr) := by
        refine Lib.hid ⟨X.drop p, [], by simp, by rw [List.length_drop]; have := HM.out; omega, ?_⟩
        have := HS.out
        rw [HL.out] at this
        rw [List.nil_append, ← List.append_assoc (X.take p), List.take_append_drop]
        exact this
      clear hp HI HS
      go_wp2
      go_loopg [17] (m - j) (fun kx s17 wr => ∃ k : Nat, s17 = .int .i64 k ∧ j ≤ k ∧ k ≤ m ∧ k - j ≤ kx ∧ Hid (∃ X2 X3, X.drop p = X2 ++ X3 ∧ k = j + X2.length ∧ SL B w0 (some ⟨g, 0, none⟩) cap n (A ++ (X.take p ++ (X2 ++ (y :: (X3 ++ C))))) wr))
      case atStart => exact ⟨m, rfl, hjm, Nat.le_refl _, Nat.le_refl _, HT⟩
      case round =>
        clear HT
        obtain ⟨k, rfl, hjk, hkm, hkk, HT⟩ := hrel
        by_cases hlk : j < k
        · obtain ⟨q, rfl⟩ : ∃ q, k = q + 1 := ⟨k - 1, by omega⟩
          have hlkz : (j : Int) < (q : Int) + 1 := by omega
          obtain ⟨X2, X3, hx1, hk1, hs⟩ := HT.out
          obtain ⟨X4, x, rfl⟩ : ∃ X4 x, X2 = X4 ++ [x] := by
            refine ⟨X2.dropLast, X2.getLast (fun e => by rw [e] at hk1; simp at hk1; omega), (List.dropLast_concat_getLast _).symm⟩
          have eA : A ++ (X.take p ++ (X4 ++ [x] ++ (y :: (X3 ++ C)))) = (A ++ X.take p ++ X4) ++ x :: ([] ++ y :: (X3 ++ C)) := by simp
          rw [eA] at hs
          rw [List.length_append, List.length_singleton] at hk1
          have hk2 : q = (A ++ X.take p ++ X4).length := by have := HA.out; have := HP.out; simp; omega
          have gy : ((A ++ X.take p ++ X4) ++ x :: ([] ++ y :: (X3 ++ C))).getD q Ent.none_ = x := getD_at hk2
          have gx : ((A ++ X.take p ++ X4) ++ x :: ([] ++ y :: (X3 ++ C))).getD (q + 1) Ent.none_ = y := by
            rw [show (A ++ X.take p ++ X4) ++ x :: ([] ++ y :: (X3 ++ C)) = ((A ++ X.take p ++ X4) ++ [x]) ++ y :: (X3 ++ C) by simp]
            exact getD_at (by rw [List.length_append, ← hk2, List.length_singleton])
          obtain ⟨c0, c1, c2, c3⟩ := hs.cells (i := q + 1) (by omega)
          obtain ⟨d0, d1, d2, d3⟩ := hs.cells (i := q) (by omega)
          have S2 := hs.swap (i := q + 1) (j := q) (by omega) (by omega) gx gy
          have fz : ∀ o, wr.frozen? ⟨g, o, none⟩ = false := fun o => hs.free o (i := q + 1) (by omega)
          rw [gx] at c0 c1 c2 c3
          rw [gy] at d0 d1 d2 d3
          rw [swp_comm, swp_parts hk2 (by rw [← hk2]; simp)] at S2
          have HSW := Lib.hid S2
          clear S2
          have HX1 := Lib.hid hx1
          have HK1 := Lib.hid hk1
          clear HT hs hx1 hk1 eA hk2 gx gy
          have ek : ((q : Int) + 1).toNat = q + 1 := by omega
          have pk : (0 : Int) ≤ (q : Int) + 1 := by omega
          have bk : (q : Int) + 1 < (n : Int) := by omega
          have bk0 : (q : Int) < (n : Int) := by omega
          have rk : IntKind.i64.wrap (q : Int) = (q : Int) := by rw [IntKind.wrap_i64]; omega
          go_wp2_with fail
          go_big_region
          go_wp2
          go_roundg (q - j)
          case measure => omega
          case rel => exact ⟨q, by go_num, by omega, by omega, Nat.le_refl _, X4, x :: X3, by rw [HX1.out]; simp, by have := HK1.out; omega, by simpa using HSW.out⟩
        · have hlkz : ¬ (j : Int) < (k : Int) := by omega
          go_wp2
          refine bodyPost_ret (results_none rfl _ _ _) rfl ?_
          obtain ⟨X2, X3, hx1, hk1, hs⟩ := HT.out
          obtain rfl : X2 = [] := List.eq_nil_of_length_eq_zero (by omega)
          rw [List.nil_append] at hx1
          subst hx1
          refine ⟨rfl, X.take p ++ y :: X.drop p, ins_le (by rw [List.take_append_drop]; exact HX.out) (fun v hv => cmp_ge (by have := H1.out v hv; omega)) H2.out, ?_, by simpa using hs⟩
          exact ins_stab (by rw [List.take_append_drop]; exact Stab.refl _) H2.out
end Go.Proofs.Ytabmdhbikedhmaa
