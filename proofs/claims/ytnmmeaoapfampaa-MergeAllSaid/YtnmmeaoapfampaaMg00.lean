import Derived.Test.YtnmmeaoapfampaaSeekSwap

/-
  The library's exchange of two parts that lie side by side.
-/
namespace Go.Proofs.Ytnmmeaoapfampaa
open Go.RowKit

set_option maxRecDepth 100000 in
set_option maxHeartbeats 1000000 in
theorem rotate_any {B g cap n a m b : Nat} {w0 w : World} {A X Y C : List Ent} {f : Value} (h : SL B w0 (some ⟨g, 0, none⟩) cap n (A ++ (X ++ (Y ++ C))) w) (ha : a = A.length) (hm : m = A.length + X.length) (hb : b = A.length + X.length + Y.length) (hX : 1 ≤ X.length) (hY : 1 ≤ Y.length) (hn : n ≤ 1000) :
    Calls Try.prog 51 #[.slice (some ⟨g, 0, none⟩) n cap, .int .i64 a, .int .i64 m, .int .i64 b, f] w fun e w' => e = .returned (.tuple #[]) ∧ SL B w0 (some ⟨g, 0, none⟩) cap n (A ++ (Y ++ (X ++ C))) w' := by
  have hlen := h.len
  simp only [List.length_append] at hlen
  obtain ⟨T, hT⟩ : ∃ T, T = A ++ (Y ++ (X ++ C)) := ⟨_, rfl⟩
  rw [← hT]
  have HS : Hid (∃ i j : Nat, (m : Int) - (a : Int) = (i : Int) ∧ (b : Int) - (m : Int) = (j : Int) ∧ 1 ≤ i ∧ 1 ≤ j ∧ i + j ≤ b ∧ ∃ A' X' Y' C', X'.length = i ∧ Y'.length = j ∧ A'.length + i = m ∧ m + j ≤ b ∧ A' ++ (Y' ++ (X' ++ C')) = T ∧ SL B w0 (some ⟨g, 0, none⟩) cap n (A' ++ (X' ++ (Y' ++ C'))) w) :=
    Lib.hid ⟨X.length, Y.length, by omega, by omega, hX, hY, by omega, A, X, Y, C, rfl, rfl, by omega, by omega, hT.symm, h⟩
  have hb1 : b ≤ n := by omega
  have hm1 : m ≤ n := by omega
  have ha1 : a ≤ m := by omega
  have hmb : m ≤ b := by omega
  clear hlen ha hm hb hX hY hT h
  obtain ⟨i0, j0, hi0, hj0, HS⟩ := HS.out
  have HS := Lib.hid HS
  go_enter Try.func51, Try.ntmps51
  go_wp2
  go_loopg [10, 11] (i0 + j0) (fun kx s10 s11 wr => ∃ i j : Nat, s10 = .int .i64 i ∧ s11 = .int .i64 j ∧ i + j ≤ kx ∧ 1 ≤ i ∧ 1 ≤ j ∧ i ≤ m ∧ m + j ≤ b ∧ Hid (∃ A' X' Y' C', X'.length = i ∧ Y'.length = j ∧ A'.length + i = m ∧ A' ++ (Y' ++ (X' ++ C')) = T ∧ SL B w0 (some ⟨g, 0, none⟩) cap n (A' ++ (X' ++ (Y' ++ C'))) wr))
  case atStart =>
    obtain ⟨h1, h2, h3, A', X', Y', C', h4, h5, h6, h7, h8⟩ := HS.out
    exact ⟨i0, j0, rfl, rfl, Nat.le_refl _, h1, h2, by omega, by omega, A', X', Y', C', h4, h5, h6, h8⟩
  case round =>
    clear HS
    obtain ⟨i, j, rfl, rfl, hk, hi, hj, him, hjb, H⟩ := hrel
    obtain ⟨p, hp⟩ : ∃ p : Nat, p + i = m := ⟨m - i, by omega⟩
    have hpz : (m : Int) - (i : Int) = (p : Int) := by omega
    have hpn : p ≤ n := by omega
    rcases Nat.lt_trichotomy i j with hlt | heq | hgt
    · obtain ⟨q, hq⟩ : ∃ q : Nat, q = m + j - i := ⟨_, rfl⟩
      have hqz : (m : Int) + (j : Int) - (i : Int) = (q : Int) := by omega
      have HQ := Lib.hid hq
      have HP := Lib.hid hp
      have hne : ((i : Int) != (j : Int)) = true := by simp; omega
      have hng : ¬ (j : Int) < (i : Int) := by omega
      have HC : Hid (Calls Try.prog 52 #[.slice (some ⟨g, 0, none⟩) n cap, .int .i64 p, .int .i64 q, .int .i64 i, f] wr fun e w' => e = .returned (.tuple #[]) ∧ Hid (∃ A' X' Y' C', X'.length = i ∧ Y'.length = j - i ∧ A'.length + i = m ∧ A' ++ (Y' ++ (X' ++ C')) = T ∧ SL B w0 (some ⟨g, 0, none⟩) cap n (A' ++ (X' ++ (Y' ++ C'))) w')) := by
        obtain ⟨A', X', Y', C', h4, h5, h6, h7, h8⟩ := H.out
        have e : A' ++ (X' ++ (Y' ++ C')) = A' ++ (X' ++ (Y'.take (j - i) ++ (Y'.drop (j - i) ++ C'))) := by
          conv => lhs; rw [← List.take_append_drop (j - i) Y']
          simp only [List.append_assoc]
        rw [e] at h8
        refine (swapRange_any h8 (by omega) (by rw [List.length_take]; omega) h4 (by rw [List.length_drop]; omega) hn).mono ?_
        rintro e w' ⟨rfl, h9⟩
        refine ⟨rfl, Lib.hid ⟨A', Y'.drop (j - i), Y'.take (j - i), X' ++ C', by rw [List.length_drop]; omega, by rw [List.length_take]; omega, h6, ?_, h9⟩⟩
        rw [← h7]
        conv => rhs; rw [← List.take_append_drop (j - i) Y']
        simp only [List.append_assoc]
      clear H hp hq
      go_wp2_with (go_at_call 52; refine HC.out.mono ?_; rintro e w' ⟨rfl, H2⟩)
      go_roundg (i + (j - i))
      case measure => omega
      case rel => exact ⟨i, j - i, rfl, congrArg (Value.int .i64) (by omega), by omega, by omega, by omega, by omega, by omega, H2⟩
    · obtain rfl := heq
      have HC : Hid (Calls Try.prog 52 #[.slice (some ⟨g, 0, none⟩) n cap, .int .i64 p, .int .i64 m, .int .i64 i, f] wr fun e w' => e = .returned (.tuple #[]) ∧ SL B w0 (some ⟨g, 0, none⟩) cap n T w') := by
        obtain ⟨A', X', Y', C', h4, h5, h6, h7, h8⟩ := H.out
        refine (swapRange_any (M := []) (by simpa using h8) (by omega) (by simp; omega) h4 h5 hn).mono ?_
        rintro e w' ⟨rfl, h9⟩
        exact ⟨rfl, by rw [← h7]; simpa using h9⟩
      have hne : ((i : Int) != (i : Int)) = false := by simp
      clear H hp
      go_wp2_with (go_at_call 52; refine HC.out.mono ?_; rintro e w' ⟨rfl, H2⟩)
      go_end0
      exact ⟨rfl, H2⟩
    · have hne : ((i : Int) != (j : Int)) = true := by simp; omega
      have hg : (j : Int) < (i : Int) := by omega
      have HC : Hid (Calls Try.prog 52 #[.slice (some ⟨g, 0, none⟩) n cap, .int .i64 p, .int .i64 m, .int .i64 j, f] wr fun e w' => e = .returned (.tuple #[]) ∧ Hid (∃ A' X' Y' C', X'.length = i - j ∧ Y'.length = j ∧ A'.length + (i - j) = m ∧ A' ++ (Y' ++ (X' ++ C')) = T ∧ SL B w0 (some ⟨g, 0, none⟩) cap n (A' ++ (X' ++ (Y' ++ C'))) w')) := by
        obtain ⟨A', X', Y', C', h4, h5, h6, h7, h8⟩ := H.out
        have e : A' ++ (X' ++ (Y' ++ C')) = A' ++ (X'.take j ++ (X'.drop j ++ (Y' ++ C'))) := by
          conv => lhs; rw [← List.take_append_drop j X']
          simp only [List.append_assoc]
        rw [e] at h8
        refine (swapRange_any h8 (by omega) (by rw [List.length_drop]; omega) (by rw [List.length_take]; omega) h5 hn).mono ?_
        rintro e w' ⟨rfl, h9⟩
        refine ⟨rfl, Lib.hid ⟨A' ++ Y', X'.drop j, X'.take j, C', by rw [List.length_drop]; omega, by rw [List.length_take]; omega, by rw [List.length_append]; omega, ?_, by rw [List.append_assoc]; exact h9⟩⟩
        rw [← h7]
        conv => rhs; rw [← List.take_append_drop j X']
        simp only [List.append_assoc]
      clear H hp
      go_wp2_with (go_at_call 52; refine HC.out.mono ?_; rintro e w' ⟨rfl, H2⟩)
      go_roundg (i - j + j)
      case measure => omega
      case rel => exact ⟨i - j, j, congrArg (Value.int .i64) (by omega), rfl, by omega, by omega, by omega, by omega, by omega, H2⟩
end Go.Proofs.Ytnmmeaoapfampaa

/-
  The library's sort of a small part of a row of entries.
-/
namespace Go.Proofs.Ytnmmeaoapfampaa
open Go.RowKit

set_option maxRecDepth 100000 in
theorem cmpE_any (x y : Ent) (hx : x.fits) (hy : y.fits) (W : World) : Calls Try.prog 32 #[entV x, entV y] W fun e w' => e = .returned (.int .i64 (x.cmp y)) ∧ Below W.heap.size W w' := by
  have HC := Lib.hid (fun W' => cmp_any x.u x.s x.k y.u y.s y.k hx.1 hy.1 W')
  go_enter Try.func32, Try.ntmps32
  go_wp2_with (go_at_call 33; (refine (HC.out _).mono ?_); rintro e w1 ⟨rfl, hb⟩)
  go_ret
  exact ⟨rfl, belowT (((Below.refl _ W).alloc (Nat.le_refl _) _).alloc (by simp) _) (hb.mono (by simp))⟩

/-- A compare in a world that compares left. -/
theorem SL.compare {B cap n g : Nat} {w0 W : World} {l : List Ent} (h : SL B w0 (some ⟨g, 0, none⟩) cap n l W) {i j : Nat} (hi : i < n) (hj : j < n) (m : Nat) (os : Array Obj) :
    Calls Try.prog 32 #[entV (l.getD i Ent.none_), entV (l.getD j Ent.none_)] (shiftW W m os) fun e w'' => e = .returned (.int .i64 ((l.getD i Ent.none_).cmp (l.getD j Ent.none_))) ∧ ∃ p : ShiftBy, w'' = shiftW W p.n p.os :=
  Calls.shift_of (cmpE_any _ _ (h.fit hi) (h.fit hj) _)

set_option maxRecDepth 100000 in
theorem insertion_none (v : Value) (c : Value) (w : World) : Calls Try.prog 46 #[v, .int .i64 0, .int .i64 0, c] w fun e w' => e = .returned (.tuple #[]) ∧ w' = w := by
  go_enter Try.func46, Try.ntmps46
  go_wp2
  go_loopg [8] 0 (fun _ s8 wr => s8 = .int .i64 1 ∧ wr = w)
  case atStart => exact ⟨rfl, rfl⟩
  case round =>
    obtain ⟨rfl, rfl⟩ := hrel
    go_wp2
    go_end0
    exact ⟨rfl, rfl⟩

set_option maxRecDepth 100000 in
set_option maxHeartbeats 1000000 in
theorem insertion_any {B g cap n a b : Nat} {w0 w : World} {A X C : List Ent} (h : SL B w0 (some ⟨g, 0, none⟩) cap n (A ++ (X ++ C)) w) (ha : a = A.length) (hb : b = A.length + X.length) (hn : n ≤ 1000) :
    Calls Try.prog 46 #[.slice (some ⟨g, 0, none⟩) n cap, .int .i64 a, .int .i64 b, .func (.func 32) #[] #[]] w fun e w' => e = .returned (.tuple #[]) ∧ ∃ S, Le S ∧ Stab X S ∧ SL B w0 (some ⟨g, 0, none⟩) cap n (A ++ (S ++ C)) w' := by
  have hlen := h.len
  simp only [List.length_append] at hlen
  have hbn : b ≤ n := by omega
  have hab : a ≤ b := by omega
  have HA := Lib.hid ha
  have HB := Lib.hid hb
  have HS : Hid (∃ X1 X2 S, X = X1 ++ X2 ∧ X1.length = min (a + 1 - a) X.length ∧ Stab X1 S ∧ Le S ∧ SL B w0 (some ⟨g, 0, none⟩) cap n (A ++ (S ++ (X2 ++ C))) w) := by
    refine ⟨X.take 1, X.drop 1, X.take 1, (List.take_append_drop 1 X).symm, by rw [List.length_take]; omega, Stab.refl _, ?_, ?_⟩
    · cases X with
      | nil => exact Le.nil
      | cons x r => exact Le.one x
    · rw [← List.append_assoc (X.take 1), List.take_append_drop]
      exact h
  clear h hlen ha hb
  go_enter Try.func46, Try.ntmps46
  go_wp2
  go_loopg [8] (b - a) (fun kx s8 wr => ∃ i : Nat, s8 = .int .i64 i ∧ a + 1 ≤ i ∧ i ≤ b + 1 ∧ b + 1 - i ≤ kx + 1 ∧ Hid (∃ X1 X2 S, X = X1 ++ X2 ∧ X1.length = min (i - a) X.length ∧ Stab X1 S ∧ Le S ∧ SL B w0 (some ⟨g, 0, none⟩) cap n (A ++ (S ++ (X2 ++ C))) wr))
  case atStart => exact ⟨a + 1, by go_num, Nat.le_refl _, by omega, by omega, HS⟩
  case round =>
    clear HS
    obtain ⟨i, rfl, hai, hib, hk, H⟩ := hrel
    by_cases hlt : i < b
    · have hltz : (i : Int) < (b : Int) := by omega
      obtain ⟨X1, X2, S, hX, hX1, hst, hle, hs⟩ := H.out
      have hX1' : X1.length = i - a := by have := HA.out; have := HB.out; omega
      have hX2 : X2.length = b - i := by have := HA.out; have := HB.out; rw [hX, List.length_append] at this; omega
      obtain ⟨x, X3, rfl⟩ : ∃ x X3, X2 = x :: X3 := by
        cases X2 with
        | nil => simp at hX2; omega
        | cons x r => exact ⟨x, r, rfl⟩
      have hSl : S.length = i - a := by rw [← hst.len]; exact hX1'
      have HI : Hid (∃ S1 S2, S = S1 ++ S2 ∧ i = a + S1.length ∧ (∀ y ∈ S2, x.cmp y < 0) ∧ SL B w0 (some ⟨g, 0, none⟩) cap n (A ++ (S1 ++ (x :: (S2 ++ (X3 ++ C))))) wr) :=
        Lib.hid ⟨S, [], by simp, by omega, by simp, by simpa using hs⟩
      have HX := Lib.hid (show X = X1 ++ x :: X3 from hX)
      have HX1 := Lib.hid hX1'
      have HST := Lib.hid hst
      have HLE := Lib.hid hle
      clear H hX hX1 hX1' hX2 hst hle hs hSl
      go_wp2
      go_loopg [9] i (fun kx s9 wq => ∃ j : Nat, s9 = .int .i64 j ∧ a ≤ j ∧ j ≤ i ∧ j ≤ kx ∧ Hid (∃ S1 S2, S = S1 ++ S2 ∧ j = a + S1.length ∧ (∀ y ∈ S2, x.cmp y < 0) ∧ SL B w0 (some ⟨g, 0, none⟩) cap n (A ++ (S1 ++ (x :: (S2 ++ (X3 ++ C))))) wq))
      case atStart => exact ⟨i, rfl, by omega, Nat.le_refl _, Nat.le_refl _, HI⟩
      case round =>
        clear HI
        obtain ⟨j, rfl, haj, hji, hg2, HI⟩ := hrel
        by_cases hja : a < j
        · obtain ⟨p, rfl⟩ : ∃ p, j = p + 1 := ⟨j - 1, by omega⟩
          obtain ⟨S1, S2, hS, hj, hS2, hs⟩ := HI.out
          obtain ⟨S0, y, rfl⟩ : ∃ S0 y, S1 = S0 ++ [y] := by
            refine ⟨S1.dropLast, S1.getLast (fun e => by rw [e] at hj; simp at hj; omega), (List.dropLast_concat_getLast _).symm⟩
          obtain ⟨L, hL⟩ : ∃ L, L = A ++ (S0 ++ [y] ++ (x :: (S2 ++ (X3 ++ C)))) := ⟨_, rfl⟩
          rw [← hL] at hs
          rw [List.length_append, List.length_singleton] at hj
          have gx : L.getD (p + 1) Ent.none_ = x := by rw [hL, ← List.append_assoc]; exact getD_at (by have := HA.out; simp; omega)
          have gy : L.getD p Ent.none_ = y := by
            rw [hL, show A ++ (S0 ++ [y] ++ (x :: (S2 ++ (X3 ++ C)))) = (A ++ S0) ++ y :: (x :: (S2 ++ (X3 ++ C))) by simp]
            exact getD_at (by have := HA.out; simp; omega)
          have c0 := fun m os => ((hs.shift m os).cells (i := p + 1) (by omega)).1
          have c1 := fun m os => ((hs.shift m os).cells (i := p + 1) (by omega)).2.1
          have c2 := fun m os => ((hs.shift m os).cells (i := p + 1) (by omega)).2.2.1
          have c3 := fun m os => ((hs.shift m os).cells (i := p + 1) (by omega)).2.2.2
          have d0 := fun m os => ((hs.shift m os).cells (i := p) (by omega)).1
          have d1 := fun m os => ((hs.shift m os).cells (i := p) (by omega)).2.1
          have d2 := fun m os => ((hs.shift m os).cells (i := p) (by omega)).2.2.1
          have d3 := fun m os => ((hs.shift m os).cells (i := p) (by omega)).2.2.2
          have hc := fun m os => hs.compare (i := p + 1) (j := p) (by omega) (by omega) m os
          rw [gx] at c0 c1 c2 c3
          rw [gy] at d0 d1 d2 d3
          rw [gx, gy] at hc
          have HC := Lib.hid hc
          have HSL := Lib.hid hs
          have HSE := Lib.hid (show S = S0 ++ [y] ++ S2 from hS)
          have HJ := Lib.hid hj
          have HS2 := Lib.hid hS2
          have HL := Lib.hid hL
          have HGX := Lib.hid gx
          have HGY := Lib.hid gy
          clear hc hs hS hj hS2 hL gx gy HI
          have ja : (a : Int) < (p : Int) + 1 := by omega
          have e0 : ((p : Int) + 1).toNat = p + 1 := by omega
          have p0 : (0 : Int) ≤ (p : Int) + 1 := by omega
          have b0 : (p : Int) + 1 < (n : Int) := by omega
          have b1 : (p : Int) < (n : Int) := by omega
          have rp : IntKind.i64.wrap (p : Int) = (p : Int) := by rw [IntKind.wrap_i64]; omega
          by_cases hv : x.cmp y < 0
          · go_wp2_with fail
            refine wp_region_shift (by kernel_rfl) (by kernel_rfl) ?_
            repeat (quiet_step (exact HC.out _ _))
            refine wpQuiet_nil ?_
            intro _ hw'
            obtain ⟨⟨nq, osq⟩, hw''⟩ := hw'
            subst hw''
            have hz := HSL.out.shift nq osq
            clear c0 c1 c2 c3 d0 d1 d2 d3 HSL HC
            generalize shiftW wr nq osq = wz at hz ⊢
            obtain ⟨c0, c1, c2, c3⟩ := hz.cells (i := p + 1) (by omega)
            obtain ⟨d0, d1, d2, d3⟩ := hz.cells (i := p) (by omega)
            rw [HGX.out] at c0 c1 c2 c3
            rw [HGY.out] at d0 d1 d2 d3
            have fz : ∀ o, wz.frozen? ⟨g, o, none⟩ = false := fun o => hz.free o (i := p) (by omega)
            have S2' := hz.swap (i := p + 1) (j := p) (by omega) (by omega) HGX.out HGY.out
            have e2 : swpE L (p + 1) p = A ++ (S0 ++ (x :: (y :: S2 ++ (X3 ++ C)))) := by
              rw [HL.out, show A ++ (S0 ++ [y] ++ (x :: (S2 ++ (X3 ++ C)))) = (A ++ S0) ++ y :: ([] ++ x :: (S2 ++ (X3 ++ C))) by simp, swp_comm, swp_parts (by have := HA.out; have := HJ.out; simp; omega) (by have := HA.out; have := HJ.out; simp; omega)]
              simp
            rw [e2] at S2'
            have HSW := Lib.hid S2'
            clear hz e2 S2'
            go_wp2_with fail
            go_big_region
            go_wp2
            go_roundg p
            case measure => omega
            case rel => exact ⟨p, by go_num, by omega, by omega, Nat.le_refl _, S0, y :: S2, by rw [HSE.out]; simp, by have := HJ.out; omega, fun u hu => by (rcases List.mem_cons.1 hu with rfl | hu); exact hv; exact HS2.out u hu, HSW.out⟩
          · go_wp2_with fail
            refine wp_region_shift (by kernel_rfl) (by kernel_rfl) ?_
            repeat (quiet_step (exact HC.out _ _))
            refine wpQuiet_nil ?_
            intro _ hw'
            obtain ⟨⟨nq, osq⟩, hw''⟩ := hw'
            subst hw''
            have hz := HSL.out.shift nq osq
            clear c0 c1 c2 c3 d0 d1 d2 d3 HSL HC
            generalize shiftW wr nq osq = wz at hz ⊢
            rw [HL.out] at hz
            have HZ := Lib.hid hz
            clear hz
            go_wp2
            go_roundg (b - (i + 1))
            case measure => omega
            case rel =>
              have hle := HLE.out
              rw [HSE.out] at hle
              have hst := HST.out
              rw [HSE.out] at hst
              refine ⟨i + 1, by go_num, by omega, by omega, by omega, X1 ++ [x], X3, S0 ++ [y] ++ x :: S2, by rw [HX.out]; simp, ?_, ins_stab hst HS2.out, ins_le hle (fun u hu => cmp_le_trans (hle.left.le_last u hu) (cmp_ge (by omega))) HS2.out, ?_⟩
              · have h1 := HX1.out
                have h2 := congrArg List.length HX.out
                simp only [List.length_append, List.length_cons, List.length_nil] at h2 ⊢
                omega
              · have := HZ.out
                simpa using this
        · have hja' : ¬ (a : Int) < (j : Int) := by omega
          have HZ : Hid (∃ S2, S = S2 ∧ (∀ y ∈ S2, x.cmp y < 0) ∧ SL B w0 (some ⟨g, 0, none⟩) cap n (A ++ (x :: (S2 ++ (X3 ++ C)))) wr.drew) := by
            obtain ⟨S1, S2, h1, h2, h3, h4⟩ := HI.out
            obtain rfl : S1 = [] := List.eq_nil_of_length_eq_zero (by omega)
            exact Lib.hid ⟨S2, h1, h3, h4.drew⟩
          clear HI
          go_wp2_with fail
          go_big_region
          go_wp2
          go_roundg (b - (i + 1))
          case measure => omega
          case rel =>
            obtain ⟨S2, rfl, h3, h4⟩ := HZ.out
            refine ⟨i + 1, by go_num, by omega, by omega, by omega, X1 ++ [x], X3, x :: S, by rw [HX.out]; simp, ?_, ins_stab (A := []) HST.out h3, ins_le (A := []) HLE.out (fun u hu => by cases hu) h3, ?_⟩
            · have h1 := HX1.out
              have h2 := congrArg List.length HX.out
              simp only [List.length_append, List.length_cons, List.length_nil] at h2 ⊢
              omega
            · simpa using h4
    · have hltz : ¬ (i : Int) < (b : Int) := by omega
      go_wp2
      go_end0
      obtain ⟨X1, X2, S, h1, h2, h3, h4, h5⟩ := H.out
      have h6 := congrArg List.length h1
      simp only [List.length_append] at h6
      obtain rfl : X2 = [] := List.eq_nil_of_length_eq_zero (by have := HA.out; have := HB.out; omega)
      rw [List.append_nil] at h1
      subst h1
      exact ⟨rfl, S, h4, h3, by simpa using h5⟩
end Go.Proofs.Ytnmmeaoapfampaa

/-
  The library's merge of two parts that are in order, in place: of the first there is one.
-/
namespace Go.Proofs.Ytnmmeaoapfampaa
open Go.RowKit

theorem take_all {Y : List Ent} {p : Nat} {Q : Ent → Prop} (h : ∀ t, t < p → t < Y.length → Q (Y.getD t Ent.none_)) : ∀ y ∈ Y.take p, Q y := by
  intro y hy
  obtain ⟨t, ht, rfl⟩ := List.mem_iff_getElem.1 hy
  rw [List.length_take] at ht
  have := h t (by omega) (by omega)
  rw [List.getElem_take]
  simpa [List.getD, show t < Y.length by omega] using this
theorem drop_all {Y : List Ent} {p : Nat} {Q : Ent → Prop} (h : ∀ t, p ≤ t → t < Y.length → Q (Y.getD t Ent.none_)) : ∀ y ∈ Y.drop p, Q y := by
  intro y hy
  obtain ⟨t, ht, rfl⟩ := List.mem_iff_getElem.1 hy
  rw [List.length_drop] at ht
  have := h (p + t) (by omega) (by omega)
  rw [List.getElem_drop]
  simpa [List.getD, show p + t < Y.length by omega] using this
theorem le_at' {l : List Ent} (h : Le l) {i j : Nat} (hij : i ≤ j) (hj : j < l.length) : (l.getD i Ent.none_).cmp (l.getD j Ent.none_) ≤ 0 := by
  rcases Nat.lt_or_ge i j with h1 | h1
  · exact le_at h h1 hj
  · obtain rfl : i = j := by omega
    rw [cmp_self]; omega

set_option maxRecDepth 100000 in
set_option maxHeartbeats 1000000 in
theorem sym_one {B g cap n a m b : Nat} {w0 w : World} {A Y C : List Ent} {x : Ent} (h : SL B w0 (some ⟨g, 0, none⟩) cap n (A ++ (x :: (Y ++ C))) w) (ha : a = A.length) (hm : m = a + 1) (hb : b = m + Y.length) (hY : Le Y) (hn : n ≤ 1000) :
    Calls Try.prog 47 #[.slice (some ⟨g, 0, none⟩) n cap, .int .i64 a, .int .i64 m, .int .i64 b, .func (.func 32) #[] #[]] w fun e w' => e = .returned (.tuple #[]) ∧ ∃ Z, Le Z ∧ Stab (x :: Y) Z ∧ SL B w0 (some ⟨g, 0, none⟩) cap n (A ++ (Z ++ C)) w' := by
  have hlen := h.len
  simp only [List.length_append, List.length_cons] at hlen
  have hbn : b ≤ n := by omega
  have ham : a < m := by omega
  have hmb : m ≤ b := by omega
  have hma : (m : Int) - (a : Int) = 1 := by omega
  obtain ⟨L, hL⟩ : ∃ L, L = A ++ (x :: (Y ++ C)) := ⟨_, rfl⟩
  rw [← hL] at h
  have HL := Lib.hid hL
  have HS := Lib.hid h
  have HA := Lib.hid ha
  have HM := Lib.hid hm
  have HB := Lib.hid hb
  have HY := Lib.hid hY
  clear hlen hL h ha hm hb hY
  go_enter Try.func47, Try.ntmps47
  go_wp2
  go_loopg [10, 11] (b - m) (fun kx s10 s11 wr => ∃ i j : Nat, s10 = .int .i64 i ∧ s11 = .int .i64 j ∧ m ≤ i ∧ i ≤ j ∧ j ≤ b ∧ j - i ≤ kx ∧ Hid ((∀ t, t + m < i → t < Y.length → (Y.getD t Ent.none_).cmp x < 0) ∧ (∀ t, j ≤ t + m → t < Y.length → 0 ≤ (Y.getD t Ent.none_).cmp x)) ∧ Hid (SL B w0 (some ⟨g, 0, none⟩) cap n (L) wr))
  case atStart => exact ⟨m, b, rfl, rfl, Nat.le_refl _, hmb, Nat.le_refl _, Nat.le_refl _, Lib.hid ⟨fun t h _ => by omega, fun t h1 h2 => by have := HB.out; omega⟩, HS⟩
  case round =>
    clear HS
    obtain ⟨i, j, rfl, rfl, hmi, hij, hjb, hk, HI, HS⟩ := hrel
    by_cases hlt : i < j
    · have hltz : (i : Int) < (j : Int) := by omega
      obtain ⟨h, hh⟩ : ∃ h : Nat, h = (i + j) / 2 := ⟨_, rfl⟩
      have h1 : i ≤ h := by omega
      have h2 : h < j := by omega
      have hhz : ((i : Int) + (j : Int)) / 2 = (h : Int) := by omega
      have hhn : (h : Int) < (n : Int) := by omega
      have han : (a : Int) < (n : Int) := by omega
      clear hh
      obtain ⟨y, hy⟩ : ∃ y, Y.getD (h - m) Ent.none_ = y := ⟨_, rfl⟩
      have gx : L.getD h Ent.none_ = y := by
        have := HA.out; have := HM.out; have := HB.out
        rw [HL.out, show A ++ (x :: (Y ++ C)) = (A ++ [x]) ++ (Y ++ C) by simp, getD_right (by simp; omega), getD_left (by simp; omega), ← hy]
        congr 1
        simp; omega
      have gy : L.getD a Ent.none_ = x := by rw [HL.out]; exact getD_at HA.out
      have hs := HS.out
      have c0 := fun z_ os => ((hs.shift z_ os).cells (i := h) (by omega)).1
      have c1 := fun z_ os => ((hs.shift z_ os).cells (i := h) (by omega)).2.1
      have c2 := fun z_ os => ((hs.shift z_ os).cells (i := h) (by omega)).2.2.1
      have c3 := fun z_ os => ((hs.shift z_ os).cells (i := h) (by omega)).2.2.2
      have d0 := fun z_ os => ((hs.shift z_ os).cells (i := a) (by omega)).1
      have d1 := fun z_ os => ((hs.shift z_ os).cells (i := a) (by omega)).2.1
      have d2 := fun z_ os => ((hs.shift z_ os).cells (i := a) (by omega)).2.2.1
      have d3 := fun z_ os => ((hs.shift z_ os).cells (i := a) (by omega)).2.2.2
      have hc := fun z_ os => hs.compare (i := h) (j := a) (by omega) (by omega) z_ os
      rw [gx] at c0 c1 c2 c3
      rw [gy] at d0 d1 d2 d3
      rw [gx, gy] at hc
      have HC := Lib.hid hc
      clear hc
      have HYY := Lib.hid hy
      clear hs gx gy hy
      by_cases hv : y.cmp x < 0
      · have HV := Lib.hid hv
        go_wp2_with fail
        refine wp_region_shift (by kernel_rfl) (by kernel_rfl) ?_
        repeat (quiet_step (exact HC.out _ _))
        refine wpQuiet_nil ?_
        intro _ hw'
        obtain ⟨⟨nq, osq⟩, hw''⟩ := hw'
        subst hw''
        have hz := HS.out.shift nq osq
        clear c0 c1 c2 c3 d0 d1 d2 d3 HC
        generalize shiftW wr nq osq = wz at hz ⊢
        have HZ := Lib.hid hz
        clear hz
        go_wp2
        go_roundg (j - (h + 1))
        case measure => omega
        case rel =>
          refine ⟨h + 1, j, by go_num, rfl, by omega, by omega, hjb, Nat.le_refl _, Lib.hid ⟨fun t ht htl => ?_, HI.out.2⟩, HZ⟩
          have := le_at' HY.out (i := t) (j := h - m) (by omega) (by have := HB.out; omega)
          rw [HYY.out] at this
          exact cmp_le_lt this HV.out
      · have HV := Lib.hid hv
        go_wp2_with fail
        refine wp_region_shift (by kernel_rfl) (by kernel_rfl) ?_
        repeat (quiet_step (exact HC.out _ _))
        refine wpQuiet_nil ?_
        intro _ hw'
        obtain ⟨⟨nq, osq⟩, hw''⟩ := hw'
        subst hw''
        have hz := HS.out.shift nq osq
        clear c0 c1 c2 c3 d0 d1 d2 d3 HC
        generalize shiftW wr nq osq = wz at hz ⊢
        have HZ := Lib.hid hz
        clear hz
        go_wp2
        go_roundg (h - i)
        case measure => omega
        case rel =>
          refine ⟨i, h, rfl, rfl, hmi, h1, by omega, Nat.le_refl _, Lib.hid ⟨HI.out.1, fun t ht htl => Int.not_lt.1 fun hlt' => ?_⟩, HZ⟩
          have h9 := le_at' HY.out (i := h - m) (j := t) (by omega) htl
          rw [HYY.out] at h9
          have h10 := cmp_le_lt h9 hlt'
          have := HV.out
          omega
    · have hltz : ¬ (i : Int) < (j : Int) := by omega
      obtain rfl : j = i := by omega
      obtain ⟨p, hp⟩ : ∃ p, j = m + p := ⟨j - m, by omega⟩
      have hpz : (j : Int) - 1 = ((a + p : Nat) : Int) := by have := HM.out; omega
      have HP := Lib.hid hp
      have hpl : p ≤ Y.length := by have := HB.out; omega
      have hap : a + p < n := by have := HM.out; omega
      have H1 : Hid (∀ y ∈ Y.take p, y.cmp x < 0) := Lib.hid (take_all fun t ht htl => HI.out.1 t (by omega) htl)
      have H2 : Hid (∀ y ∈ Y.drop p, 0 ≤ y.cmp x) := Lib.hid (drop_all fun t ht htl => HI.out.2 t (by omega) htl)
      have HT : Hid (∃ Y1 Y2, Y.take p = Y1 ++ Y2 ∧ a = a + Y1.length ∧ SL B w0 (some ⟨g, 0, none⟩) cap n (A ++ (Y1 ++ (x :: (Y2 ++ (Y.drop p ++ C))))) wr) := by
        refine Lib.hid ⟨[], Y.take p, rfl, by simp, ?_⟩
        have := HS.out
        rw [HL.out] at this
        rw [List.nil_append, ← List.append_assoc (Y.take p), List.take_append_drop]
        exact this
      obtain ⟨u, hu⟩ : ∃ u, u = a + p := ⟨_, rfl⟩
      rw [← hu] at hpz hap
      have HU := Lib.hid hu
      have hau : a ≤ u := by omega
      clear hp HI HS hu
      go_wp2
      go_loopg [13] p (fun kx s13 wr => ∃ k : Nat, s13 = .int .i64 k ∧ a ≤ k ∧ k ≤ u ∧ u - k ≤ kx ∧ Hid (∃ Y1 Y2, Y.take p = Y1 ++ Y2 ∧ k = a + Y1.length ∧ SL B w0 (some ⟨g, 0, none⟩) cap n (A ++ (Y1 ++ (x :: (Y2 ++ (Y.drop p ++ C))))) wr))
      case atStart => exact ⟨a, rfl, Nat.le_refl _, hau, by have := HU.out; omega, HT⟩
      case round =>
        clear HT
        obtain ⟨k, rfl, hak, hku, hkk, HT⟩ := hrel
        by_cases hlk : k < u
        · have hlkz : (k : Int) < (u : Int) := by omega
          obtain ⟨Y1, Y2, hy1, hk1, hs⟩ := HT.out
          have hl := congrArg List.length hy1
          simp only [List.length_take, List.length_append] at hl
          obtain ⟨y, Y3, rfl⟩ : ∃ y Y3, Y2 = y :: Y3 := by
            cases Y2 with
            | nil => exfalso; have := HU.out; simp at hl; omega
            | cons y r => exact ⟨y, r, rfl⟩
          have eA : A ++ (Y1 ++ (x :: (y :: Y3 ++ (Y.drop p ++ C)))) = (A ++ Y1) ++ x :: ([] ++ y :: (Y3 ++ (Y.drop p ++ C))) := by simp
          rw [eA] at hs
          have hk2 : k = (A ++ Y1).length := by have := HA.out; simp; omega
          have gx : ((A ++ Y1) ++ x :: ([] ++ y :: (Y3 ++ (Y.drop p ++ C)))).getD k Ent.none_ = x := getD_at hk2
          have gy : ((A ++ Y1) ++ x :: ([] ++ y :: (Y3 ++ (Y.drop p ++ C)))).getD (k + 1) Ent.none_ = y := by
            rw [show (A ++ Y1) ++ x :: ([] ++ y :: (Y3 ++ (Y.drop p ++ C))) = ((A ++ Y1) ++ [x]) ++ y :: (Y3 ++ (Y.drop p ++ C)) by simp]
            exact getD_at (by simp only [List.length_append, List.length_singleton] at hk2 ⊢; omega)
          obtain ⟨c0, c1, c2, c3⟩ := hs.cells (i := k) (by omega)
          obtain ⟨d0, d1, d2, d3⟩ := hs.cells (i := k + 1) (by omega)
          have S2 := hs.swap (i := k) (j := k + 1) (by omega) (by omega) gx gy
          have fz : ∀ o, wr.frozen? ⟨g, o, none⟩ = false := fun o => hs.free o (i := k) (by omega)
          rw [gx] at c0 c1 c2 c3
          rw [gy] at d0 d1 d2 d3
          rw [swp_parts hk2 (by rw [← hk2]; simp)] at S2
          have HSW := Lib.hid S2
          clear S2
          have HY1 := Lib.hid hy1
          have HK1 := Lib.hid hk1
          clear HT hs hy1 hk1 hl eA hk2 gx gy
          have ek : ((k : Int) + 1).toNat = k + 1 := by omega
          have pk : (0 : Int) ≤ (k : Int) + 1 := by omega
          have bk : (k : Int) + 1 < (n : Int) := by omega
          have bk0 : (k : Int) < (n : Int) := by omega
          have rk : IntKind.i64.wrap ((k : Int) + 1) = (k : Int) + 1 := by rw [IntKind.wrap_i64]; omega
          go_wp2_with fail
          go_big_region
          go_wp2
          go_roundg (u - (k + 1))
          case measure => omega
          case rel => exact ⟨k + 1, by go_num, by omega, by omega, Nat.le_refl _, Y1 ++ [y], Y3, by rw [HY1.out]; simp, by have := HK1.out; simp; omega, by simpa using HSW.out⟩
        · have hlkz : ¬ (k : Int) < (u : Int) := by omega
          go_wp2
          refine bodyPost_ret (results_none rfl _ _ _) rfl ?_
          obtain ⟨Y1, Y2, hy1, hk1, hs⟩ := HT.out
          have hl := congrArg List.length hy1
          simp only [List.length_take, List.length_append] at hl
          obtain rfl : Y2 = [] := List.eq_nil_of_length_eq_zero (by have := HU.out; omega)
          rw [List.append_nil] at hy1
          subst hy1
          refine ⟨rfl, Y.take p ++ x :: Y.drop p, ins_le' (by rw [List.take_append_drop]; exact HY.out) H1.out (fun v hv => cmp_ge (by have := H2.out v hv; omega)), ?_, by simpa using hs⟩
          have := ins_stab' (B := Y.drop p) H1.out
          rwa [List.take_append_drop] at this
end Go.Proofs.Ytnmmeaoapfampaa

/-
  The library's merge of two parts that are in order, in place: of the second there is one.
-/
namespace Go.Proofs.Ytnmmeaoapfampaa
open Go.RowKit

set_option maxRecDepth 100000 in
set_option maxHeartbeats 1000000 in
theorem sym_two {B g cap n a m b : Nat} {w0 w : World} {A X C : List Ent} {y : Ent} (h : SL B w0 (some ⟨g, 0, none⟩) cap n (A ++ (X ++ (y :: C))) w) (ha : a = A.length) (hm : m = a + X.length) (hb : b = m + 1) (hX : Le X) (h2 : 2 ≤ X.length) (hn : n ≤ 1000) :
    Calls Try.prog 47 #[.slice (some ⟨g, 0, none⟩) n cap, .int .i64 a, .int .i64 m, .int .i64 b, .func (.func 32) #[] #[]] w fun e w' => e = .returned (.tuple #[]) ∧ ∃ Z, Le Z ∧ Stab (X ++ [y]) Z ∧ SL B w0 (some ⟨g, 0, none⟩) cap n (A ++ (Z ++ C)) w' := by
  have hlen := h.len
  simp only [List.length_append, List.length_cons] at hlen
  have hmn : m < n := by omega
  have ham : a ≤ m := by omega
  obtain ⟨d, hd⟩ : ∃ d, d = m - a := ⟨_, rfl⟩
  have hma : (m : Int) - (a : Int) = (d : Int) := by omega
  have hd1 : ((d : Int) == 1) = false := by simp; omega
  have hbm : (b : Int) - (m : Int) = 1 := by omega
  obtain ⟨L, hL⟩ : ∃ L, L = A ++ (X ++ (y :: C)) := ⟨_, rfl⟩
  rw [← hL] at h
  have HL := Lib.hid hL
  have HS := Lib.hid h
  have HA := Lib.hid ha
  have HM := Lib.hid hm
  have HX := Lib.hid hX
  clear hlen hL h ha hm hb hX hd h2
  go_enter Try.func47, Try.ntmps47
  go_wp2
  go_loopg [14, 15] (m - a) (fun kx s14 s15 wr => ∃ i j : Nat, s14 = .int .i64 i ∧ s15 = .int .i64 j ∧ a ≤ i ∧ i ≤ j ∧ j ≤ m ∧ j - i ≤ kx ∧ Hid ((∀ t, t + a < i → t < X.length → 0 ≤ y.cmp (X.getD t Ent.none_)) ∧ (∀ t, j ≤ t + a → t < X.length → y.cmp (X.getD t Ent.none_) < 0)) ∧ Hid (SL B w0 (some ⟨g, 0, none⟩) cap n (L) wr))
  case atStart => exact ⟨a, m, rfl, rfl, Nat.le_refl _, ham, Nat.le_refl _, Nat.le_refl _, Lib.hid ⟨fun t h _ => by omega, fun t h1 h2 => by have := HM.out; omega⟩, HS⟩
  case round =>
    clear HS
    obtain ⟨i, j, rfl, rfl, hai, hij, hjm, hk, HI, HS⟩ := hrel
    by_cases hlt : i < j
    · have hltz : (i : Int) < (j : Int) := by omega
      obtain ⟨h, hh⟩ : ∃ h : Nat, h = (i + j) / 2 := ⟨_, rfl⟩
      have h1 : i ≤ h := by omega
      have h2 : h < j := by omega
      have hhz : ((i : Int) + (j : Int)) / 2 = (h : Int) := by omega
      have hhn : (h : Int) < (n : Int) := by omega
      have hmz : (m : Int) < (n : Int) := by omega
      clear hh
      obtain ⟨x, hx⟩ : ∃ x, X.getD (h - a) Ent.none_ = x := ⟨_, rfl⟩
      have gy : L.getD h Ent.none_ = x := by
        have := HA.out; have := HM.out
        rw [HL.out, getD_right (by omega), getD_left (by omega), ← hx, HA.out]
      have gx : L.getD m Ent.none_ = y := by
        rw [HL.out, ← List.append_assoc]
        exact getD_at (by have := HA.out; have := HM.out; simp; omega)
      have hs := HS.out
      have c0 := fun z_ os => ((hs.shift z_ os).cells (i := m) (by omega)).1
      have c1 := fun z_ os => ((hs.shift z_ os).cells (i := m) (by omega)).2.1
      have c2 := fun z_ os => ((hs.shift z_ os).cells (i := m) (by omega)).2.2.1
      have c3 := fun z_ os => ((hs.shift z_ os).cells (i := m) (by omega)).2.2.2
      have d0 := fun z_ os => ((hs.shift z_ os).cells (i := h) (by omega)).1
      have d1 := fun z_ os => ((hs.shift z_ os).cells (i := h) (by omega)).2.1
      have d2 := fun z_ os => ((hs.shift z_ os).cells (i := h) (by omega)).2.2.1
      have d3 := fun z_ os => ((hs.shift z_ os).cells (i := h) (by omega)).2.2.2
      have hc := fun z_ os => hs.compare (i := m) (j := h) (by omega) (by omega) z_ os
      rw [gx] at c0 c1 c2 c3
      rw [gy] at d0 d1 d2 d3
      rw [gx, gy] at hc
      have HC := Lib.hid hc
      clear hc
      have HXX := Lib.hid hx
      clear hs gx gy hx
      by_cases hv : y.cmp x < 0
      · have HV := Lib.hid hv
        have hv2 : (!decide (y.cmp x < 0)) = false := by simp; omega
        go_wp2_with fail
        refine wp_region_shift (by kernel_rfl) (by kernel_rfl) ?_
        repeat (quiet_step (exact HC.out _ _))
        refine wpQuiet_nil ?_
        intro _ hw'
        obtain ⟨⟨nq, osq⟩, hw''⟩ := hw'
        subst hw''
        have hz := HS.out.shift nq osq
        clear c0 c1 c2 c3 d0 d1 d2 d3 HC
        generalize shiftW wr nq osq = wz at hz ⊢
        have HZ := Lib.hid hz
        clear hz
        go_wp2
        go_roundg (h - i)
        case measure => omega
        case rel =>
          refine ⟨i, h, rfl, rfl, hai, h1, by omega, Nat.le_refl _, Lib.hid ⟨HI.out.1, fun t ht htl => ?_⟩, HZ⟩
          have h9 := le_at' HX.out (i := h - a) (j := t) (by omega) htl
          rw [HXX.out] at h9
          exact cmp_lt_le HV.out h9
      · have HV := Lib.hid hv
        have hv2 : (!decide (y.cmp x < 0)) = true := by simp; omega
        go_wp2_with fail
        refine wp_region_shift (by kernel_rfl) (by kernel_rfl) ?_
        repeat (quiet_step (exact HC.out _ _))
        refine wpQuiet_nil ?_
        intro _ hw'
        obtain ⟨⟨nq, osq⟩, hw''⟩ := hw'
        subst hw''
        have hz := HS.out.shift nq osq
        clear c0 c1 c2 c3 d0 d1 d2 d3 HC
        generalize shiftW wr nq osq = wz at hz ⊢
        have HZ := Lib.hid hz
        clear hz
        go_wp2
        go_roundg (j - (h + 1))
        case measure => omega
        case rel =>
          refine ⟨h + 1, j, by go_num, rfl, by omega, by omega, hjm, Nat.le_refl _, Lib.hid ⟨fun t ht htl => Int.not_lt.1 fun hlt' => ?_, HI.out.2⟩, HZ⟩
          have h9 := le_at' HX.out (i := t) (j := h - a) (by omega) (by have := HM.out; omega)
          rw [HXX.out] at h9
          have h10 := cmp_lt_le hlt' h9
          have := HV.out
          omega
    · have hltz : ¬ (i : Int) < (j : Int) := by omega
      obtain rfl : j = i := by omega
      obtain ⟨p, hp⟩ : ∃ p, j = a + p := ⟨j - a, by omega⟩
      have HP := Lib.hid hp
      have hpl : p ≤ X.length := by have := HM.out; omega
      have H1 : Hid (∀ v ∈ X.take p, 0 ≤ y.cmp v) := Lib.hid (take_all fun t ht htl => HI.out.1 t (by omega) htl)
      have H2 : Hid (∀ v ∈ X.drop p, y.cmp v < 0) := Lib.hid (drop_all fun t ht htl => HI.out.2 t (by omega) htl)
      have HT : Hid (∃ X2 X3, X.drop p = X2 ++ X3 ∧ m = j + X2.length ∧ SL B w0 (some ⟨g, 0, none⟩) cap n (A ++ (X.take p ++ (X2 ++ (y :: (X3 ++ C))))) wr) := by
        refine Lib.hid ⟨X.drop p, [], by simp, by rw [List.length_drop]; have := HM.out; omega, ?_⟩
        have := HS.out
        rw [HL.out] at this
        rw [List.nil_append, ← List.append_assoc (X.take p), List.take_append_drop]
        exact this
      clear hp HI HS
      go_wp2
      go_loopg [17] (m - j) (fun kx s17 wr => ∃ k : Nat, s17 = .int .i64 k ∧ j ≤ k ∧ k ≤ m ∧ k - j ≤ kx ∧ Hid (∃ X2 X3, X.drop p = X2 ++ X3 ∧ k = j + X2.length ∧ SL B w0 (some ⟨g, 0, none⟩) cap n (A ++ (X.take p ++ (X2 ++ (y :: (X3 ++ C))))) wr))
      case atStart => exact ⟨m, rfl, hjm, Nat.le_refl _, Nat.le_refl _, HT⟩
      case round =>
        clear HT
        obtain ⟨k, rfl, hjk, hkm, hkk, HT⟩ := hrel
        by_cases hlk : j < k
        · obtain ⟨q, rfl⟩ : ∃ q, k = q + 1 := ⟨k - 1, by omega⟩
          have hlkz : (j : Int) < (q : Int) + 1 := by omega
          obtain ⟨X2, X3, hx1, hk1, hs⟩ := HT.out
          obtain ⟨X4, x, rfl⟩ : ∃ X4 x, X2 = X4 ++ [x] := by
            refine ⟨X2.dropLast, X2.getLast (fun e => by rw [e] at hk1; simp at hk1; omega), (List.dropLast_concat_getLast _).symm⟩
          have eA : A ++ (X.take p ++ (X4 ++ [x] ++ (y :: (X3 ++ C)))) = (A ++ X.take p ++ X4) ++ x :: ([] ++ y :: (X3 ++ C)) := by simp
          rw [eA] at hs
          rw [List.length_append, List.length_singleton] at hk1
          have hk2 : q = (A ++ X.take p ++ X4).length := by have := HA.out; have := HP.out; simp; omega
          have gy : ((A ++ X.take p ++ X4) ++ x :: ([] ++ y :: (X3 ++ C))).getD q Ent.none_ = x := getD_at hk2
          have gx : ((A ++ X.take p ++ X4) ++ x :: ([] ++ y :: (X3 ++ C))).getD (q + 1) Ent.none_ = y := by
            rw [show (A ++ X.take p ++ X4) ++ x :: ([] ++ y :: (X3 ++ C)) = ((A ++ X.take p ++ X4) ++ [x]) ++ y :: (X3 ++ C) by simp]
            exact getD_at (by rw [List.length_append, ← hk2, List.length_singleton])
          obtain ⟨c0, c1, c2, c3⟩ := hs.cells (i := q + 1) (by omega)
          obtain ⟨d0, d1, d2, d3⟩ := hs.cells (i := q) (by omega)
          have S2 := hs.swap (i := q + 1) (j := q) (by omega) (by omega) gx gy
          have fz : ∀ o, wr.frozen? ⟨g, o, none⟩ = false := fun o => hs.free o (i := q + 1) (by omega)
          rw [gx] at c0 c1 c2 c3
          rw [gy] at d0 d1 d2 d3
          rw [swp_comm, swp_parts hk2 (by rw [← hk2]; simp)] at S2
          have HSW := Lib.hid S2
          clear S2
          have HX1 := Lib.hid hx1
          have HK1 := Lib.hid hk1
          clear HT hs hx1 hk1 eA hk2 gx gy
          have ek : ((q : Int) + 1).toNat = q + 1 := by omega
          have pk : (0 : Int) ≤ (q : Int) + 1 := by omega
          have bk : (q : Int) + 1 < (n : Int) := by omega
          have bk0 : (q : Int) < (n : Int) := by omega
          have rk : IntKind.i64.wrap (q : Int) = (q : Int) := by rw [IntKind.wrap_i64]; omega
          go_wp2_with fail
          go_big_region
          go_wp2
          go_roundg (q - j)
          case measure => omega
          case rel => exact ⟨q, by go_num, by omega, by omega, Nat.le_refl _, X4, x :: X3, by rw [HX1.out]; simp, by have := HK1.out; omega, by simpa using HSW.out⟩
        · have hlkz : ¬ (j : Int) < (k : Int) := by omega
          go_wp2
          refine bodyPost_ret (results_none rfl _ _ _) rfl ?_
          obtain ⟨X2, X3, hx1, hk1, hs⟩ := HT.out
          obtain rfl : X2 = [] := List.eq_nil_of_length_eq_zero (by omega)
          rw [List.nil_append] at hx1
          subst hx1
          refine ⟨rfl, X.take p ++ y :: X.drop p, ins_le (by rw [List.take_append_drop]; exact HX.out) (fun v hv => cmp_ge (by have := H1.out v hv; omega)) H2.out, ?_, by simpa using hs⟩
          exact ins_stab (by rw [List.take_append_drop]; exact Stab.refl _) H2.out
end Go.Proofs.Ytnmmeaoapfampaa

/-
  The library's merge of two parts that are in order, in place: the middle.
-/
namespace Go.Proofs.Ytnmmeaoapfampaa
open Go.RowKit

/-- What the merge does at parts of no more than 'K' entries. -/
def SymTo (B g cap n : Nat) (w0 : World) (K : Nat) : Prop :=
  ∀ (A X Y C : List Ent) (a m b : Nat) (w : World), SL B w0 (some ⟨g, 0, none⟩) cap n (A ++ (X ++ (Y ++ C))) w → a = A.length → m = a + X.length → b = m + Y.length → Le X → Le Y → 1 ≤ X.length → 1 ≤ Y.length → X.length + Y.length ≤ K →
    Calls Try.prog 47 #[.slice (some ⟨g, 0, none⟩) n cap, .int .i64 a, .int .i64 m, .int .i64 b, .func (.func 32) #[] #[]] w fun e w' => e = .returned (.tuple #[]) ∧ ∃ Z, Le Z ∧ Stab (X ++ Y) Z ∧ SL B w0 (some ⟨g, 0, none⟩) cap n (A ++ (Z ++ C)) w'

/-- What the search for the middle finds. -/
structure Mid (L X Y : List Ent) (a m b d q p s0 r0 : Nat) : Prop where
  hd : d = (a + b) / 2
  hq : q = d + m
  hp : p + 1 = q
  ham : a + 2 ≤ m
  hmb : m + 2 ≤ b
  lX : m = a + X.length
  lY : b = m + Y.length
  lx : ∀ t, t < X.length → L.getD (a + t) Ent.none_ = X.getD t Ent.none_
  ly : ∀ t, t < Y.length → L.getD (m + t) Ent.none_ = Y.getD t Ent.none_
  LX : ∀ c c', a ≤ c → c ≤ c' → c' < m → (L.getD c Ent.none_).cmp (L.getD c' Ent.none_) ≤ 0
  LY : ∀ c c', m ≤ c → c ≤ c' → c' < b → (L.getD c Ent.none_).cmp (L.getD c' Ent.none_) ≤ 0
  s0a : a ≤ s0
  sr : s0 ≤ r0
  r0m : r0 ≤ m
  hrq : r0 + m ≤ q
  hqs : q ≤ s0 + b
  sw : s0 = a ∨ q = s0 + b
  rw_ : r0 = m ∨ q = r0 + m
/-- Where the search stands. -/
def Found (L : List Ent) (p s0 r0 s r : Nat) : Prop := s0 ≤ s ∧ r ≤ r0 ∧ (∀ c, s0 ≤ c → c < s → (L.getD c Ent.none_).cmp (L.getD (p - c) Ent.none_) ≤ 0) ∧ (∀ c, r ≤ c → c < r0 → (L.getD (p - c) Ent.none_).cmp (L.getD c Ent.none_) < 0)
section
variable {L X Y : List Ent} {a m b d q p s0 r0 s r h : Nat}
theorem Mid.start (_ : Mid L X Y a m b d q p s0 r0) : Found L p s0 r0 s0 r0 := ⟨Nat.le_refl _, Nat.le_refl _, fun c h1 h2 => by omega, fun c h1 h2 => by omega⟩
theorem Mid.low (M : Mid L X Y a m b d q p s0 r0) (F : Found L p s0 r0 s r) (h1 : s ≤ h) (h2 : h < r) (hv : (L.getD (p - h) Ent.none_).cmp (L.getD h Ent.none_) < 0) : Found L p s0 r0 s h := by
  obtain ⟨f1, f2, f3, f4⟩ := F
  have := M.hp; have := M.r0m; have := M.hrq; have := M.hqs; have := M.s0a
  refine ⟨f1, by omega, f3, fun c c1 c2 => ?_⟩
  exact cmp_le_lt (M.LY (p - c) (p - h) (by omega) (by omega) (by omega)) (cmp_lt_le hv (M.LX h c (by omega) c1 (by omega)))
theorem Mid.high (M : Mid L X Y a m b d q p s0 r0) (F : Found L p s0 r0 s r) (h1 : s ≤ h) (h2 : h < r) (hv : ¬ (L.getD (p - h) Ent.none_).cmp (L.getD h Ent.none_) < 0) : Found L p s0 r0 (h + 1) r := by
  obtain ⟨f1, f2, f3, f4⟩ := F
  have := M.hp; have := M.r0m; have := M.hrq; have := M.hqs; have := M.s0a
  refine ⟨by omega, f2, fun c c1 c2 => ?_, f4⟩
  exact cmp_le_trans (M.LX c h (by omega) (by omega) (by omega)) (cmp_le_trans (cmp_ge hv) (M.LY (p - h) (p - c) (by omega) (by omega) (by omega)))
/-- The four parts. -/
theorem Mid.parts (M : Mid L X Y a m b d q p s0 r0) (F : Found L p s0 r0 s s) : ∃ x1 x2 y1 y2, X = x1 ++ x2 ∧ Y = y1 ++ y2 ∧ s = a + x1.length ∧ m = s + x2.length ∧ q - s = m + y1.length ∧ b = q - s + y2.length ∧ d = s + y1.length ∧ s ≤ q ∧
    (∀ u ∈ x1, ∀ v ∈ y2, u.cmp v ≤ 0) ∧ (∀ u ∈ y1, ∀ v ∈ x2, u.cmp v < 0) := by
  obtain ⟨f1, f2, f3, f4⟩ := F
  have := M.hp; have := M.r0m; have := M.hrq; have := M.hqs; have := M.s0a; have := M.sw; have := M.rw_; have := M.hq; have := M.lX; have := M.lY; have := M.hd; have := M.ham; have := M.hmb
  refine ⟨X.take (s - a), X.drop (s - a), Y.take (q - s - m), Y.drop (q - s - m), (List.take_append_drop _ _).symm, (List.take_append_drop _ _).symm, by rw [List.length_take]; omega, by rw [List.length_drop]; omega, by rw [List.length_take]; omega, by rw [List.length_drop]; omega, by rw [List.length_take]; omega, by omega, ?_, ?_⟩
  · refine take_all (Q := fun u => ∀ v ∈ Y.drop (q - s - m), u.cmp v ≤ 0) fun t ht htl => drop_all (Q := fun v => (X.getD t Ent.none_).cmp v ≤ 0) fun t' ht' htl' => ?_
    have h1 := f3 (s - 1) (by omega) (by omega)
    have h2 := M.LX (a + t) (s - 1) (by omega) (by omega) (by omega)
    have h3 := M.LY (p - (s - 1)) (m + t') (by omega) (by omega) (by omega)
    rw [M.lx t htl] at h2
    rw [M.ly t' htl'] at h3
    exact cmp_le_trans h2 (cmp_le_trans h1 h3)
  · refine take_all (Q := fun u => ∀ v ∈ X.drop (s - a), u.cmp v < 0) fun t ht htl => drop_all (Q := fun v => (Y.getD t Ent.none_).cmp v < 0) fun t' ht' htl' => ?_
    have h1 := f4 s (by omega) (by omega)
    have h2 := M.LY (m + t) (p - s) (by omega) (by omega) (by omega)
    have h3 := M.LX s (a + t') (by omega) (by omega) (by omega)
    rw [M.ly t htl] at h2
    rw [M.lx t' htl'] at h3
    exact cmp_le_lt h2 (cmp_lt_le h1 h3)
end
end Go.Proofs.Ytnmmeaoapfampaa

/-
  The library's merge of two parts that are in order, in place: of each there are more; the middle is ahead of where the second begins.
-/
namespace Go.Proofs.Ytnmmeaoapfampaa
open Go.RowKit

set_option maxRecDepth 100000 in
set_option maxHeartbeats 2000000 in
theorem sym_gt {B g cap n a m b K : Nat} {w0 w : World} {A X Y C : List Ent} (ih : SymTo B g cap n w0 K) (h : SL B w0 (some ⟨g, 0, none⟩) cap n (A ++ (X ++ (Y ++ C))) w) (ha : a = A.length) (hm : m = a + X.length) (hb : b = m + Y.length) (hX : Le X) (hY : Le Y) (h2 : 2 ≤ X.length) (h3 : 2 ≤ Y.length) (hK : X.length + Y.length ≤ K + 1) (hn : n ≤ 1000) (hdm : (a + b) / 2 < m) :
    Calls Try.prog 47 #[.slice (some ⟨g, 0, none⟩) n cap, .int .i64 a, .int .i64 m, .int .i64 b, .func (.func 32) #[] #[]] w fun e w' => e = .returned (.tuple #[]) ∧ ∃ Z, Le Z ∧ Stab (X ++ Y) Z ∧ SL B w0 (some ⟨g, 0, none⟩) cap n (A ++ (Z ++ C)) w' := by
  have hlen := h.len
  simp only [List.length_append] at hlen
  have hbn : b ≤ n := by omega
  have ham : a + 2 ≤ m := by omega
  have hmb : m + 2 ≤ b := by omega
  have hbK : b - a ≤ K + 1 := by omega
  obtain ⟨xl, hxl⟩ : ∃ xl, xl = m - a := ⟨_, rfl⟩
  obtain ⟨yl, hyl⟩ : ∃ yl, yl = b - m := ⟨_, rfl⟩
  have hma : (m : Int) - (a : Int) = (xl : Int) := by omega
  have hm1 : ((xl : Int) == 1) = false := by simp; omega
  have hbm : (b : Int) - (m : Int) = (yl : Int) := by omega
  have hb1 : ((yl : Int) == 1) = false := by simp; omega
  obtain ⟨d, hd⟩ : ∃ d, d = (a + b) / 2 := ⟨_, rfl⟩
  rw [← hd] at hdm
  have hdz : ((a : Int) + (b : Int)) / 2 = (d : Int) := by omega
  obtain ⟨q, hq⟩ : ∃ q, q = d + m := ⟨_, rfl⟩
  have hqz : (d : Int) + (m : Int) = (q : Int) := by omega
  obtain ⟨p, hp⟩ : ∃ p, p + 1 = q := ⟨q - 1, by omega⟩
  have hpz : (q : Int) - 1 = (p : Int) := by omega
  have had : a < d := by omega
  have hdb : d < b := by omega
  have hqn : q ≤ 2000 := by omega
  obtain ⟨L, hL⟩ : ∃ L, L = A ++ (X ++ (Y ++ C)) := ⟨_, rfl⟩
  rw [← hL] at h
  have lx : ∀ t, t < X.length → L.getD (a + t) Ent.none_ = X.getD t Ent.none_ := fun t ht => by
    rw [hL, getD_right (by omega), getD_left (by omega)]
    congr 1
    omega
  have ly : ∀ t, t < Y.length → L.getD (m + t) Ent.none_ = Y.getD t Ent.none_ := fun t ht => by
    rw [hL, ← List.append_assoc, getD_right (by simp; omega), getD_left (by simp; omega)]
    congr 1
    simp
    omega
  have LX : ∀ c c', a ≤ c → c ≤ c' → c' < m → (L.getD c Ent.none_).cmp (L.getD c' Ent.none_) ≤ 0 := fun c c' h1 h2 h3 => by
    have := le_at' hX (i := c - a) (j := c' - a) (by omega) (by omega)
    rwa [← lx _ (by omega), ← lx _ (by omega), show a + (c - a) = c by omega, show a + (c' - a) = c' by omega] at this
  have LY : ∀ c c', m ≤ c → c ≤ c' → c' < b → (L.getD c Ent.none_).cmp (L.getD c' Ent.none_) ≤ 0 := fun c c' h1 h2 h3 => by
    have := le_at' hY (i := c - m) (j := c' - m) (by omega) (by omega)
    rwa [← ly _ (by omega), ← ly _ (by omega), show m + (c - m) = c by omega, show m + (c' - m) = c' by omega] at this
  obtain ⟨s0, hs0⟩ : ∃ s0, s0 = q - b := ⟨_, rfl⟩
  have hsz : (q : Int) - (b : Int) = (s0 : Int) := by omega
  have hdmz : (d : Int) < (m : Int) := by omega
  have has0 : a ≤ s0 := by omega
  have hsd0 : s0 ≤ d := by omega
  have hMid : Mid L X Y a m b d q p s0 d := ⟨hd, hq, hp, ham, hmb, hm, hb, lx, ly, LX, LY, by omega, by omega, by omega, by omega, by omega, by omega, by omega⟩
  have HMID := Lib.hid hMid
  have HL := Lib.hid hL
  have HS := Lib.hid h
  have HA := Lib.hid ha
  have HX := Lib.hid hX
  have HY := Lib.hid hY
  have IH := Lib.hid ih
  have HP := Lib.hid hp
  clear hlen hL h ha hm hb hX hY h2 h3 hK lx ly ih hxl hyl hd hq hp LX LY hMid hdm hs0
  go_enter Try.func47, Try.ntmps47
  go_wp2
  go_loopg [20, 21] (m - a) (fun kx s20 s21 wr => ∃ s r : Nat, s20 = .int .i64 s ∧ s21 = .int .i64 r ∧ a ≤ s ∧ s ≤ r ∧ r ≤ m ∧ r - s ≤ kx ∧ Hid (Found L p s0 d s r) ∧ Hid (SL B w0 (some ⟨g, 0, none⟩) cap n (L) wr))
  case atStart => exact ⟨s0, d, rfl, rfl, by have := HMID.out.s0a; omega, HMID.out.sr, HMID.out.r0m, by have := HMID.out.s0a; have := HMID.out.r0m; omega, Lib.hid HMID.out.start, HS⟩
  case round =>
    clear HS
    obtain ⟨s, r, rfl, rfl, has, hsr, hrm, hk, HI, HS⟩ := hrel
    by_cases hlt : s < r
    · have hltz : (s : Int) < (r : Int) := by omega
      obtain ⟨h, hh⟩ : ∃ h : Nat, h = (s + r) / 2 := ⟨_, rfl⟩
      have h1 : s ≤ h := by omega
      have h2 : h < r := by omega
      have hhz : ((s : Int) + (r : Int)) / 2 = (h : Int) := by omega
      have hhn : (h : Int) < (n : Int) := by omega
      clear hh
      obtain ⟨e, he⟩ : ∃ e, e = p - h := ⟨_, rfl⟩
      have hen : e < n := by have := HI.out.1; have := HMID.out.hqs; have := HP.out; omega
      have hez : (p : Int) - (h : Int) = (e : Int) := by have := HI.out.2.1; have := HMID.out.hrq; have := HP.out; omega
      have henz : (e : Int) < (n : Int) := by omega
      have re : IntKind.i64.wrap (e : Int) = (e : Int) := by rw [IntKind.wrap_i64]; omega
      obtain ⟨x, gy⟩ : ∃ x, L.getD h Ent.none_ = x := ⟨_, rfl⟩
      obtain ⟨y, gx⟩ : ∃ y, L.getD e Ent.none_ = y := ⟨_, rfl⟩
      have hs := HS.out
      have c0 := fun z_ os => ((hs.shift z_ os).cells (i := e) (by omega)).1
      have c1 := fun z_ os => ((hs.shift z_ os).cells (i := e) (by omega)).2.1
      have c2 := fun z_ os => ((hs.shift z_ os).cells (i := e) (by omega)).2.2.1
      have c3 := fun z_ os => ((hs.shift z_ os).cells (i := e) (by omega)).2.2.2
      have d0 := fun z_ os => ((hs.shift z_ os).cells (i := h) (by omega)).1
      have d1 := fun z_ os => ((hs.shift z_ os).cells (i := h) (by omega)).2.1
      have d2 := fun z_ os => ((hs.shift z_ os).cells (i := h) (by omega)).2.2.1
      have d3 := fun z_ os => ((hs.shift z_ os).cells (i := h) (by omega)).2.2.2
      have hc := fun z_ os => hs.compare (i := e) (j := h) (by omega) (by omega) z_ os
      rw [gx] at c0 c1 c2 c3
      rw [gy] at d0 d1 d2 d3
      rw [gx, gy] at hc
      have HC := Lib.hid hc
      clear hc
      have HE := Lib.hid (show L.getD (p - h) Ent.none_ = y by rw [← he]; exact gx)
      have HH := Lib.hid gy
      clear hs gx gy he
      by_cases hv : y.cmp x < 0
      · have HV := Lib.hid hv
        have hv2 : (!decide (y.cmp x < 0)) = false := by simp; omega
        go_wp2_with fail
        refine wp_region_shift (by kernel_rfl) (by kernel_rfl) ?_
        repeat (quiet_step (exact HC.out _ _))
        refine wpQuiet_nil ?_
        intro _ hw'
        obtain ⟨⟨nq, osq⟩, hw''⟩ := hw'
        subst hw''
        have hz := HS.out.shift nq osq
        clear c0 c1 c2 c3 d0 d1 d2 d3 HC
        generalize shiftW wr nq osq = wz at hz ⊢
        have HZ := Lib.hid hz
        clear hz
        go_wp2
        go_roundg (h - s)
        case measure => omega
        case rel => exact ⟨s, h, rfl, rfl, has, h1, by omega, Nat.le_refl _, Lib.hid (HMID.out.low HI.out h1 h2 (by rw [HE.out, HH.out]; exact HV.out)), HZ⟩
      · have HV := Lib.hid hv
        have hv2 : (!decide (y.cmp x < 0)) = true := by simp; omega
        go_wp2_with fail
        refine wp_region_shift (by kernel_rfl) (by kernel_rfl) ?_
        repeat (quiet_step (exact HC.out _ _))
        refine wpQuiet_nil ?_
        intro _ hw'
        obtain ⟨⟨nq, osq⟩, hw''⟩ := hw'
        subst hw''
        have hz := HS.out.shift nq osq
        clear c0 c1 c2 c3 d0 d1 d2 d3 HC
        generalize shiftW wr nq osq = wz at hz ⊢
        have HZ := Lib.hid hz
        clear hz
        go_wp2
        go_roundg (r - (h + 1))
        case measure => omega
        case rel => exact ⟨h + 1, r, by go_num, rfl, by omega, by omega, hrm, Nat.le_refl _, Lib.hid (HMID.out.high HI.out h1 h2 (by rw [HE.out, HH.out]; have := HV.out; omega)), HZ⟩
    · have hltz : ¬ (s : Int) < (r : Int) := by omega
      obtain rfl : r = s := by omega
      obtain ⟨x1, x2, y1, y2, hX, hY, hs, hm, he, hb, hd, hsq, h1, h2⟩ := HMID.out.parts HI.out
      obtain ⟨e, heq⟩ : ∃ e, e = q - r := ⟨_, rfl⟩
      rw [← heq] at he hb
      have hez : (q : Int) - (r : Int) = (e : Int) := by omega
      have hae : a ≤ e := by omega
      have heb : e ≤ b := by omega
      have HW0 : Hid (SL B w0 (some ⟨g, 0, none⟩) cap n (A ++ ((x1 ++ x2) ++ ((y1 ++ y2) ++ C))) wr) := Lib.hid (by have := HS.out; rw [HL.out, hX, hY] at this; exact this)
      have hXl : Le (x1 ++ x2) := by rw [← hX]; exact HX.out
      have hYl : Le (y1 ++ y2) := by rw [← hY]; exact HY.out
      have HF : Hid (∀ z1 z2, Le z1 → Stab (x1 ++ y1) z1 → Le z2 → Stab (x2 ++ y2) z2 → Le (z1 ++ z2) ∧ Stab (X ++ Y) (z1 ++ z2)) := Lib.hid fun z1 z2 l1 s1 l2 s2 => by
        rw [hX, hY]
        exact halves hXl hYl h1 h2 l1 l2 s1 s2
      have HR : Hid (1 ≤ x2.length → 1 ≤ y1.length → ∀ w, SL B w0 (some ⟨g, 0, none⟩) cap n (A ++ ((x1 ++ x2) ++ ((y1 ++ y2) ++ C))) w → Calls Try.prog 51 #[.slice (some ⟨g, 0, none⟩) n cap, .int .i64 r, .int .i64 m, .int .i64 e, .func (.func 32) #[] #[]] w fun e w' => e = .returned (.tuple #[]) ∧ SL B w0 (some ⟨g, 0, none⟩) cap n (A ++ (x1 ++ (y1 ++ (x2 ++ (y2 ++ C))))) w') := Lib.hid fun g1 g2 w hw => by
        have e0 : A ++ ((x1 ++ x2) ++ ((y1 ++ y2) ++ C)) = (A ++ x1) ++ (x2 ++ (y1 ++ (y2 ++ C))) := by simp
        have e1 : A ++ (x1 ++ (y1 ++ (x2 ++ (y2 ++ C)))) = (A ++ x1) ++ (y1 ++ (x2 ++ (y2 ++ C))) := by simp
        rw [e0] at hw
        rw [e1]
        exact rotate_any hw (by have := HA.out; simp; omega) (by have := HA.out; simp; omega) (by have := HA.out; simp; omega) g1 g2 hn
      have HI1 : Hid (1 ≤ x1.length → 1 ≤ y1.length → ∀ w, SL B w0 (some ⟨g, 0, none⟩) cap n (A ++ (x1 ++ (y1 ++ (x2 ++ (y2 ++ C))))) w → Calls Try.prog 47 #[.slice (some ⟨g, 0, none⟩) n cap, .int .i64 a, .int .i64 r, .int .i64 d, .func (.func 32) #[] #[]] w fun e w' => e = .returned (.tuple #[]) ∧ ∃ z1, Le z1 ∧ Stab (x1 ++ y1) z1 ∧ SL B w0 (some ⟨g, 0, none⟩) cap n (A ++ (z1 ++ (x2 ++ (y2 ++ C)))) w') := Lib.hid fun g1 g2 w hw =>
        IH.out A x1 y1 _ a r d w hw HA.out hs hd hXl.left hYl.left g1 g2 (by omega)
      have HI2 : Hid (1 ≤ x2.length → 1 ≤ y2.length → ∀ w z1, z1.length = (x1 ++ y1).length → SL B w0 (some ⟨g, 0, none⟩) cap n (A ++ (z1 ++ (x2 ++ (y2 ++ C)))) w → Calls Try.prog 47 #[.slice (some ⟨g, 0, none⟩) n cap, .int .i64 d, .int .i64 e, .int .i64 b, .func (.func 32) #[] #[]] w fun e w' => e = .returned (.tuple #[]) ∧ ∃ z2, Le z2 ∧ Stab (x2 ++ y2) z2 ∧ SL B w0 (some ⟨g, 0, none⟩) cap n (A ++ (z1 ++ (z2 ++ C))) w') := Lib.hid fun g1 g2 w z1 hz hw => by
        rw [← List.append_assoc] at hw
        have := IH.out (A ++ z1) x2 y2 C d e b w hw (by have := HA.out; rw [List.length_append] at hz ⊢; omega) (by omega) hb hXl.right hYl.right g1 g2 (by omega)
        refine this.mono ?_
        rintro e w' ⟨rfl, z2, l2, s2, hz2⟩
        exact ⟨rfl, z2, l2, s2, by simpa using hz2⟩
      have HN : Hid (x2.length = 0 ∨ y1.length = 0 → ∀ w, SL B w0 (some ⟨g, 0, none⟩) cap n (A ++ ((x1 ++ x2) ++ ((y1 ++ y2) ++ C))) w → SL B w0 (some ⟨g, 0, none⟩) cap n (A ++ (x1 ++ (y1 ++ (x2 ++ (y2 ++ C))))) w) := Lib.hid fun g1 w hw => by
        rcases g1 with g1 | g1
        · obtain rfl := List.eq_nil_of_length_eq_zero g1
          simpa using hw
        · obtain rfl := List.eq_nil_of_length_eq_zero g1
          simpa using hw
      have HN1 : Hid (x1.length = 0 ∨ y1.length = 0 → ∀ w, SL B w0 (some ⟨g, 0, none⟩) cap n (A ++ (x1 ++ (y1 ++ (x2 ++ (y2 ++ C))))) w → ∃ z1, Le z1 ∧ Stab (x1 ++ y1) z1 ∧ SL B w0 (some ⟨g, 0, none⟩) cap n (A ++ (z1 ++ (x2 ++ (y2 ++ C)))) w) := Lib.hid fun g1 w hw => by
        refine ⟨x1 ++ y1, ?_, Stab.refl _, by simpa using hw⟩
        rcases g1 with g1 | g1
        · obtain rfl := List.eq_nil_of_length_eq_zero g1
          exact hYl.left
        · obtain rfl := List.eq_nil_of_length_eq_zero g1
          rw [List.append_nil]
          exact hXl.left
      have HN2 : Hid (x2.length = 0 ∨ y2.length = 0 → Le (x2 ++ y2)) := Lib.hid fun g1 => by
        rcases g1 with g1 | g1
        · obtain rfl := List.eq_nil_of_length_eq_zero g1
          exact hYl.right
        · obtain rfl := List.eq_nil_of_length_eq_zero g1
          rw [List.append_nil]
          exact hXl.right
      clear hX hY h1 h2 hXl hYl HI HS heq
      have hl1 : 1 ≤ x1.length ∨ x1.length = 0 := by omega
      have hl2 : 1 ≤ x2.length ∨ x2.length = 0 := by omega
      have hl3 : 1 ≤ y1.length ∨ y1.length = 0 := by omega
      have hl4 : 1 ≤ y2.length ∨ y2.length = 0 := by omega
      rcases hl1 with hl1 | hl1 <;> rcases hl2 with hl2 | hl2 <;> rcases hl3 with hl3 | hl3 <;> rcases hl4 with hl4 | hl4 <;> first | (exfalso; omega) | skip
      ·
        have z1 : (r : Int) < (m : Int) := by omega
        have z2 : (m : Int) < (e : Int) := by omega
        have z3 : (a : Int) < (r : Int) := by omega
        have z4 : (r : Int) < (d : Int) := by omega
        have z5 : (d : Int) < (e : Int) := by omega
        have z6 : (e : Int) < (b : Int) := by omega
        have L1 := Lib.hid hl1
        have L2 := Lib.hid hl2
        have L3 := Lib.hid hl3
        have L4 := Lib.hid hl4
        clear hl1 hl2 hl3 hl4 hs hm he hb hd
        go_wp2_with (first | (go_at_call 51; (refine (HR.out L2.out L3.out _ HW0.out).mono ?_); rintro r1 w1 ⟨rfl, hw1⟩; have HW1 := Lib.hid hw1; clear hw1) | (go_at_call 47; first | ((with_reducible refine (HI1.out L1.out L3.out _ HW1.out).mono ?_); rintro r2 w2 ⟨rfl, hw2⟩; have HW2 := Lib.hid hw2; clear hw2) | (obtain ⟨z1, le1, st1, hz1⟩ := HW2.out; (with_reducible refine (HI2.out L2.out L4.out _ _ st1.len.symm hz1).mono ?_); rintro r3 w3 ⟨rfl, hw3⟩; have HW3 := Lib.hid (show ∃ z1 z2, Le z1 ∧ Stab (x1 ++ y1) z1 ∧ Le z2 ∧ Stab (x2 ++ y2) z2 ∧ SL B w0 (some ⟨g, 0, none⟩) cap n (A ++ (z1 ++ (z2 ++ C))) w3 from (by obtain ⟨z2, le2, st2, hz2⟩ := hw3; exact ⟨z1, z2, le1, st1, le2, st2, hz2⟩)); clear hw3 hz1 le1 st1)))
        go_end0
        obtain ⟨z1, z2, le1, st1, le2, st2, hz⟩ := HW3.out
        exact ⟨rfl, z1 ++ z2, (HF.out z1 z2 le1 st1 le2 st2).1, (HF.out z1 z2 le1 st1 le2 st2).2, by simpa using hz⟩
      ·
        have z1 : (r : Int) < (m : Int) := by omega
        have z2 : (m : Int) < (e : Int) := by omega
        have z3 : (a : Int) < (r : Int) := by omega
        have z4 : (r : Int) < (d : Int) := by omega
        have z5 : (d : Int) < (e : Int) := by omega
        have z6 : ¬ (e : Int) < (b : Int) := by omega
        have N2 := Lib.hid (show x2.length = 0 ∨ y2.length = 0 by omega)
        have L1 := Lib.hid hl1
        have L2 := Lib.hid hl2
        have L3 := Lib.hid hl3
        have L4 := Lib.hid hl4
        clear hl1 hl2 hl3 hl4 hs hm he hb hd
        go_wp2_with (first | (go_at_call 51; (refine (HR.out L2.out L3.out _ HW0.out).mono ?_); rintro r1 w1 ⟨rfl, hw1⟩; have HW1 := Lib.hid hw1; clear hw1) | (go_at_call 47; first | ((with_reducible refine (HI1.out L1.out L3.out _ HW1.out).mono ?_); rintro r2 w2 ⟨rfl, hw2⟩; have HW2 := Lib.hid hw2; clear hw2)))
        go_end0
        obtain ⟨z1, le1, st1, hz⟩ := HW2.out
        have le2 := HN2.out N2.out
        exact ⟨rfl, z1 ++ (x2 ++ y2), (HF.out z1 _ le1 st1 le2 (Stab.refl _)).1, (HF.out z1 _ le1 st1 le2 (Stab.refl _)).2, by simpa using hz⟩
      ·
        have z1 : (r : Int) < (m : Int) := by omega
        have z2 : ¬ (m : Int) < (e : Int) := by omega
        have z3 : (a : Int) < (r : Int) := by omega
        have z4 : ¬ (r : Int) < (d : Int) := by omega
        have z5 : (d : Int) < (e : Int) := by omega
        have z6 : (e : Int) < (b : Int) := by omega
        have HW1 := Lib.hid (HN.out (by omega) _ HW0.out)
        have N1 := Lib.hid (show x1.length = 0 ∨ y1.length = 0 by omega)
        have HW2 := Lib.hid (HN1.out N1.out _ HW1.out)
        have L1 := Lib.hid hl1
        have L2 := Lib.hid hl2
        have L3 := Lib.hid hl3
        have L4 := Lib.hid hl4
        clear hl1 hl2 hl3 hl4 hs hm he hb hd
        go_wp2_with (first | (go_at_call 47; first | (obtain ⟨z1, le1, st1, hz1⟩ := HW2.out; (with_reducible refine (HI2.out L2.out L4.out _ _ st1.len.symm hz1).mono ?_); rintro r3 w3 ⟨rfl, hw3⟩; have HW3 := Lib.hid (show ∃ z1 z2, Le z1 ∧ Stab (x1 ++ y1) z1 ∧ Le z2 ∧ Stab (x2 ++ y2) z2 ∧ SL B w0 (some ⟨g, 0, none⟩) cap n (A ++ (z1 ++ (z2 ++ C))) w3 from (by obtain ⟨z2, le2, st2, hz2⟩ := hw3; exact ⟨z1, z2, le1, st1, le2, st2, hz2⟩)); clear hw3 hz1 le1 st1)))
        go_end0
        obtain ⟨z1, z2, le1, st1, le2, st2, hz⟩ := HW3.out
        exact ⟨rfl, z1 ++ z2, (HF.out z1 z2 le1 st1 le2 st2).1, (HF.out z1 z2 le1 st1 le2 st2).2, by simpa using hz⟩
      ·
        have z1 : (r : Int) < (m : Int) := by omega
        have z2 : (m : Int) < (e : Int) := by omega
        have z3 : ¬ (a : Int) < (r : Int) := by omega
        have z4 : (r : Int) < (d : Int) := by omega
        have z5 : (d : Int) < (e : Int) := by omega
        have z6 : ¬ (e : Int) < (b : Int) := by omega
        have N1 := Lib.hid (show x1.length = 0 ∨ y1.length = 0 by omega)
        have N2 := Lib.hid (show x2.length = 0 ∨ y2.length = 0 by omega)
        have L1 := Lib.hid hl1
        have L2 := Lib.hid hl2
        have L3 := Lib.hid hl3
        have L4 := Lib.hid hl4
        clear hl1 hl2 hl3 hl4 hs hm he hb hd
        go_wp2_with (first | (go_at_call 51; (refine (HR.out L2.out L3.out _ HW0.out).mono ?_); rintro r1 w1 ⟨rfl, hw1⟩; have HW1 := Lib.hid hw1; clear hw1; have HW2 := Lib.hid (HN1.out N1.out _ HW1.out)))
        go_end0
        obtain ⟨z1, le1, st1, hz⟩ := HW2.out
        have le2 := HN2.out N2.out
        exact ⟨rfl, z1 ++ (x2 ++ y2), (HF.out z1 _ le1 st1 le2 (Stab.refl _)).1, (HF.out z1 _ le1 st1 le2 (Stab.refl _)).2, by simpa using hz⟩
end Go.Proofs.Ytnmmeaoapfampaa
