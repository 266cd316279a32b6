/-
  The library's sort of a small part of a row of entries.
-/
import Derived.Test.YtabmdhbikedhmaaSeekRot
namespace Go.Proofs.Ytabmdhbikedhmaa
open Go.RowKit

set_option maxRecDepth 100000 in
theorem cmpE_any (x y : Ent) (hx : x.fits) (hy : y.fits) (W : World) : Calls Try.prog 29 #[entV x, entV y] W fun e w' => e = .returned (.int .i64 (x.cmp y)) ∧ Below W.heap.size W w' := by
  have HC := Lib.hid (fun W' => cmp_any x.u x.s x.k y.u y.s y.k hx.1 hy.1 W')
  go_enter Try.func29, Try.ntmps29
  go_wp2_with (go_at_call 30; (refine (HC.out _).mono ?_); rintro e w1 ⟨rfl, hb⟩)
  go_ret
  exact ⟨rfl, belowT (((Below.refl _ W).alloc (Nat.le_refl _) _).alloc (by simp) _) (hb.mono (by simp))⟩

/-- A compare in a world that compares left. -/
theorem SL.compare {B cap n g : Nat} {w0 W : World} {l : List Ent} (h : SL B w0 (some ⟨g, 0, none⟩) cap n l W) {i j : Nat} (hi : i < n) (hj : j < n) (m : Nat) (os : Array Obj) :
    Calls Try.prog 29 #[entV (l.getD i Ent.none_), entV (l.getD j Ent.none_)] (shiftW W m os) fun e w'' => e = .returned (.int .i64 ((l.getD i Ent.none_).cmp (l.getD j Ent.none_))) ∧ ∃ p : ShiftBy, w'' = shiftW W p.n p.os :=
  Calls.shift_of (cmpE_any _ _ (h.fit hi) (h.fit hj) _)

set_option maxRecDepth 100000 in
theorem insertion_none (v : Value) (c : Value) (w : World) : Calls Try.prog 43 #[v, .int .i64 0, .int .i64 0, c] w fun e w' => e = .returned (.tuple #[]) ∧ w' = w := by
  go_enter Try.func43, Try.ntmps43
  go_wp2
  go_loopg [8] 0 (fun _ s8 wr => s8 = .int .i64 1 ∧ wr = w)
  case atStart => exact ⟨rfl, rfl⟩
  case round =>
    obtain ⟨rfl, rfl⟩ := hrel
    go_wp2
    go_end0
    exact ⟨rfl, rfl⟩

set_option maxRecDepth 100000 in
set_option maxHeartbeats 1000000 in
theorem insertion_any {B g cap n a b : Nat} {w0 w : World} {A X C : List Ent} (h : SL B w0 (some ⟨g, 0, none⟩) cap n (A ++ (X ++ C)) w) (ha : a = A.length) (hb : b = A.length + X.length) (hn : n ≤ 1000) :
    Calls Try.prog 43 #[.slice (some ⟨g, 0, none⟩) n cap, .int .i64 a, .int .i64 b, .func (.func 29) #[] #[]] w fun e w' => e = .returned (.tuple #[]) ∧ ∃ S, Le S ∧ Stab X S ∧ SL B w0 (some ⟨g, 0, none⟩) cap n (A ++ (S ++ C)) w' := by
  have hlen := h.len
  simp only [List.length_append] at hlen
  have hbn : b ≤ n := by omega
  have hab : a ≤ b := by omega
  have HA := Lib.hid ha
  have HB := Lib.hid hb
  have HS : Hid (∃ X1 X2 S, X = X1 ++ X2 ∧ X1.length = min (a + 1 - a) X.length ∧ Stab X1 S ∧ Le S ∧ SL B w0 (some ⟨g, 0, none⟩) cap n (A ++ (S ++ (X2 ++ C))) w) := by
    refine ⟨X.take 1, X.drop 1, X.take 1, (List.take_append_drop 1 X).symm, by rw [List.length_take]; omega, Stab.refl _, ?_, ?_⟩
    · cases X with
      | nil => exact Le.nil
      | cons x r => exact Le.one x
    · rw [← List.append_assoc (X.take 1), List.take_append_drop]
      exact h
  clear h hlen ha hb
  go_enter Try.func43, Try.ntmps43
  go_wp2
  go_loopg [8] (b - a) (fun kx s8 wr => ∃ i : Nat, s8 = .int .i64 i ∧ a + 1 ≤ i ∧ i ≤ b + 1 ∧ b + 1 - i ≤ kx + 1 ∧ Hid (∃ X1 X2 S, X = X1 ++ X2 ∧ X1.length = min (i - a) X.length ∧ Stab X1 S ∧ Le S ∧ SL B w0 (some ⟨g, 0, none⟩) cap n (A ++ (S ++ (X2 ++ C))) wr))
  case atStart => exact ⟨a + 1, by go_num, Nat.le_refl _, by omega, by omega, HS⟩
  case round =>
    clear HS
    obtain ⟨i, rfl, hai, hib, hk, H⟩ := hrel
    by_cases hlt : i < b
    · have hltz : (i : Int) < (b : Int) := by omega
      obtain ⟨X1, X2, S, hX, hX1, hst, hle, hs⟩ := H.out
      have hX1' : X1.length = i - a := by have := HA.out; have := HB.out; omega
      have hX2 : X2.length = b - i := by have := HA.out; have := HB.out; rw [hX, List.length_append] at this; omega
      obtain ⟨x, X3, rfl⟩ : ∃ x X3, X2 = x :: X3 := by
        cases X2 with
        | nil => simp at hX2; omega
        | cons x r => exact ⟨x, r, rfl⟩
      have hSl : S.length = i - a := by rw [← hst.len]; exact hX1'
      have HI : Hid (∃ S1 S2, S = S1 ++ S2 ∧ i = a + S1.length ∧ (∀ y ∈ S2, x.cmp y < 0) ∧ SL B w0 (some ⟨g, 0, none⟩) cap n (A ++ (S1 ++ (x :: (S2 ++ (X3 ++ C))))) wr) :=
        Lib.hid ⟨S, [], by simp, by omega, by simp, by simpa using hs⟩
      have HX := Lib.hid (show X = X1 ++ x :: X3 from hX)
      have HX1 := Lib.hid hX1'
      have HST := Lib.hid hst
      have HLE := Lib.hid hle
      clear H hX hX1 hX1' hX2 hst hle hs hSl
      go_wp2
      go_loopg [9] i (fun kx s9 wq => ∃ j : Nat, s9 = .int .i64 j ∧ a ≤ j ∧ j ≤ i ∧ j ≤ kx ∧ Hid (∃ S1 S2, S = S1 ++ S2 ∧ j = a + S1.length ∧ (∀ y ∈ S2, x.cmp y < 0) ∧ SL B w0 (some ⟨g, 0, none⟩) cap n (A ++ (S1 ++ (x :: (S2 ++ (X3 ++ C))))) wq))
      case atStart => exact ⟨i, rfl, by omega, Nat.le_refl _, Nat.le_refl _, HI⟩
      case round =>
        clear HI
        obtain ⟨j, rfl, haj, hji, hg2, HI⟩ := hrel
        by_cases hja : a < j
        · obtain ⟨p, rfl⟩ : ∃ p, j = p + 1 := ⟨j - 1, by omega⟩
          obtain ⟨S1, S2, hS, hj, hS2, hs⟩ := HI.out
          obtain ⟨S0, y, rfl⟩ : ∃ S0 y, S1 = S0 ++ [y] := by
            refine ⟨S1.dropLast, S1.getLast (fun e => by rw [e] at hj; simp at hj; omega), (List.dropLast_concat_getLast _).symm⟩
          obtain ⟨L, hL⟩ : ∃ L, L = A ++ (S0 ++ [y] ++ (x :: (S2 ++ (X3 ++ C)))) := ⟨_, rfl⟩
          rw [← hL] at hs
          rw [List.length_append, List.length_singleton] at hj
          have gx : L.getD (p + 1) Ent.none_ = x := by rw [hL, ← List.append_assoc]; exact getD_at (by have := HA.out; simp; omega)
          have gy : L.getD p Ent.none_ = y := by
            rw [hL, show A ++ (S0 ++ [y] ++ (x :: (S2 ++ (X3 ++ C)))) = (A ++ S0) ++ y :: (x :: (S2 ++ (X3 ++ C))) by simp]
            exact getD_at (by have := HA.out; simp; omega)
          have c0 := fun m os => ((hs.shift m os).cells (i := p + 1) (by omega)).1
          have c1 := fun m os => ((hs.shift m os).cells (i := p + 1) (by omega)).2.1
          have c2 := fun m os => ((hs.shift m os).cells (i := p + 1) (by omega)).2.2.1
          have c3 := fun m os => ((hs.shift m os).cells (i := p + 1) (by omega)).2.2.2
          have d0 := fun m os => ((hs.shift m os).cells (i := p) (by omega)).1
          have d1 := fun m os => ((hs.shift m os).cells (i := p) (by omega)).2.1
          have d2 := fun m os => ((hs.shift m os).cells (i := p) (by omega)).2.2.1
          have d3 := fun m os => ((hs.shift m os).cells (i := p) (by omega)).2.2.2
          have hc := fun m os => hs.compare (i := p + 1) (j := p) (by omega) (by omega) m os
          rw [gx] at c0 c1 c2 c3
          rw [gy] at d0 d1 d2 d3
          rw [gx, gy] at hc
          have HC := Lib.hid hc
          have HSL := Lib.hid hs
          have HSE := Lib.hid (show S = S0 ++ [y] ++ S2 from hS)
          have HJ := Lib.hid hj
          have HS2 := Lib.hid hS2
          have HL := Lib.hid hL
          have HGX := Lib.hid gx
          have HGY := Lib.hid gy
          clear hc hs hS hj hS2 hL gx gy HI
          have ja : (a : Int) < (p : Int) + 1 := by omega
          have e0 : ((p : Int) + 1).toNat = p + 1 := by omega
          have p0 : (0 : Int) ≤ (p : Int) + 1 := by omega
          have b0 : (p : Int) + 1 < (n : Int) := by omega
          have b1 : (p : Int) < (n : Int) := by omega
          have rp : IntKind.i64.wrap (p : Int) = (p : Int) := by rw [IntKind.wrap_i64]; omega
          by_cases hv : x.cmp y < 0
          · go_wp2_with fail
            refine wp_region_shift (by kernel_rfl) (by kernel_rfl) ?_
            repeat (quiet_step (exact HC.out _ _))
            refine wpQuiet_nil ?_
            intro _ hw'
            obtain ⟨⟨nq, osq⟩, hw''⟩ := hw'
            subst hw''
            have hz := HSL.out.shift nq osq
            clear c0 c1 c2 c3 d0 d1 d2 d3 HSL HC
            generalize shiftW wr nq osq = wz at hz ⊢
            obtain ⟨c0, c1, c2, c3⟩ := hz.cells (i := p + 1) (by omega)
            obtain ⟨d0, d1, d2, d3⟩ := hz.cells (i := p) (by omega)
            rw [HGX.out] at c0 c1 c2 c3
            rw [HGY.out] at d0 d1 d2 d3
            have fz : ∀ o, wz.frozen? ⟨g, o, none⟩ = false := fun o => hz.free o (i := p) (by omega)
            have S2' := hz.swap (i := p + 1) (j := p) (by omega) (by omega) HGX.out HGY.out
            have e2 : swpE L (p + 1) p = A ++ (S0 ++ (x :: (y :: S2 ++ (X3 ++ C)))) := by
              rw [HL.out, show A ++ (S0 ++ [y] ++ (x :: (S2 ++ (X3 ++ C)))) = (A ++ S0) ++ y :: ([] ++ x :: (S2 ++ (X3 ++ C))) by simp, swp_comm, swp_parts (by have := HA.out; have := HJ.out; simp; omega) (by have := HA.out; have := HJ.out; simp; omega)]
              simp
            rw [e2] at S2'
            have HSW := Lib.hid S2'
            clear hz e2 S2'
            go_wp2_with fail
            go_big_region
            go_wp2
            go_roundg p
            case measure => omega
            case rel => exact ⟨p, by go_num, by omega, by omega, Nat.le_refl _, S0, y :: S2, by rw [HSE.out]; simp, by have := HJ.out; omega, fun u hu => by (rcases List.mem_cons.1 hu with rfl | hu); exact hv; exact HS2.out u hu, HSW.out⟩
          · go_wp2_with fail
            refine wp_region_shift (by kernel_rfl) (by kernel_rfl) ?_
            repeat (quiet_step (exact HC.out _ _))
            refine wpQuiet_nil ?_
            intro _ hw'
            obtain ⟨⟨nq, osq⟩, hw''⟩ := hw'
            subst hw''
            have hz := HSL.out.shift nq osq
            clear c0 c1 c2 c3 d0 d1 d2 d3 HSL HC
            generalize shiftW wr nq osq = wz at hz ⊢
            rw [HL.out] at hz
            have HZ := Lib.hid hz
            clear hz
            go_wp2
            go_roundg (b - (i + 1))
            case measure => omega
            case rel =>
              have hle := HLE.out
              rw [HSE.out] at hle
              have hst := HST.out
              rw [HSE.out] at hst
              refine ⟨i + 1, by go_num, by omega, by omega, by omega, X1 ++ [x], X3, S0 ++ [y] ++ x :: S2, by rw [HX.out]; simp, ?_, ins_stab hst HS2.out, ins_le hle (fun u hu => cmp_le_trans (hle.left.le_last u hu) (cmp_ge (by omega))) HS2.out, ?_⟩
              · have h1 := HX1.out
                have h2 := congrArg List.length HX.out
                simp only [List.length_append, List.length_cons, List.length_nil] at h2 ⊢
                omega
              · have := HZ.out
                simpa using this
        · have hja' : ¬ (a : Int) < (j : Int) := by omega
          have HZ : Hid (∃ S2, S = S2 ∧ (∀ y ∈ S2, x.cmp y < 0) ∧ SL B w0 (some ⟨g, 0, none⟩) cap n (A ++ (x :: (S2 ++ (X3 ++ C)))) wr.drew) := by
            obtain ⟨S1, S2, h1, h2, h3, h4⟩ := HI.out
            obtain rfl : S1 = [] := List.eq_nil_of_length_eq_zero (by omega)
            exact Lib.hid ⟨S2, h1, h3, h4.drew⟩
          clear HI
          go_wp2_with fail
          go_big_region
          go_wp2
          go_roundg (b - (i + 1))
          case measure => omega
          case rel =>
            obtain ⟨S2, rfl, h3, h4⟩ := HZ.out
            refine ⟨i + 1, by go_num, by omega, by omega, by omega, X1 ++ [x], X3, x :: S, by rw [HX.out]; simp, ?_, ins_stab (A := []) HST.out h3, ins_le (A := []) HLE.out (fun u hu => by cases hu) h3, ?_⟩
            · have h1 := HX1.out
              have h2 := congrArg List.length HX.out
              simp only [List.length_append, List.length_cons, List.length_nil] at h2 ⊢
              omega
            · simpa using h4
    · have hltz : ¬ (i : Int) < (b : Int) := by omega
      go_wp2
      go_end0
      obtain ⟨X1, X2, S, h1, h2, h3, h4, h5⟩ := H.out
      have h6 := congrArg List.length h1
      simp only [List.length_append] at h6
      obtain rfl : X2 = [] := List.eq_nil_of_length_eq_zero (by have := HA.out; have := HB.out; omega)
      rw [List.append_nil] at h1
      subst h1
      exact ⟨rfl, S, h4, h3, by simpa using h5⟩
end Go.Proofs.Ytabmdhbikedhmaa
