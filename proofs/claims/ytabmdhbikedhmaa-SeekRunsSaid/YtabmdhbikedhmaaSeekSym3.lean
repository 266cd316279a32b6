/-
  The library's merge of two parts that are in order, in place: of each there are more; the middle is ahead of where the second begins.
-/
import Derived.Test.YtabmdhbikedhmaaSeekMid
namespace Go.Proofs.Ytabmdhbikedhmaa
open Go.RowKit

set_option maxRecDepth 100000 in
set_option maxHeartbeats 2000000 in
theorem sym_gt {B g cap n a m b K : Nat} {w0 w : World} {A X Y C : List Ent} (ih : SymTo B g cap n w0 K) (h : SL B w0 (some ⟨g, 0, none⟩) cap n (A ++ (X ++ (Y ++ C))) w) (ha : a = A.length) (hm : m = a + X.length) (hb : b = m + Y.length) (hX : Le X) (hY : Le Y) (h2 : 2 ≤ X.length) (h3 : 2 ≤ Y.length) (hK : X.length + Y.length ≤ K + 1) (hn : n ≤ 1000) (hdm : (a + b) / 2 < m) :
    Calls Try.prog 44 #[.slice (some ⟨g, 0, none⟩) n cap, .int .i64 a, .int .i64 m, .int .i64 b, .func (.func 29) #[] #[]] w fun e w' => e = .returned (.tuple #[]) ∧ ∃ Z, Le Z ∧ Stab (X ++ Y) Z ∧ SL B w0 (some ⟨g, 0, none⟩) cap n (A ++ (Z ++ C)) w' := by
  have hlen := h.len
  simp only [List.length_append] at hlen
  have hbn : b ≤ n := by omega
  have ham : a + 2 ≤ m := by omega
  have hmb : m + 2 ≤ b := by omega
  have hbK : b - a ≤ K + 1 := by omega
  obtain ⟨xl, hxl⟩ : ∃ xl, xl = m - a := ⟨_, rfl⟩
  obtain ⟨yl, hyl⟩ : ∃ yl, yl = b - m := ⟨_, rfl⟩
  have hma : (m : Int) - (a : Int) = (xl : Int) := by omega
  have hm1 : ((xl : Int) == 1) = false := by simp; omega
  have hbm : (b : Int) - (m : Int) = (yl : Int) := by omega
  have hb1 : ((yl : Int) == 1) = false := by simp; omega
  obtain ⟨d, hd⟩ : ∃ d, d = (a + b) / 2 := ⟨_, rfl⟩
  rw [← hd] at hdm
  have hdz : ((a : Int) + (b : Int)) / 2 = (d : Int) := by omega
  obtain ⟨q, hq⟩ : ∃ q, q = d + m := ⟨_, rfl⟩
  have hqz : (d : Int) + (m : Int) = (q : Int) := by omega
  obtain ⟨p, hp⟩ : ∃ p, p + 1 = q := ⟨q - 1, by omega⟩
  have hpz : (q : Int) - 1 = (p : Int) := by omega
  have had : a < d := by omega
  have hdb : d < b := by omega
  have hqn : q ≤ 2000 := by omega
  obtain ⟨L, hL⟩ : ∃ L, L = A ++ (X ++ (Y ++ C)) := ⟨_, rfl⟩
  rw [← hL] at h
  have lx : ∀ t, t < X.length → L.getD (a + t) Ent.none_ = X.getD t Ent.none_ := fun t ht => by
    rw [hL, getD_right (by omega), getD_left (by omega)]
    congr 1
    omega
  have ly : ∀ t, t < Y.length → L.getD (m + t) Ent.none_ = Y.getD t Ent.none_ := fun t ht => by
    rw [hL, ← List.append_assoc, getD_right (by simp; omega), getD_left (by simp; omega)]
    congr 1
    simp
    omega
  have LX : ∀ c c', a ≤ c → c ≤ c' → c' < m → (L.getD c Ent.none_).cmp (L.getD c' Ent.none_) ≤ 0 := fun c c' h1 h2 h3 => by
    have := le_at' hX (i := c - a) (j := c' - a) (by omega) (by omega)
    rwa [← lx _ (by omega), ← lx _ (by omega), show a + (c - a) = c by omega, show a + (c' - a) = c' by omega] at this
  have LY : ∀ c c', m ≤ c → c ≤ c' → c' < b → (L.getD c Ent.none_).cmp (L.getD c' Ent.none_) ≤ 0 := fun c c' h1 h2 h3 => by
    have := le_at' hY (i := c - m) (j := c' - m) (by omega) (by omega)
    rwa [← ly _ (by omega), ← ly _ (by omega), show m + (c - m) = c by omega, show m + (c' - m) = c' by omega] at this
  obtain ⟨s0, hs0⟩ : ∃ s0, s0 = q - b := ⟨_, rfl⟩
  have hsz : (q : Int) - (b : Int) = (s0 : Int) := by omega
  have hdmz : (d : Int) < (m : Int) := by omega
  have has0 : a ≤ s0 := by omega
  have hsd0 : s0 ≤ d := by omega
  have hMid : Mid L X Y a m b d q p s0 d := ⟨hd, hq, hp, ham, hmb, hm, hb, lx, ly, LX, LY, by omega, by omega, by omega, by omega, by omega, by omega, by omega⟩
  have HMID := Lib.hid hMid
  have HL := Lib.hid hL
  have HS := Lib.hid h
  have HA := Lib.hid ha
  have HX := Lib.hid hX
  have HY := Lib.hid hY
  have IH := Lib.hid ih
  have HP := Lib.hid hp
  clear hlen hL h ha hm hb hX hY h2 h3 hK lx ly ih hxl hyl hd hq hp LX LY hMid hdm hs0
  go_enter Try.func44, Try.ntmps44
  go_wp2
  go_loopg [20, 21] (m - a) (fun kx s20 s21 wr => ∃ s r : Nat, s20 = .int .i64 s ∧ s21 = .int .i64 r ∧ a ≤ s ∧ s ≤ r ∧ r ≤ m ∧ r - s ≤ kx ∧ Hid (Found L p s0 d s r) ∧ Hid (SL B w0 (some ⟨g, 0, none⟩) cap n (L) wr))
  case atStart => exact ⟨s0, d, rfl, rfl, by have := HMID.out.s0a; omega, HMID.out.sr, HMID.out.r0m, by have := HMID.out.s0a; have := HMID.out.r0m; omega, Lib.hid HMID.out.start, HS⟩
  case round =>
    clear HS
    obtain ⟨s, r, rfl, rfl, has, hsr, hrm, hk, HI, HS⟩ := hrel
    by_cases hlt : s < r
    · have hltz : (s : Int) < (r : Int) := by omega
      obtain ⟨h, hh⟩ : ∃ h : Nat, h = (s + r) / 2 := ⟨_, rfl⟩
      have h1 : s ≤ h := by omega
      have h2 : h < r := by omega
      have hhz : ((s : Int) + (r : Int)) / 2 = (h : Int) := by omega
      have hhn : (h : Int) < (n : Int) := by omega
      clear hh
      obtain ⟨e, he⟩ : ∃ e, e = p - h := ⟨_, rfl⟩
      have hen : e < n := by have := HI.out.1; have := HMID.out.hqs; have := HP.out; omega
      have hez : (p : Int) - (h : Int) = (e : Int) := by have := HI.out.2.1; have := HMID.out.hrq; have := HP.out; omega
      have henz : (e : Int) < (n : Int) := by omega
      have re : IntKind.i64.wrap (e : Int) = (e : Int) := by rw [IntKind.wrap_i64]; omega
      obtain ⟨x, gy⟩ : ∃ x, L.getD h Ent.none_ = x := ⟨_, rfl⟩
      obtain ⟨y, gx⟩ : ∃ y, L.getD e Ent.none_ = y := ⟨_, rfl⟩
      have hs := HS.out
      have c0 := fun z_ os => ((hs.shift z_ os).cells (i := e) (by omega)).1
      have c1 := fun z_ os => ((hs.shift z_ os).cells (i := e) (by omega)).2.1
      have c2 := fun z_ os => ((hs.shift z_ os).cells (i := e) (by omega)).2.2.1
      have c3 := fun z_ os => ((hs.shift z_ os).cells (i := e) (by omega)).2.2.2
      have d0 := fun z_ os => ((hs.shift z_ os).cells (i := h) (by omega)).1
      have d1 := fun z_ os => ((hs.shift z_ os).cells (i := h) (by omega)).2.1
      have d2 := fun z_ os => ((hs.shift z_ os).cells (i := h) (by omega)).2.2.1
      have d3 := fun z_ os => ((hs.shift z_ os).cells (i := h) (by omega)).2.2.2
      have hc := fun z_ os => hs.compare (i := e) (j := h) (by omega) (by omega) z_ os
      rw [gx] at c0 c1 c2 c3
      rw [gy] at d0 d1 d2 d3
      rw [gx, gy] at hc
      have HC := Lib.hid hc
      clear hc
      have HE := Lib.hid (show L.getD (p - h) Ent.none_ = y by rw [← he]; exact gx)
      have HH := Lib.hid gy
      clear hs gx gy he
      by_cases hv : y.cmp x < 0
      · have HV := Lib.hid hv
        have hv2 : (!decide (y.cmp x < 0)) = false := by simp; omega
        go_wp2_with fail
        refine wp_region_shift (by kernel_rfl) (by kernel_rfl) ?_
        repeat (quiet_step (exact HC.out _ _))
        refine wpQuiet_nil ?_
        intro _ hw'
        obtain ⟨⟨nq, osq⟩, hw''⟩ := hw'
        subst hw''
        have hz := HS.out.shift nq osq
        clear c0 c1 c2 c3 d0 d1 d2 d3 HC
        generalize shiftW wr nq osq = wz at hz ⊢
        have HZ := Lib.hid hz
        clear hz
        go_wp2
        go_roundg (h - s)
        case measure => omega
        case rel => exact ⟨s, h, rfl, rfl, has, h1, by omega, Nat.le_refl _, Lib.hid (HMID.out.low HI.out h1 h2 (by rw [HE.out, HH.out]; exact HV.out)), HZ⟩
      · have HV := Lib.hid hv
        have hv2 : (!decide (y.cmp x < 0)) = true := by simp; omega
        go_wp2_with fail
        refine wp_region_shift (by kernel_rfl) (by kernel_rfl) ?_
        repeat (quiet_step (exact HC.out _ _))
        refine wpQuiet_nil ?_
        intro _ hw'
        obtain ⟨⟨nq, osq⟩, hw''⟩ := hw'
        subst hw''
        have hz := HS.out.shift nq osq
        clear c0 c1 c2 c3 d0 d1 d2 d3 HC
        generalize shiftW wr nq osq = wz at hz ⊢
        have HZ := Lib.hid hz
        clear hz
        go_wp2
        go_roundg (r - (h + 1))
        case measure => omega
        case rel => exact ⟨h + 1, r, by go_num, rfl, by omega, by omega, hrm, Nat.le_refl _, Lib.hid (HMID.out.high HI.out h1 h2 (by rw [HE.out, HH.out]; have := HV.out; omega)), HZ⟩
    · have hltz : ¬ (s : Int) < (r : Int) := by omega
      obtain rfl : r = s := by omega
      obtain ⟨x1, x2, y1, y2, hX, hY, hs, hm, he, hb, hd, hsq, h1, h2⟩ := HMID.out.parts HI.out
      obtain ⟨e, heq⟩ : ∃ e, e = q - r := ⟨_, rfl⟩
      rw [← heq] at he hb
      have hez : (q : Int) - (r : Int) = (e : Int) := by omega
      have hae : a ≤ e := by omega
      have heb : e ≤ b := by omega
      have HW0 : Hid (SL B w0 (some ⟨g, 0, none⟩) cap n (A ++ ((x1 ++ x2) ++ ((y1 ++ y2) ++ C))) wr) := Lib.hid (by have := HS.out; rw [HL.out, hX, hY] at this; exact this)
      have hXl : Le (x1 ++ x2) := by rw [← hX]; exact HX.out
      have hYl : Le (y1 ++ y2) := by rw [← hY]; exact HY.out
      have HF : Hid (∀ z1 z2, Le z1 → Stab (x1 ++ y1) z1 → Le z2 → Stab (x2 ++ y2) z2 → Le (z1 ++ z2) ∧ Stab (X ++ Y) (z1 ++ z2)) := Lib.hid fun z1 z2 l1 s1 l2 s2 => by
        rw [hX, hY]
        exact halves hXl hYl h1 h2 l1 l2 s1 s2
      have HR : Hid (1 ≤ x2.length → 1 ≤ y1.length → ∀ w, SL B w0 (some ⟨g, 0, none⟩) cap n (A ++ ((x1 ++ x2) ++ ((y1 ++ y2) ++ C))) w → Calls Try.prog 50 #[.slice (some ⟨g, 0, none⟩) n cap, .int .i64 r, .int .i64 m, .int .i64 e, .func (.func 29) #[] #[]] w fun e w' => e = .returned (.tuple #[]) ∧ SL B w0 (some ⟨g, 0, none⟩) cap n (A ++ (x1 ++ (y1 ++ (x2 ++ (y2 ++ C))))) w') := Lib.hid fun g1 g2 w hw => by
        have e0 : A ++ ((x1 ++ x2) ++ ((y1 ++ y2) ++ C)) = (A ++ x1) ++ (x2 ++ (y1 ++ (y2 ++ C))) := by simp
        have e1 : A ++ (x1 ++ (y1 ++ (x2 ++ (y2 ++ C)))) = (A ++ x1) ++ (y1 ++ (x2 ++ (y2 ++ C))) := by simp
        rw [e0] at hw
        rw [e1]
        exact rotate_any hw (by have := HA.out; simp; omega) (by have := HA.out; simp; omega) (by have := HA.out; simp; omega) g1 g2 hn
      have HI1 : Hid (1 ≤ x1.length → 1 ≤ y1.length → ∀ w, SL B w0 (some ⟨g, 0, none⟩) cap n (A ++ (x1 ++ (y1 ++ (x2 ++ (y2 ++ C))))) w → Calls Try.prog 44 #[.slice (some ⟨g, 0, none⟩) n cap, .int .i64 a, .int .i64 r, .int .i64 d, .func (.func 29) #[] #[]] w fun e w' => e = .returned (.tuple #[]) ∧ ∃ z1, Le z1 ∧ Stab (x1 ++ y1) z1 ∧ SL B w0 (some ⟨g, 0, none⟩) cap n (A ++ (z1 ++ (x2 ++ (y2 ++ C)))) w') := Lib.hid fun g1 g2 w hw =>
        IH.out A x1 y1 _ a r d w hw HA.out hs hd hXl.left hYl.left g1 g2 (by omega)
      have HI2 : Hid (1 ≤ x2.length → 1 ≤ y2.length → ∀ w z1, z1.length = (x1 ++ y1).length → SL B w0 (some ⟨g, 0, none⟩) cap n (A ++ (z1 ++ (x2 ++ (y2 ++ C)))) w → Calls Try.prog 44 #[.slice (some ⟨g, 0, none⟩) n cap, .int .i64 d, .int .i64 e, .int .i64 b, .func (.func 29) #[] #[]] w fun e w' => e = .returned (.tuple #[]) ∧ ∃ z2, Le z2 ∧ Stab (x2 ++ y2) z2 ∧ SL B w0 (some ⟨g, 0, none⟩) cap n (A ++ (z1 ++ (z2 ++ C))) w') := Lib.hid fun g1 g2 w z1 hz hw => by
        rw [← List.append_assoc] at hw
        have := IH.out (A ++ z1) x2 y2 C d e b w hw (by have := HA.out; rw [List.length_append] at hz ⊢; omega) (by omega) hb hXl.right hYl.right g1 g2 (by omega)
        refine this.mono ?_
        rintro e w' ⟨rfl, z2, l2, s2, hz2⟩
        exact ⟨rfl, z2, l2, s2, by simpa using hz2⟩
      have HN : Hid (x2.length = 0 ∨ y1.length = 0 → ∀ w, SL B w0 (some ⟨g, 0, none⟩) cap n (A ++ ((x1 ++ x2) ++ ((y1 ++ y2) ++ C))) w → SL B w0 (some ⟨g, 0, none⟩) cap n (A ++ (x1 ++ (y1 ++ (x2 ++ (y2 ++ C))))) w) := Lib.hid fun g1 w hw => by
        rcases g1 with g1 | g1
        · obtain rfl := List.eq_nil_of_length_eq_zero g1
          simpa using hw
        · obtain rfl := List.eq_nil_of_length_eq_zero g1
          simpa using hw
      have HN1 : Hid (x1.length = 0 ∨ y1.length = 0 → ∀ w, SL B w0 (some ⟨g, 0, none⟩) cap n (A ++ (x1 ++ (y1 ++ (x2 ++ (y2 ++ C))))) w → ∃ z1, Le z1 ∧ Stab (x1 ++ y1) z1 ∧ SL B w0 (some ⟨g, 0, none⟩) cap n (A ++ (z1 ++ (x2 ++ (y2 ++ C)))) w) := Lib.hid fun g1 w hw => by
        refine ⟨x1 ++ y1, ?_, Stab.refl _, by simpa using hw⟩
        rcases g1 with g1 | g1
        · obtain rfl := List.eq_nil_of_length_eq_zero g1
          exact hYl.left
        · obtain rfl := List.eq_nil_of_length_eq_zero g1
          rw [List.append_nil]
          exact hXl.left
      have HN2 : Hid (x2.length = 0 ∨ y2.length = 0 → Le (x2 ++ y2)) := Lib.hid fun g1 => by
        rcases g1 with g1 | g1
        · obtain rfl := List.eq_nil_of_length_eq_zero g1
          exact hYl.right
        · obtain rfl := List.eq_nil_of_length_eq_zero g1
          rw [List.append_nil]
          exact hXl.right
      clear hX hY h1 h2 hXl hYl HI HS heq
      have hl1 : 1 ≤ x1.length ∨ x1.length = 0 := by omega
      have hl2 : 1 ≤ x2.length ∨ x2.length = 0 := by omega
      have hl3 : 1 ≤ y1.length ∨ y1.length = 0 := by omega
      have hl4 : 1 ≤ y2.length ∨ y2.length = 0 := by omega
      rcases hl1 with hl1 | hl1 <;> rcases hl2 with hl2 | hl2 <;> rcases hl3 with hl3 | hl3 <;> rcases hl4 with hl4 | hl4 <;> first | (exfalso; omega) | skip
      ·
        have z1 : (r : Int) < (m : Int) := by omega
        have z2 : (m : Int) < (e : Int) := by omega
        have z3 : (a : Int) < (r : Int) := by omega
        have z4 : (r : Int) < (d : Int) := by omega
        have z5 : (d : Int) < (e : Int) := by omega
        have z6 : (e : Int) < (b : Int) := by omega
        have L1 := Lib.hid hl1
        have L2 := Lib.hid hl2
        have L3 := Lib.hid hl3
        have L4 := Lib.hid hl4
        clear hl1 hl2 hl3 hl4 hs hm he hb hd
        go_wp2_with (first | (go_at_call 50; (refine (HR.out L2.out L3.out _ HW0.out).mono ?_); rintro r1 w1 ⟨rfl, hw1⟩; have HW1 := Lib.hid hw1; clear hw1) | (go_at_call 44; first | ((with_reducible refine (HI1.out L1.out L3.out _ HW1.out).mono ?_); rintro r2 w2 ⟨rfl, hw2⟩; have HW2 := Lib.hid hw2; clear hw2) | (obtain ⟨z1, le1, st1, hz1⟩ := HW2.out; (with_reducible refine (HI2.out L2.out L4.out _ _ st1.len.symm hz1).mono ?_); rintro r3 w3 ⟨rfl, hw3⟩; have HW3 := Lib.hid (show ∃ z1 z2, Le z1 ∧ Stab (x1 ++ y1) z1 ∧ Le z2 ∧ Stab (x2 ++ y2) z2 ∧ SL B w0 (some ⟨g, 0, none⟩) cap n (A ++ (z1 ++ (z2 ++ C))) w3 from (by obtain ⟨z2, le2, st2, hz2⟩ := hw3; exact ⟨z1, z2, le1, st1, le2, st2, hz2⟩)); clear hw3 hz1 le1 st1)))
        go_end0
        obtain ⟨z1, z2, le1, st1, le2, st2, hz⟩ := HW3.out
        exact ⟨rfl, z1 ++ z2, (HF.out z1 z2 le1 st1 le2 st2).1, (HF.out z1 z2 le1 st1 le2 st2).2, by simpa using hz⟩
      ·
        have z1 : (r : Int) < (m : Int) := by omega
        have z2 : (m : Int) < (e : Int) := by omega
        have z3 : (a : Int) < (r : Int) := by omega
        have z4 : (r : Int) < (d : Int) := by omega
        have z5 : (d : Int) < (e : Int) := by omega
        have z6 : ¬ (e : Int) < (b : Int) := by omega
        have N2 := Lib.hid (show x2.length = 0 ∨ y2.length = 0 by omega)
        have L1 := Lib.hid hl1
        have L2 := Lib.hid hl2
        have L3 := Lib.hid hl3
        have L4 := Lib.hid hl4
        clear hl1 hl2 hl3 hl4 hs hm he hb hd
        go_wp2_with (first | (go_at_call 50; (refine (HR.out L2.out L3.out _ HW0.out).mono ?_); rintro r1 w1 ⟨rfl, hw1⟩; have HW1 := Lib.hid hw1; clear hw1) | (go_at_call 44; first | ((with_reducible refine (HI1.out L1.out L3.out _ HW1.out).mono ?_); rintro r2 w2 ⟨rfl, hw2⟩; have HW2 := Lib.hid hw2; clear hw2)))
        go_end0
        obtain ⟨z1, le1, st1, hz⟩ := HW2.out
        have le2 := HN2.out N2.out
        exact ⟨rfl, z1 ++ (x2 ++ y2), (HF.out z1 _ le1 st1 le2 (Stab.refl _)).1, (HF.out z1 _ le1 st1 le2 (Stab.refl _)).2, by simpa using hz⟩
      ·
        have z1 : (r : Int) < (m : Int) := by omega
        have z2 : ¬ (m : Int) < (e : Int) := by omega
        have z3 : (a : Int) < (r : Int) := by omega
        have z4 : ¬ (r : Int) < (d : Int) := by omega
        have z5 : (d : Int) < (e : Int) := by omega
        have z6 : (e : Int) < (b : Int) := by omega
        have HW1 := Lib.hid (HN.out (by omega) _ HW0.out)
        have N1 := Lib.hid (show x1.length = 0 ∨ y1.length = 0 by omega)
        have HW2 := Lib.hid (HN1.out N1.out _ HW1.out)
        have L1 := Lib.hid hl1
        have L2 := Lib.hid hl2
        have L3 := Lib.hid hl3
        have L4 := Lib.hid hl4
        clear hl1 hl2 hl3 hl4 hs hm he hb hd
        go_wp2_with (first | (go_at_call 44; first | (obtain ⟨z1, le1, st1, hz1⟩ := HW2.out; (with_reducible refine (HI2.out L2.out L4.out _ _ st1.len.symm hz1).mono ?_); rintro r3 w3 ⟨rfl, hw3⟩; have HW3 := Lib.hid (show ∃ z1 z2, Le z1 ∧ Stab (x1 ++ y1) z1 ∧ Le z2 ∧ Stab (x2 ++ y2) z2 ∧ SL B w0 (some ⟨g, 0, none⟩) cap n (A ++ (z1 ++ (z2 ++ C))) w3 from (by obtain ⟨z2, le2, st2, hz2⟩ := hw3; exact ⟨z1, z2, le1, st1, le2, st2, hz2⟩)); clear hw3 hz1 le1 st1)))
        go_end0
        obtain ⟨z1, z2, le1, st1, le2, st2, hz⟩ := HW3.out
        exact ⟨rfl, z1 ++ z2, (HF.out z1 z2 le1 st1 le2 st2).1, (HF.out z1 z2 le1 st1 le2 st2).2, by simpa using hz⟩
      ·
        have z1 : (r : Int) < (m : Int) := by omega
        have z2 : (m : Int) < (e : Int) := by omega
        have z3 : ¬ (a : Int) < (r : Int) := by omega
        have z4 : (r : Int) < (d : Int) := by omega
        have z5 : (d : Int) < (e : Int) := by omega
        have z6 : ¬ (e : Int) < (b : Int) := by omega
        have N1 := Lib.hid (show x1.length = 0 ∨ y1.length = 0 by omega)
        have N2 := Lib.hid (show x2.length = 0 ∨ y2.length = 0 by omega)
        have L1 := Lib.hid hl1
        have L2 := Lib.hid hl2
        have L3 := Lib.hid hl3
        have L4 := Lib.hid hl4
        clear hl1 hl2 hl3 hl4 hs hm he hb hd
        go_wp2_with (first | (go_at_call 50; (refine (HR.out L2.out L3.out _ HW0.out).mono ?_); rintro r1 w1 ⟨rfl, hw1⟩; have HW1 := Lib.hid hw1; clear hw1; have HW2 := Lib.hid (HN1.out N1.out _ HW1.out)))
        go_end0
        obtain ⟨z1, le1, st1, hz⟩ := HW2.out
        have le2 := HN2.out N2.out
        exact ⟨rfl, z1 ++ (x2 ++ y2), (HF.out z1 _ le1 st1 le2 (Stab.refl _)).1, (HF.out z1 _ le1 st1 le2 (Stab.refl _)).2, by simpa using hz⟩
end Go.Proofs.Ytabmdhbikedhmaa
