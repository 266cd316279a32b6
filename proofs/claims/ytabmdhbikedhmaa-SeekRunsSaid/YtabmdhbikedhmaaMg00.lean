import Derived.Test.YtabmdhbikedhmaaSeekMid
import Derived.Test.YtabmdhbikedhmaaSeekSym3
import Derived.Lib.SliceRun
import Derived.Test.YtabmdhbikedhmaaMemMath
import Derived.Test.YtabmdhbikedhmaaSeekIns
import Derived.Test.YtabmdhbikedhmaaSeekC

/-
  The library's merge of two parts that are in order, in place: of each there are more; the middle is not ahead of it.
-/
namespace Go.Proofs.Ytabmdhbikedhmaa
open Go.RowKit

set_option maxRecDepth 100000 in
set_option maxHeartbeats 2000000 in
theorem sym_le {B g cap n a m b K : Nat} {w0 w : World} {A X Y C : List Ent} (ih : SymTo B g cap n w0 K) (h : SL B w0 (some ⟨g, 0, none⟩) cap n (A ++ (X ++ (Y ++ C))) w) (ha : a = A.length) (hm : m = a + X.length) (hb : b = m + Y.length) (hX : Le X) (hY : Le Y) (h2 : 2 ≤ X.length) (h3 : 2 ≤ Y.length) (hK : X.length + Y.length ≤ K + 1) (hn : n ≤ 1000) (hdm : ¬ (a + b) / 2 < m) :
    Calls Try.prog 44 #[.slice (some ⟨g, 0, none⟩) n cap, .int .i64 a, .int .i64 m, .int .i64 b, .func (.func 29) #[] #[]] w fun e w' => e = .returned (.tuple #[]) ∧ ∃ Z, Le Z ∧ Stab (X ++ Y) Z ∧ SL B w0 (some ⟨g, 0, none⟩) cap n (A ++ (Z ++ C)) w' := by
  have hlen := h.len
  simp only [List.length_append] at hlen
  have hbn : b ≤ n := by omega
  have ham : a + 2 ≤ m := by omega
  have hmb : m + 2 ≤ b := by omega
  have hbK : b - a ≤ K + 1 := by omega
  obtain ⟨xl, hxl⟩ : ∃ xl, xl = m - a := ⟨_, rfl⟩
  obtain ⟨yl, hyl⟩ : ∃ yl, yl = b - m := ⟨_, rfl⟩
  have hma : (m : Int) - (a : Int) = (xl : Int) := by omega
  have hm1 : ((xl : Int) == 1) = false := by simp; omega
  have hbm : (b : Int) - (m : Int) = (yl : Int) := by omega
  have hb1 : ((yl : Int) == 1) = false := by simp; omega
  obtain ⟨d, hd⟩ : ∃ d, d = (a + b) / 2 := ⟨_, rfl⟩
  rw [← hd] at hdm
  have hdz : ((a : Int) + (b : Int)) / 2 = (d : Int) := by omega
  obtain ⟨q, hq⟩ : ∃ q, q = d + m := ⟨_, rfl⟩
  have hqz : (d : Int) + (m : Int) = (q : Int) := by omega
  obtain ⟨p, hp⟩ : ∃ p, p + 1 = q := ⟨q - 1, by omega⟩
  have hpz : (q : Int) - 1 = (p : Int) := by omega
  have had : a < d := by omega
  have hdb : d < b := by omega
  have hqn : q ≤ 2000 := by omega
  obtain ⟨L, hL⟩ : ∃ L, L = A ++ (X ++ (Y ++ C)) := ⟨_, rfl⟩
  rw [← hL] at h
  have lx : ∀ t, t < X.length → L.getD (a + t) Ent.none_ = X.getD t Ent.none_ := fun t ht => by
    rw [hL, getD_right (by omega), getD_left (by omega)]
    congr 1
    omega
  have ly : ∀ t, t < Y.length → L.getD (m + t) Ent.none_ = Y.getD t Ent.none_ := fun t ht => by
    rw [hL, ← List.append_assoc, getD_right (by simp; omega), getD_left (by simp; omega)]
    congr 1
    simp
    omega
  have LX : ∀ c c', a ≤ c → c ≤ c' → c' < m → (L.getD c Ent.none_).cmp (L.getD c' Ent.none_) ≤ 0 := fun c c' h1 h2 h3 => by
    have := le_at' hX (i := c - a) (j := c' - a) (by omega) (by omega)
    rwa [← lx _ (by omega), ← lx _ (by omega), show a + (c - a) = c by omega, show a + (c' - a) = c' by omega] at this
  have LY : ∀ c c', m ≤ c → c ≤ c' → c' < b → (L.getD c Ent.none_).cmp (L.getD c' Ent.none_) ≤ 0 := fun c c' h1 h2 h3 => by
    have := le_at' hY (i := c - m) (j := c' - m) (by omega) (by omega)
    rwa [← ly _ (by omega), ← ly _ (by omega), show m + (c - m) = c by omega, show m + (c' - m) = c' by omega] at this
  have hdmz : ¬ (d : Int) < (m : Int) := by omega
  have hMid : Mid L X Y a m b d q p a m := ⟨hd, hq, hp, ham, hmb, hm, hb, lx, ly, LX, LY, by omega, by omega, by omega, by omega, by omega, by omega, by omega⟩
  have HMID := Lib.hid hMid
  have HL := Lib.hid hL
  have HS := Lib.hid h
  have HA := Lib.hid ha
  have HX := Lib.hid hX
  have HY := Lib.hid hY
  have IH := Lib.hid ih
  have HP := Lib.hid hp
  clear hlen hL h ha hm hb hX hY h2 h3 hK lx ly ih hxl hyl hd hq hp LX LY hMid hdm
  go_enter Try.func44, Try.ntmps44
  go_wp2
  go_loopg [20, 21] (m - a) (fun kx s20 s21 wr => ∃ s r : Nat, s20 = .int .i64 s ∧ s21 = .int .i64 r ∧ a ≤ s ∧ s ≤ r ∧ r ≤ m ∧ r - s ≤ kx ∧ Hid (Found L p a m s r) ∧ Hid (SL B w0 (some ⟨g, 0, none⟩) cap n (L) wr))
  case atStart => exact ⟨a, m, rfl, rfl, by have := HMID.out.s0a; omega, HMID.out.sr, HMID.out.r0m, by have := HMID.out.s0a; have := HMID.out.r0m; omega, Lib.hid HMID.out.start, HS⟩
  case round =>
    clear HS
    obtain ⟨s, r, rfl, rfl, has, hsr, hrm, hk, HI, HS⟩ := hrel
    by_cases hlt : s < r
    · have hltz : (s : Int) < (r : Int) := by omega
      obtain ⟨h, hh⟩ : ∃ h : Nat, h = (s + r) / 2 := ⟨_, rfl⟩
      have h1 : s ≤ h := by omega
      have h2 : h < r := by omega
      have hhz : ((s : Int) + (r : Int)) / 2 = (h : Int) := by omega
      have hhn : (h : Int) < (n : Int) := by omega
      clear hh
      obtain ⟨e, he⟩ : ∃ e, e = p - h := ⟨_, rfl⟩
      have hen : e < n := by have := HI.out.1; have := HMID.out.hqs; have := HP.out; omega
      have hez : (p : Int) - (h : Int) = (e : Int) := by have := HI.out.2.1; have := HMID.out.hrq; have := HP.out; omega
      have henz : (e : Int) < (n : Int) := by omega
      have re : IntKind.i64.wrap (e : Int) = (e : Int) := by rw [IntKind.wrap_i64]; omega
      obtain ⟨x, gy⟩ : ∃ x, L.getD h Ent.none_ = x := ⟨_, rfl⟩
      obtain ⟨y, gx⟩ : ∃ y, L.getD e Ent.none_ = y := ⟨_, rfl⟩
      have hs := HS.out
      have c0 := fun z_ os => ((hs.shift z_ os).cells (i := e) (by omega)).1
      have c1 := fun z_ os => ((hs.shift z_ os).cells (i := e) (by omega)).2.1
      have c2 := fun z_ os => ((hs.shift z_ os).cells (i := e) (by omega)).2.2.1
      have c3 := fun z_ os => ((hs.shift z_ os).cells (i := e) (by omega)).2.2.2
      have d0 := fun z_ os => ((hs.shift z_ os).cells (i := h) (by omega)).1
      have d1 := fun z_ os => ((hs.shift z_ os).cells (i := h) (by omega)).2.1
      have d2 := fun z_ os => ((hs.shift z_ os).cells (i := h) (by omega)).2.2.1
      have d3 := fun z_ os => ((hs.shift z_ os).cells (i := h) (by omega)).2.2.2
      have hc := fun z_ os => hs.compare (i := e) (j := h) (by omega) (by omega) z_ os
      rw [gx] at c0 c1 c2 c3
      rw [gy] at d0 d1 d2 d3
      rw [gx, gy] at hc
      have HC := Lib.hid hc
      clear hc
      have HE := Lib.hid (show L.getD (p - h) Ent.none_ = y by rw [← he]; exact gx)
      have HH := Lib.hid gy
      clear hs gx gy he
      by_cases hv : y.cmp x < 0
      · have HV := Lib.hid hv
        have hv2 : (!decide (y.cmp x < 0)) = false := by simp; omega
        go_wp2_with fail
        refine wp_region_shift (by kernel_rfl) (by kernel_rfl) ?_
        repeat (quiet_step (exact HC.out _ _))
        refine wpQuiet_nil ?_
        intro _ hw'
        obtain ⟨⟨nq, osq⟩, hw''⟩ := hw'
        subst hw''
        have hz := HS.out.shift nq osq
        clear c0 c1 c2 c3 d0 d1 d2 d3 HC
        generalize shiftW wr nq osq = wz at hz ⊢
        have HZ := Lib.hid hz
        clear hz
        go_wp2
        go_roundg (h - s)
        case measure => omega
        case rel => exact ⟨s, h, rfl, rfl, has, h1, by omega, Nat.le_refl _, Lib.hid (HMID.out.low HI.out h1 h2 (by rw [HE.out, HH.out]; exact HV.out)), HZ⟩
      · have HV := Lib.hid hv
        have hv2 : (!decide (y.cmp x < 0)) = true := by simp; omega
        go_wp2_with fail
        refine wp_region_shift (by kernel_rfl) (by kernel_rfl) ?_
        repeat (quiet_step (exact HC.out _ _))
        refine wpQuiet_nil ?_
        intro _ hw'
        obtain ⟨⟨nq, osq⟩, hw''⟩ := hw'
        subst hw''
        have hz := HS.out.shift nq osq
        clear c0 c1 c2 c3 d0 d1 d2 d3 HC
        generalize shiftW wr nq osq = wz at hz ⊢
        have HZ := Lib.hid hz
        clear hz
        go_wp2
        go_roundg (r - (h + 1))
        case measure => omega
        case rel => exact ⟨h + 1, r, by go_num, rfl, by omega, by omega, hrm, Nat.le_refl _, Lib.hid (HMID.out.high HI.out h1 h2 (by rw [HE.out, HH.out]; have := HV.out; omega)), HZ⟩
    · have hltz : ¬ (s : Int) < (r : Int) := by omega
      obtain rfl : r = s := by omega
      obtain ⟨x1, x2, y1, y2, hX, hY, hs, hm, he, hb, hd, hsq, h1, h2⟩ := HMID.out.parts HI.out
      obtain ⟨e, heq⟩ : ∃ e, e = q - r := ⟨_, rfl⟩
      rw [← heq] at he hb
      have hez : (q : Int) - (r : Int) = (e : Int) := by omega
      have hae : a ≤ e := by omega
      have heb : e ≤ b := by omega
      have HW0 : Hid (SL B w0 (some ⟨g, 0, none⟩) cap n (A ++ ((x1 ++ x2) ++ ((y1 ++ y2) ++ C))) wr) := Lib.hid (by have := HS.out; rw [HL.out, hX, hY] at this; exact this)
      have hXl : Le (x1 ++ x2) := by rw [← hX]; exact HX.out
      have hYl : Le (y1 ++ y2) := by rw [← hY]; exact HY.out
      have HF : Hid (∀ z1 z2, Le z1 → Stab (x1 ++ y1) z1 → Le z2 → Stab (x2 ++ y2) z2 → Le (z1 ++ z2) ∧ Stab (X ++ Y) (z1 ++ z2)) := Lib.hid fun z1 z2 l1 s1 l2 s2 => by
        rw [hX, hY]
        exact halves hXl hYl h1 h2 l1 l2 s1 s2
      have HR : Hid (1 ≤ x2.length → 1 ≤ y1.length → ∀ w, SL B w0 (some ⟨g, 0, none⟩) cap n (A ++ ((x1 ++ x2) ++ ((y1 ++ y2) ++ C))) w → Calls Try.prog 50 #[.slice (some ⟨g, 0, none⟩) n cap, .int .i64 r, .int .i64 m, .int .i64 e, .func (.func 29) #[] #[]] w fun e w' => e = .returned (.tuple #[]) ∧ SL B w0 (some ⟨g, 0, none⟩) cap n (A ++ (x1 ++ (y1 ++ (x2 ++ (y2 ++ C))))) w') := Lib.hid fun g1 g2 w hw => by
        have e0 : A ++ ((x1 ++ x2) ++ ((y1 ++ y2) ++ C)) = (A ++ x1) ++ (x2 ++ (y1 ++ (y2 ++ C))) := by simp
        have e1 : A ++ (x1 ++ (y1 ++ (x2 ++ (y2 ++ C)))) = (A ++ x1) ++ (y1 ++ (x2 ++ (y2 ++ C))) := by simp
        rw [e0] at hw
        rw [e1]
        exact rotate_any hw (by have := HA.out; simp; omega) (by have := HA.out; simp; omega) (by have := HA.out; simp; omega) g1 g2 hn
      have HI1 : Hid (1 ≤ x1.length → 1 ≤ y1.length → ∀ w, SL B w0 (some ⟨g, 0, none⟩) cap n (A ++ (x1 ++ (y1 ++ (x2 ++ (y2 ++ C))))) w → Calls Try.prog 44 #[.slice (some ⟨g, 0, none⟩) n cap, .int .i64 a, .int .i64 r, .int .i64 d, .func (.func 29) #[] #[]] w fun e w' => e = .returned (.tuple #[]) ∧ ∃ z1, Le z1 ∧ Stab (x1 ++ y1) z1 ∧ SL B w0 (some ⟨g, 0, none⟩) cap n (A ++ (z1 ++ (x2 ++ (y2 ++ C)))) w') := Lib.hid fun g1 g2 w hw =>
        IH.out A x1 y1 _ a r d w hw HA.out hs hd hXl.left hYl.left g1 g2 (by omega)
      have HI2 : Hid (1 ≤ x2.length → 1 ≤ y2.length → ∀ w z1, z1.length = (x1 ++ y1).length → SL B w0 (some ⟨g, 0, none⟩) cap n (A ++ (z1 ++ (x2 ++ (y2 ++ C)))) w → Calls Try.prog 44 #[.slice (some ⟨g, 0, none⟩) n cap, .int .i64 d, .int .i64 e, .int .i64 b, .func (.func 29) #[] #[]] w fun e w' => e = .returned (.tuple #[]) ∧ ∃ z2, Le z2 ∧ Stab (x2 ++ y2) z2 ∧ SL B w0 (some ⟨g, 0, none⟩) cap n (A ++ (z1 ++ (z2 ++ C))) w') := Lib.hid fun g1 g2 w z1 hz hw => by
        rw [← List.append_assoc] at hw
        have := IH.out (A ++ z1) x2 y2 C d e b w hw (by have := HA.out; rw [List.length_append] at hz ⊢; omega) (by omega) hb hXl.right hYl.right g1 g2 (by omega)
        refine this.mono ?_
        rintro e w' ⟨rfl, z2, l2, s2, hz2⟩
        exact ⟨rfl, z2, l2, s2, by simpa using hz2⟩
      have HN : Hid (x2.length = 0 ∨ y1.length = 0 → ∀ w, SL B w0 (some ⟨g, 0, none⟩) cap n (A ++ ((x1 ++ x2) ++ ((y1 ++ y2) ++ C))) w → SL B w0 (some ⟨g, 0, none⟩) cap n (A ++ (x1 ++ (y1 ++ (x2 ++ (y2 ++ C))))) w) := Lib.hid fun g1 w hw => by
        rcases g1 with g1 | g1
        · obtain rfl := List.eq_nil_of_length_eq_zero g1
          simpa using hw
        · obtain rfl := List.eq_nil_of_length_eq_zero g1
          simpa using hw
      have HN1 : Hid (x1.length = 0 ∨ y1.length = 0 → ∀ w, SL B w0 (some ⟨g, 0, none⟩) cap n (A ++ (x1 ++ (y1 ++ (x2 ++ (y2 ++ C))))) w → ∃ z1, Le z1 ∧ Stab (x1 ++ y1) z1 ∧ SL B w0 (some ⟨g, 0, none⟩) cap n (A ++ (z1 ++ (x2 ++ (y2 ++ C)))) w) := Lib.hid fun g1 w hw => by
        refine ⟨x1 ++ y1, ?_, Stab.refl _, by simpa using hw⟩
        rcases g1 with g1 | g1
        · obtain rfl := List.eq_nil_of_length_eq_zero g1
          exact hYl.left
        · obtain rfl := List.eq_nil_of_length_eq_zero g1
          rw [List.append_nil]
          exact hXl.left
      have HN2 : Hid (x2.length = 0 ∨ y2.length = 0 → Le (x2 ++ y2)) := Lib.hid fun g1 => by
        rcases g1 with g1 | g1
        · obtain rfl := List.eq_nil_of_length_eq_zero g1
          exact hYl.right
        · obtain rfl := List.eq_nil_of_length_eq_zero g1
          rw [List.append_nil]
          exact hXl.right
      clear hX hY h1 h2 hXl hYl HI HS heq
      have hl1 : 1 ≤ x1.length ∨ x1.length = 0 := by omega
      have hl2 : 1 ≤ x2.length ∨ x2.length = 0 := by omega
      have hl3 : 1 ≤ y1.length ∨ y1.length = 0 := by omega
      have hl4 : 1 ≤ y2.length ∨ y2.length = 0 := by omega
      rcases hl1 with hl1 | hl1 <;> rcases hl2 with hl2 | hl2 <;> rcases hl3 with hl3 | hl3 <;> rcases hl4 with hl4 | hl4 <;> first | (exfalso; omega) | skip
      ·
        have z1 : (r : Int) < (m : Int) := by omega
        have z2 : (m : Int) < (e : Int) := by omega
        have z3 : (a : Int) < (r : Int) := by omega
        have z4 : (r : Int) < (d : Int) := by omega
        have z5 : (d : Int) < (e : Int) := by omega
        have z6 : (e : Int) < (b : Int) := by omega
        have L1 := Lib.hid hl1
        have L2 := Lib.hid hl2
        have L3 := Lib.hid hl3
        have L4 := Lib.hid hl4
        clear hl1 hl2 hl3 hl4 hs hm he hb hd
        go_wp2_with (first | (go_at_call 50; (refine (HR.out L2.out L3.out _ HW0.out).mono ?_); rintro r1 w1 ⟨rfl, hw1⟩; have HW1 := Lib.hid hw1; clear hw1) | (go_at_call 44; first | ((with_reducible refine (HI1.out L1.out L3.out _ HW1.out).mono ?_); rintro r2 w2 ⟨rfl, hw2⟩; have HW2 := Lib.hid hw2; clear hw2) | (obtain ⟨z1, le1, st1, hz1⟩ := HW2.out; (with_reducible refine (HI2.out L2.out L4.out _ _ st1.len.symm hz1).mono ?_); rintro r3 w3 ⟨rfl, hw3⟩; have HW3 := Lib.hid (show ∃ z1 z2, Le z1 ∧ Stab (x1 ++ y1) z1 ∧ Le z2 ∧ Stab (x2 ++ y2) z2 ∧ SL B w0 (some ⟨g, 0, none⟩) cap n (A ++ (z1 ++ (z2 ++ C))) w3 from (by obtain ⟨z2, le2, st2, hz2⟩ := hw3; exact ⟨z1, z2, le1, st1, le2, st2, hz2⟩)); clear hw3 hz1 le1 st1)))
        go_end0
        obtain ⟨z1, z2, le1, st1, le2, st2, hz⟩ := HW3.out
        exact ⟨rfl, z1 ++ z2, (HF.out z1 z2 le1 st1 le2 st2).1, (HF.out z1 z2 le1 st1 le2 st2).2, by simpa using hz⟩
      ·
        have z1 : ¬ (r : Int) < (m : Int) := by omega
        have z2 : (m : Int) < (e : Int) := by omega
        have z3 : (a : Int) < (r : Int) := by omega
        have z4 : (r : Int) < (d : Int) := by omega
        have z5 : ¬ (d : Int) < (e : Int) := by omega
        have z6 : (e : Int) < (b : Int) := by omega
        have HW1 := Lib.hid (HN.out (by omega) _ HW0.out)
        have N2 := Lib.hid (show x2.length = 0 ∨ y2.length = 0 by omega)
        have L1 := Lib.hid hl1
        have L2 := Lib.hid hl2
        have L3 := Lib.hid hl3
        have L4 := Lib.hid hl4
        clear hl1 hl2 hl3 hl4 hs hm he hb hd
        go_wp2_with (first | (go_at_call 44; first | ((with_reducible refine (HI1.out L1.out L3.out _ HW1.out).mono ?_); rintro r2 w2 ⟨rfl, hw2⟩; have HW2 := Lib.hid hw2; clear hw2)))
        go_end0
        obtain ⟨z1, le1, st1, hz⟩ := HW2.out
        have le2 := HN2.out N2.out
        exact ⟨rfl, z1 ++ (x2 ++ y2), (HF.out z1 _ le1 st1 le2 (Stab.refl _)).1, (HF.out z1 _ le1 st1 le2 (Stab.refl _)).2, by simpa using hz⟩
      ·
        have z1 : ¬ (r : Int) < (m : Int) := by omega
        have z2 : ¬ (m : Int) < (e : Int) := by omega
        have z3 : (a : Int) < (r : Int) := by omega
        have z4 : ¬ (r : Int) < (d : Int) := by omega
        have z5 : ¬ (d : Int) < (e : Int) := by omega
        have z6 : (e : Int) < (b : Int) := by omega
        have HW1 := Lib.hid (HN.out (by omega) _ HW0.out)
        have N1 := Lib.hid (show x1.length = 0 ∨ y1.length = 0 by omega)
        have N2 := Lib.hid (show x2.length = 0 ∨ y2.length = 0 by omega)
        have HW2 := Lib.hid (HN1.out N1.out _ HW1.out)
        have L1 := Lib.hid hl1
        have L2 := Lib.hid hl2
        have L3 := Lib.hid hl3
        have L4 := Lib.hid hl4
        clear hl1 hl2 hl3 hl4 hs hm he hb hd
        go_wp2
        go_end0
        obtain ⟨z1, le1, st1, hz⟩ := HW2.out
        have le2 := HN2.out N2.out
        exact ⟨rfl, z1 ++ (x2 ++ y2), (HF.out z1 _ le1 st1 le2 (Stab.refl _)).1, (HF.out z1 _ le1 st1 le2 (Stab.refl _)).2, by simpa using hz⟩
      ·
        have z1 : (r : Int) < (m : Int) := by omega
        have z2 : (m : Int) < (e : Int) := by omega
        have z3 : ¬ (a : Int) < (r : Int) := by omega
        have z4 : (r : Int) < (d : Int) := by omega
        have z5 : (d : Int) < (e : Int) := by omega
        have z6 : (e : Int) < (b : Int) := by omega
        have N1 := Lib.hid (show x1.length = 0 ∨ y1.length = 0 by omega)
        have L1 := Lib.hid hl1
        have L2 := Lib.hid hl2
        have L3 := Lib.hid hl3
        have L4 := Lib.hid hl4
        clear hl1 hl2 hl3 hl4 hs hm he hb hd
        go_wp2_with (first | (go_at_call 50; (refine (HR.out L2.out L3.out _ HW0.out).mono ?_); rintro r1 w1 ⟨rfl, hw1⟩; have HW1 := Lib.hid hw1; clear hw1; have HW2 := Lib.hid (HN1.out N1.out _ HW1.out)) | (go_at_call 44; first | (obtain ⟨z1, le1, st1, hz1⟩ := HW2.out; (with_reducible refine (HI2.out L2.out L4.out _ _ st1.len.symm hz1).mono ?_); rintro r3 w3 ⟨rfl, hw3⟩; have HW3 := Lib.hid (show ∃ z1 z2, Le z1 ∧ Stab (x1 ++ y1) z1 ∧ Le z2 ∧ Stab (x2 ++ y2) z2 ∧ SL B w0 (some ⟨g, 0, none⟩) cap n (A ++ (z1 ++ (z2 ++ C))) w3 from (by obtain ⟨z2, le2, st2, hz2⟩ := hw3; exact ⟨z1, z2, le1, st1, le2, st2, hz2⟩)); clear hw3 hz1 le1 st1)))
        go_end0
        obtain ⟨z1, z2, le1, st1, le2, st2, hz⟩ := HW3.out
        exact ⟨rfl, z1 ++ z2, (HF.out z1 z2 le1 st1 le2 st2).1, (HF.out z1 z2 le1 st1 le2 st2).2, by simpa using hz⟩
      ·
        have z1 : (r : Int) < (m : Int) := by omega
        have z2 : (m : Int) < (e : Int) := by omega
        have z3 : ¬ (a : Int) < (r : Int) := by omega
        have z4 : (r : Int) < (d : Int) := by omega
        have z5 : (d : Int) < (e : Int) := by omega
        have z6 : ¬ (e : Int) < (b : Int) := by omega
        have N1 := Lib.hid (show x1.length = 0 ∨ y1.length = 0 by omega)
        have N2 := Lib.hid (show x2.length = 0 ∨ y2.length = 0 by omega)
        have L1 := Lib.hid hl1
        have L2 := Lib.hid hl2
        have L3 := Lib.hid hl3
        have L4 := Lib.hid hl4
        clear hl1 hl2 hl3 hl4 hs hm he hb hd
        go_wp2_with (first | (go_at_call 50; (refine (HR.out L2.out L3.out _ HW0.out).mono ?_); rintro r1 w1 ⟨rfl, hw1⟩; have HW1 := Lib.hid hw1; clear hw1; have HW2 := Lib.hid (HN1.out N1.out _ HW1.out)))
        go_end0
        obtain ⟨z1, le1, st1, hz⟩ := HW2.out
        have le2 := HN2.out N2.out
        exact ⟨rfl, z1 ++ (x2 ++ y2), (HF.out z1 _ le1 st1 le2 (Stab.refl _)).1, (HF.out z1 _ le1 st1 le2 (Stab.refl _)).2, by simpa using hz⟩
end Go.Proofs.Ytabmdhbikedhmaa

/-
  slices.SortStableFunc of entries by their keys.
-/
namespace Go.Proofs.Ytabmdhbikedhmaa
open Go.RowKit

theorem sym_any {B g cap n : Nat} {w0 : World} (hn : n ≤ 1000) : ∀ K, SymTo B g cap n w0 K
  | 0 => fun A X Y C a m b w _ _ _ _ _ _ h1 h2 h3 => by omega
  | K + 1 => fun A X Y C a m b w h ha hm hb hX hY h1 h2 h3 => by
    by_cases g1 : X.length = 1
    · obtain ⟨x, rfl⟩ := List.length_eq_one_iff.1 g1
      exact sym_one (by simpa using h) ha (by simpa using hm) hb hY hn
    · by_cases g2 : Y.length = 1
      · obtain ⟨y, rfl⟩ := List.length_eq_one_iff.1 g2
        exact sym_two (by simpa using h) ha hm (by simpa using hb) hX (by omega) hn
      · by_cases g3 : (a + b) / 2 < m
        · exact sym_gt (sym_any hn K) h ha hm hb hX hY (by omega) (by omega) (by omega) hn g3
        · exact sym_le (sym_any hn K) h ha hm hb hX hY (by omega) (by omega) (by omega) hn g3

/-- The parts so far are in order, the rest is as it was. -/
def Stands (B g cap n : Nat) (w0 : World) (l : List Ent) (s a : Nat) (w : World) : Prop :=
  ∃ T D R t, l = T ++ R ∧ Stab T D ∧ Blocks s D ∧ D.length = s * t ∧ a = D.length ∧ SL B w0 (some ⟨g, 0, none⟩) cap n (D ++ R) w
section
variable {B g cap n : Nat} {w0 : World} {l : List Ent} {s a : Nat} {w : World}
theorem Stands.start (h : SL B w0 (some ⟨g, 0, none⟩) cap n l w) : Stands B g cap n w0 l s 0 w := ⟨[], [], l, 0, rfl, Stab.refl _, Blocks.nil _, by simp, rfl, h⟩
/-- One part more is put in order by itself. -/
theorem Stands.part (h : Stands B g cap n w0 l s a w) (hs : 0 < s) (hl : l.length = n) (hb : a + s ≤ n) (hn : n ≤ 1000) :
    Calls Try.prog 43 #[.slice (some ⟨g, 0, none⟩) n cap, .int .i64 a, .int .i64 (a + s : Nat), .func (.func 29) #[] #[]] w fun e w' => e = .returned (.tuple #[]) ∧ Stands B g cap n w0 l s (a + s) w' := by
  obtain ⟨T, D, R, t, h1, h2, h3, h4, rfl, h6⟩ := h
  have hl2 : R.length = n - D.length := by rw [h1, List.length_append, h2.len] at hl; omega
  have e : D ++ R = D ++ (R.take s ++ R.drop s) := by rw [List.take_append_drop]
  rw [e] at h6
  refine (insertion_any h6 rfl (by rw [List.length_take]; omega) hn).mono ?_
  rintro r w' ⟨rfl, S, k1, k2, k3⟩
  have k4 : S.length = s := by rw [← k2.len, List.length_take]; omega
  refine ⟨rfl, T ++ R.take s, D ++ S, R.drop s, t + 1, by rw [List.append_assoc, List.take_append_drop]; exact h1, h2.app k2, h3.snoc k1 h4 (by omega) hs, by rw [List.length_append, k4, h4, Nat.mul_add, Nat.mul_one], by rw [List.length_append, k4], by rw [List.append_assoc]; exact k3⟩
theorem Stands.last (h : Stands B g cap n w0 l s a w) (hs : 0 < s) (hl : l.length = n) (hb : n < a + s) (hn : n ≤ 1000) :
    Calls Try.prog 43 #[.slice (some ⟨g, 0, none⟩) n cap, .int .i64 a, .int .i64 n, .func (.func 29) #[] #[]] w fun e w' => e = .returned (.tuple #[]) ∧ ∃ l', Blocks s l' ∧ Stab l l' ∧ SL B w0 (some ⟨g, 0, none⟩) cap n l' w' := by
  obtain ⟨T, D, R, t, h1, h2, h3, h4, rfl, h6⟩ := h
  have hl3 := hl
  rw [h1, List.length_append, h2.len] at hl3
  have e : D ++ R = D ++ (R ++ []) := by simp
  rw [e] at h6
  refine (insertion_any h6 rfl (by omega) hn).mono ?_
  rintro r w' ⟨rfl, S, k1, k2, k3⟩
  exact ⟨rfl, D ++ S, h3.snoc k1 h4 (by rw [← k2.len]; omega) hs, by rw [h1]; exact h2.app k2, by simpa using k3⟩
/-- Two parts more are laid together. -/
theorem Stands.merge (h : Stands B g cap n w0 l (2 * s) a w) (hs : 0 < s) (hB : Blocks s l) (hl : l.length = n) (hb : a + 2 * s ≤ n) (hn : n ≤ 1000) :
    Calls Try.prog 44 #[.slice (some ⟨g, 0, none⟩) n cap, .int .i64 a, .int .i64 (a + s : Nat), .int .i64 (a + 2 * s : Nat), .func (.func 29) #[] #[]] w fun e w' => e = .returned (.tuple #[]) ∧ Stands B g cap n w0 l (2 * s) (a + 2 * s) w' := by
  obtain ⟨T, D, R, t, h1, h2, h3, h4, rfl, h6⟩ := h
  have hl2 : R.length = n - D.length := by rw [h1, List.length_append, h2.len] at hl; omega
  have e : R = R.take s ++ ((R.drop s).take s ++ R.drop (2 * s)) := by
    rw [show 2 * s = s + s by omega, ← List.drop_drop, List.take_append_drop, List.take_append_drop]
  have lX : (R.take s).length = s := by rw [List.length_take]; omega
  have lY : ((R.drop s).take s).length = s := by rw [List.length_take, List.length_drop]; omega
  have hX : Le (R.take s) := by
    have : l = T ++ (R.take s ++ R.drop s) := by rw [List.take_append_drop]; exact h1
    rw [this] at hB
    exact hB.part (t := 2 * t) (by rw [h2.len, h4, ← Nat.mul_assoc, Nat.mul_comm s 2]) (by omega)
  have hY : Le ((R.drop s).take s) := by
    have : l = (T ++ R.take s) ++ ((R.drop s).take s ++ R.drop (2 * s)) := by rw [List.append_assoc, ← e]; exact h1
    rw [this] at hB
    exact hB.part (t := 2 * t + 1) (by rw [List.length_append, lX, h2.len, h4, Nat.mul_add, ← Nat.mul_assoc, Nat.mul_comm s 2, Nat.mul_one]) (by omega)
  rw [e] at h6
  refine (sym_any hn (2 * s) D _ _ _ _ _ _ w h6 rfl (by omega) (by omega) hX hY (by omega) (by omega) (by omega)).mono ?_
  rintro r w' ⟨rfl, Z, k1, k2, k3⟩
  have k4 : Z.length = 2 * s := by rw [← k2.len, List.length_append]; omega
  refine ⟨rfl, T ++ (R.take s ++ (R.drop s).take s), D ++ Z, R.drop (2 * s), t + 1, by rw [List.append_assoc, List.append_assoc, ← e]; exact h1, h2.app k2, h3.snoc k1 h4 (by omega) (by omega), by rw [List.length_append, k4, h4, Nat.mul_add, Nat.mul_one], by rw [List.length_append, k4], by rw [List.append_assoc]; exact k3⟩
theorem Stands.mergeLast (h : Stands B g cap n w0 l (2 * s) a w) (hs : 0 < s) (hB : Blocks s l) (hl : l.length = n) (hb : n < a + 2 * s) (hm : a + s < n) (hn : n ≤ 1000) :
    Calls Try.prog 44 #[.slice (some ⟨g, 0, none⟩) n cap, .int .i64 a, .int .i64 (a + s : Nat), .int .i64 n, .func (.func 29) #[] #[]] w fun e w' => e = .returned (.tuple #[]) ∧ ∃ l', Blocks (2 * s) l' ∧ Stab l l' ∧ SL B w0 (some ⟨g, 0, none⟩) cap n l' w' := by
  obtain ⟨T, D, R, t, h1, h2, h3, h4, rfl, h6⟩ := h
  have hl2 : R.length = n - D.length := by rw [h1, List.length_append, h2.len] at hl; omega
  have e : R = R.take s ++ (R.drop s ++ []) := by simp
  have lX : (R.take s).length = s := by rw [List.length_take]; omega
  have lY : (R.drop s).length = R.length - s := by rw [List.length_drop]
  have hX : Le (R.take s) := by
    have : l = T ++ (R.take s ++ R.drop s) := by rw [List.take_append_drop]; exact h1
    rw [this] at hB
    exact hB.part (t := 2 * t) (by rw [h2.len, h4, ← Nat.mul_assoc, Nat.mul_comm s 2]) (by omega)
  have hY : Le (R.drop s) := by
    have : l = (T ++ R.take s) ++ (R.drop s ++ []) := by rw [List.append_assoc, ← e]; exact h1
    rw [this] at hB
    exact hB.part (t := 2 * t + 1) (by rw [List.length_append, lX, h2.len, h4, Nat.mul_add, ← Nat.mul_assoc, Nat.mul_comm s 2, Nat.mul_one]) (by omega)
  rw [e] at h6
  refine (sym_any hn (2 * s) D _ _ _ _ _ _ w h6 rfl (by omega) (by omega) hX hY (by omega) (by omega) (by omega)).mono ?_
  rintro r w' ⟨rfl, Z, k1, k2, k3⟩
  have k4 : Z.length = R.length := by rw [← k2.len, List.length_append]; omega
  exact ⟨rfl, D ++ Z, h3.snoc k1 h4 (by omega) (by omega), by rw [h1, ← List.take_append_drop s R]; exact h2.app k2, by simpa using k3⟩
theorem Stands.all (h : Stands B g cap n w0 l (2 * s) a w) (hs : 0 < s) (hB : Blocks s l) (hl : l.length = n) (hm : n ≤ a + s) : ∃ l', Blocks (2 * s) l' ∧ Stab l l' ∧ SL B w0 (some ⟨g, 0, none⟩) cap n l' w := by
  obtain ⟨T, D, R, t, h1, h2, h3, h4, rfl, h6⟩ := h
  have hl3 := hl
  rw [h1, List.length_append, h2.len] at hl3
  have hR : Le R := by
    have : l = T ++ (R ++ []) := by simpa using h1
    rw [this] at hB
    exact hB.part (t := 2 * t) (by rw [h2.len, h4, ← Nat.mul_assoc, Nat.mul_comm s 2]) (by omega)
  exact ⟨D ++ R, h3.snoc hR h4 (by omega) (by omega), by rw [h1]; exact h2.app (Stab.refl _), h6⟩
end

set_option maxRecDepth 100000 in
set_option maxHeartbeats 1000000 in
theorem stable_any {B g cap n : Nat} {w0 w : World} {l : List Ent} (h : SL B w0 (some ⟨g, 0, none⟩) cap n l w) (hn : n ≤ 1000) :
    Calls Try.prog 38 #[.slice (some ⟨g, 0, none⟩) n cap, .int .i64 n, .func (.func 29) #[] #[]] w fun e w' => e = .returned (.tuple #[]) ∧ ∃ l', Le l' ∧ Stab l l' ∧ SL B w0 (some ⟨g, 0, none⟩) cap n l' w' := by
  have HL := Lib.hid h.len
  have HS := Lib.hid (Stands.start (s := 20) h)
  clear h
  go_enter Try.func38, Try.ntmps38
  go_wp2
  go_loopg [7, 8] n (fun kx s7 s8 wr => ∃ a : Nat, s7 = .int .i64 a ∧ s8 = .int .i64 (a + 20 : Nat) ∧ a ≤ n ∧ n - a ≤ kx ∧ Hid (Stands B g cap n w0 l 20 a wr))
  case atStart => exact ⟨0, rfl, rfl, by omega, by omega, HS⟩
  case round =>
    clear HS
    obtain ⟨a, rfl, rfl, han, hk, HS⟩ := hrel
    by_cases hb : a + 20 ≤ n
    · have hbz : (a : Int) + 20 ≤ (n : Int) := by omega
      have HC := Lib.hid (HS.out.part (by omega) HL.out hb hn)
      clear HS
      go_wp2_with (go_at_call 43; (refine HC.out.mono ?_); rintro e w1 ⟨rfl, HS⟩)
      go_roundg (n - (a + 20))
      case measure => omega
      case rel => exact ⟨a + 20, by go_num, by go_num, hb, Nat.le_refl _, HS⟩
    · have hbz : ¬ (a : Int) + 20 ≤ (n : Int) := by omega
      have HC := Lib.hid (HS.out.last (by omega) HL.out (by omega) hn)
      clear HS
      go_wp2_with (go_at_call 43; (refine HC.out.mono ?_); rintro e w1 ⟨rfl, HS⟩)
      clear HC
      have HS := Lib.hid HS
      go_loopg [6] n (fun kx s6 wr => ∃ s : Nat, s6 = .int .i64 s ∧ 20 ≤ s ∧ s ≤ 2000 ∧ n - s ≤ kx ∧ Hid (∃ l', Blocks s l' ∧ Stab l l' ∧ SL B w0 (some ⟨g, 0, none⟩) cap n l' wr))
      case atStart => exact ⟨20, rfl, by omega, by omega, by omega, HS⟩
      case round =>
        clear HS
        obtain ⟨s, rfl, hs1, hs2, hk2, HS⟩ := hrel
        by_cases hsn : s < n
        · have hsz : (s : Int) < (n : Int) := by omega
          obtain ⟨l', hB, hst, hsl⟩ := HS.out
          have HB := Lib.hid hB
          have HST := Lib.hid hst
          have HL2 := Lib.hid hsl.len
          have HQ := Lib.hid (Stands.start (s := 2 * s) hsl)
          clear HS hB hst hsl
          go_wp2
          go_loopg [7, 8] n (fun kx s7 s8 wr => ∃ a : Nat, s7 = .int .i64 a ∧ s8 = .int .i64 (a + 2 * s : Nat) ∧ a ≤ n ∧ n - a ≤ kx ∧ Hid (Stands B g cap n w0 l' (2 * s) a wr))
          case atStart => exact ⟨0, rfl, by go_num, by omega, by omega, HQ⟩
          case round =>
            clear HQ
            obtain ⟨a2, rfl, rfl, han2, hk3, HQ⟩ := hrel
            by_cases hb2 : a2 + 2 * s ≤ n
            · have hbz2 : (a2 : Int) + 2 * (s : Int) ≤ (n : Int) := by omega
              have HC := Lib.hid (HQ.out.merge (by omega) HB.out HL2.out hb2 hn)
              clear HQ
              go_wp2_with (go_at_call 44; (refine HC.out.mono ?_); rintro e w1 ⟨rfl, HS⟩)
              go_roundg (n - (a2 + 2 * s))
              case measure => omega
              case rel => exact ⟨a2 + 2 * s, by go_num, by go_num, hb2, Nat.le_refl _, HS⟩
            · have hbz2 : ¬ (a2 : Int) + 2 * (s : Int) ≤ (n : Int) := by omega
              by_cases hm : a2 + s < n
              · have hmz : (a2 : Int) + (s : Int) < (n : Int) := by omega
                have HC := Lib.hid (HQ.out.mergeLast (by omega) HB.out HL2.out (by omega) hm hn)
                clear HQ
                go_wp2_with (go_at_call 44; (refine HC.out.mono ?_); rintro e w1 ⟨rfl, HS⟩)
                go_roundg (n - 2 * s)
                case measure => omega
                case rel =>
                  obtain ⟨l2, k1, k2, k3⟩ := HS
                  exact ⟨2 * s, by go_num, by omega, by omega, Nat.le_refl _, Lib.hid ⟨l2, k1, HST.out.trans k2, k3⟩⟩
              · have hmz : ¬ (a2 : Int) + (s : Int) < (n : Int) := by omega
                have HC := Lib.hid (HQ.out.all (by omega) HB.out HL2.out (by omega))
                clear HQ
                go_wp2
                go_roundg (n - 2 * s)
                case measure => omega
                case rel =>
                  obtain ⟨l2, k1, k2, k3⟩ := HC.out
                  exact ⟨2 * s, by go_num, by omega, by omega, Nat.le_refl _, Lib.hid ⟨l2, k1, HST.out.trans k2, k3⟩⟩
        · have hsz : ¬ (s : Int) < (n : Int) := by omega
          go_wp2
          go_end0
          obtain ⟨l', hB, hst, hsl⟩ := HS.out
          exact ⟨rfl, l', hB.all (by rw [hsl.len]; omega), hst, hsl⟩

set_option maxRecDepth 100000 in
theorem sortStable_any {B g cap n : Nat} {w0 w : World} {l : List Ent} (h : SL B w0 (some ⟨g, 0, none⟩) cap n l w) (hn : n ≤ 1000) :
    Calls Try.prog 28 #[.slice (some ⟨g, 0, none⟩) n cap, .func (.func 29) #[] #[]] w fun e w' => e = .returned (.tuple #[]) ∧ ∃ l', Le l' ∧ Stab l l' ∧ SL B w0 (some ⟨g, 0, none⟩) cap n l' w' := by
  have HC := Lib.hid (stable_any h hn)
  clear h
  go_enter Try.func28, Try.ntmps28
  go_wp2_with (go_at_call 38; (refine HC.out.mono ?_); rintro e w1 ⟨rfl, HS⟩)
  go_end0
  exact ⟨rfl, HS⟩

set_option maxRecDepth 100000 in
theorem stable_none (a : Option Addr) (cap : Nat) (f : Value) (w : World) :
    Calls Try.prog 38 #[.slice a 0 cap, .int .i64 0, f] w fun e w' => e = .returned (.tuple #[]) ∧ w' = w := by
  have HC := Lib.hid (insertion_none (.slice a 0 cap) f)
  go_enter Try.func38, Try.ntmps38
  go_wp2
  go_loopg [7, 8] 0 (fun _ s7 s8 wr => s7 = .int .i64 0 ∧ s8 = .int .i64 20 ∧ wr = w)
  case atStart => exact ⟨rfl, rfl, rfl⟩
  case round =>
    obtain ⟨rfl, rfl, rfl⟩ := hrel
    go_wp2_with (go_at_call 43; (refine (HC.out _).mono ?_); rintro e w1 ⟨rfl, rfl⟩)
    go_loopg [6] 0 (fun _ s6 wq => s6 = .int .i64 20 ∧ wq = w1)
    case atStart => exact ⟨rfl, rfl⟩
    case round =>
      obtain ⟨rfl, rfl⟩ := hrel
      go_wp2
      go_end0
      exact ⟨rfl, rfl⟩

set_option maxRecDepth 100000 in
theorem sortStable_none (a : Option Addr) (cap : Nat) (f : Value) (w : World) :
    Calls Try.prog 28 #[.slice a 0 cap, f] w fun e w' => e = .returned (.tuple #[]) ∧ w' = w := by
  have HC := Lib.hid (stable_none a cap f)
  go_enter Try.func28, Try.ntmps28
  go_wp2_with (go_at_call 38; (refine (HC.out _).mono ?_); rintro e w1 ⟨rfl, rfl⟩)
  go_end0
  exact ⟨rfl, rfl⟩
end Go.Proofs.Ytabmdhbikedhmaa

/-
  slices.CompactFunc of entries: of those of one key side by side the first stays.
-/
namespace Go.Proofs.Ytabmdhbikedhmaa
open Go.RowKit

/-- Does the entry stay? -/
def keepAt (l : List Ent) (j : Nat) : Bool := j == 0 || !same (l.getD j Ent.none_) (l.getD (j - 1) Ent.none_)
/-- What stays of the first ones. -/
def cpN (l : List Ent) : Nat → List Ent
  | 0 => []
  | j + 1 => cpN l j ++ (if keepAt l j then [l.getD j Ent.none_] else [])
theorem cpN_len (l : List Ent) : ∀ j, (cpN l j).length ≤ j
  | 0 => Nat.le_refl _
  | j + 1 => by
    have := cpN_len l j
    unfold cpN
    rw [List.length_append]
    split
    · rw [List.length_singleton]; omega
    · rw [List.length_nil]; omega
theorem cpN_yes {l : List Ent} {j : Nat} (h : keepAt l j = true) : cpN l (j + 1) = cpN l j ++ [l.getD j Ent.none_] := by unfold cpN; rw [if_pos h]; cases j <;> rfl
theorem cpN_no {l : List Ent} {j : Nat} (h : keepAt l j = false) : cpN l (j + 1) = cpN l j := by unfold cpN; rw [if_neg (by rw [h]; decide), List.append_nil]; cases j <;> rfl
theorem keep_of {l : List Ent} {j u : Nat} {x y : Ent} (hu : u + 1 = j) (hx : l.getD j Ent.none_ = x) (hy : l.getD u Ent.none_ = y) : keepAt l j = !same x y := by
  subst hu
  unfold keepAt
  rw [Nat.add_sub_cancel, hx, hy]
  simp
theorem cpN_take {l : List Ent} {k : Nat} (h : cpN l k = l.take k) (hk : keepAt l k = true) (hl : k < l.length) : cpN l (k + 1) = l.take (k + 1) := by
  rw [cpN_yes hk, h, List.take_succ_eq_append_getElem hl]
  simp [List.getD, hl]

set_option maxRecDepth 100000 in
theorem sameE_any (x y : Ent) (W : World) : Calls Try.prog 32 #[entV x, entV y] W fun e w' => e = .returned (.bool (same x y)) ∧ Below W.heap.size W w' := by
  have hz := cmp_zero x y
  have HSM : Hid (same x y = decide (x.u = y.u ∧ x.s = y.s ∧ x.k = y.k)) := by
    show _ = _
    unfold same
    simp only [hz]
  clear hz
  rw [HSM.out]
  have h0 : x.u.toList = y.u.toList ↔ x.u = y.u := ⟨fun e => by rw [Lib.toList_data, Lib.toList_data] at e; exact ByteArray.ext (Array.toList_inj.1 e), fun e => by rw [e]⟩
  by_cases h1 : x.u.toList = y.u.toList <;> by_cases h2 : x.s = y.s <;> by_cases h3 : x.k = y.k
  all_goals
    have HU := Lib.hid h0
    clear h0
    go_enter Try.func32, Try.ntmps32
    go_wp2
    go_ret
    refine ⟨?_, ((Below.refl _ W).alloc (Nat.le_refl _) _).alloc (by simp) _⟩
    simp [← HU.out, h1, h2, h3]
section
variable {B g : Nat} {w0 W : World} {a : Option Addr} {cap n : Nat} {l : List Ent}
theorem SL.alike (_ : SL B w0 (some ⟨g, 0, none⟩) cap n l W) {i j : Nat} (_ : i < n) (_ : j < n) (m : Nat) (os : Array Obj) :
    Calls Try.prog 32 #[entV (l.getD i Ent.none_), entV (l.getD j Ent.none_)] (shiftW W m os) fun e w'' => e = .returned (.bool (same (l.getD i Ent.none_) (l.getD j Ent.none_))) ∧ ∃ p : ShiftBy, w'' = shiftW W p.n p.os :=
  Calls.shift_of (sameE_any _ _ _)
/-- The first ones alone. -/
theorem SL.front {P R : List Ent} {k : Nat} (h : SL B w0 (some ⟨g, 0, none⟩) cap n (P ++ R) W) (hk : k = P.length) (hn : 0 < n) : SL B w0 (some ⟨g, 0, none⟩) cap k P W := by
  obtain ⟨g', he, hb, cur, hg, hs, hnc, ht⟩ := h.at_ hn
  cases he
  have hl := h.len
  rw [List.length_append] at hl
  have hm : cap ≤ maxLen := by
    rcases h.own.2 with ⟨h1, _⟩ | ⟨_, _, _, hv, _, _, _, hm, _⟩
    · cases h1
    · cases hv; exact hm
  refine ⟨hk.symm, h.below, h.le, ⟨by rw [flat_length], .inr ⟨g, cap, cur, by rw [hk], hb, hg, by omega, hm, hs, ?_⟩⟩, fun e he => h.fits e (List.mem_append_left _ he)⟩
  have h9 := congrArg (List.take (P.length * 4)) ht
  rw [List.take_take, Nat.min_eq_left (by omega), List.flatMap_append, List.take_append_of_le_length (by rw [flat_length]; exact Nat.le_refl _), List.take_of_length_le (l := P.flatMap Ent.cells) (by rw [flat_length]; exact Nat.le_refl _)] at h9
  exact h9
/-- Stores behind it leave it. -/
theorem SL.beyond {P : List Ent} {k o : Nat} (h : SL B w0 (some ⟨g, 0, none⟩) cap k P W) (hk : 0 < k) (ho : k * 4 ≤ o) (vs : List Value) : SL B w0 (some ⟨g, 0, none⟩) cap k P (W.setCells g o vs) := by
  obtain ⟨g', he, hb, cur, hg, hs, hnc, ht⟩ := h.at_ hk
  cases he
  have hm : cap ≤ maxLen := by
    rcases h.own.2 with ⟨h1, _⟩ | ⟨_, _, _, hv, _, _, _, hm, _⟩
    · cases h1
    · cases hv; exact hm
  obtain ⟨cur', k1, k2, k3⟩ := setCells_row vs o W cur hg
  have hB : Below B W (W.setCells g o vs) := Kept.below (kept_setCells (R := fun k => k < B) (by omega) _ _ _ (Kept.refl _ _)) fun _ h => h
  refine ⟨h.len, h.below.trans hB, Nat.le_trans h.le hB.size, ⟨by rw [flat_length], .inr ⟨g, cap, cur', by rw [h.len], hb, k1, by rw [h.len]; exact hnc, hm, by rw [k2, hs], ?_⟩⟩, h.fits⟩
  rw [← ht, h.len]
  refine List.ext_getElem? fun j => ?_
  by_cases hj : j < k * 4
  · have hjc : j < cur.size := by rw [hs]; have := Nat.mul_le_mul_right 4 hnc; omega
    rw [List.getElem?_take_of_lt hj, List.getElem?_take_of_lt hj, Array.getElem?_toList, Array.getElem?_toList, k3 j hjc, if_neg (by omega)]
  · rw [List.getElem?_take_eq_none (by omega), List.getElem?_take_eq_none (by omega)]
def zeroRow (m : Nat) : List Value := (Builtin.zeroCells (Value.agg #[.string ⟨#[]⟩, .int .i64 0, .int .i64 0, .string ⟨#[]⟩]).cells m).toList
theorem zeroRow_len (m : Nat) : (zeroRow m).length = 4 * m ∨ (zeroRow m).length = m * 4 := by
  unfold zeroRow
  first | (left; simp [Builtin.zeroCells, Value.cells]; done) | (right; simp [Builtin.zeroCells, Value.cells]; done)
theorem zeroRow_one (m : Nat) : ∀ v ∈ zeroRow m, v.oneCell' = true := by
  intro v hv
  unfold zeroRow at hv
  have hc : ∀ i, ((Value.agg #[.string ⟨#[]⟩, .int .i64 0, .int .i64 0, .string ⟨#[]⟩]).cells[i % 4]!).oneCell' = true := fun i => by
    have : i % 4 < 4 := Nat.mod_lt _ (by decide)
    generalize i % 4 = r at this
    obtain rfl | rfl | rfl | rfl : r = 0 ∨ r = 1 ∨ r = 2 ∨ r = 3 := by omega
    all_goals rfl
  rw [Builtin.zeroCells, Array.toList_map] at hv
  obtain ⟨i, _, rfl⟩ := List.mem_map.1 hv
  exact hc i
theorem SL.zeroed (h : SL B w0 (some ⟨g, 0, none⟩) cap n l W) {k : Nat} (hk : k < n) (c : Nat) (ty : TypeId) :
    (Builtin.clear_ #[22] ty #[.slice (some ⟨g, k * 4, none⟩) (n - k) c]).run Try.prog W = .ok (.tuple #[]) (W.setCells g (k * 4) (zeroRow (n - k))) := by
  obtain ⟨g', he, hb, cur, hg, hs, hnc, ht⟩ := h.at_ hk
  cases he
  have hll : (zeroRow (n - k)).length = (n - k) * 4 := by rcases zeroRow_len (n - k) with h1 | h1 <;> omega
  have hst := run_storeCells_cells (P := Try.prog) g (k * 4) (zeroRow (n - k)) 0 W (fun j hj => by
    rw [Nat.add_zero, blk_cell hg]
    have : k * 4 + j < cur.size := by rw [hs]; have := Nat.mul_le_mul_right 4 hnc; omega
    simp [this]) (fun j _ => blk_free hg) (zeroRow_one _)
  simp only [Nat.add_zero] at hst
  obtain ⟨m, hm⟩ : ∃ m, n - k = m + 1 := ⟨n - k - 1, by omega⟩
  rw [hm] at hst ⊢
  have hv : (zeroValue 36).run Try.prog W = .ok (.agg #[.string ⟨#[]⟩, .int .i64 0, .int .i64 0, .string ⟨#[]⟩]) W := by kernel_rfl
  unfold zeroRow at hst ⊢
  simp [Builtin.clear_, run_underlying Try.underlying22, hv, hst]
end

end Go.Proofs.Ytabmdhbikedhmaa

/-
  Plain: two lists in order that have the same entries are one.
-/
namespace Go.Proofs.Ytabmdhbikedhmaa
open Go.RowKit

theorem up_ext : ∀ {L M : List Ent}, Up L → Up M → (∀ x, x ∈ L ↔ x ∈ M) → L = M
  | [], [], _, _, _ => rfl
  | [], b :: t, _, _, h => by have := (h b).2 (by simp); simp at this
  | a :: r, [], _, _, h => by have := (h a).1 (by simp); simp at this
  | a :: r, b :: t, h1, h2, h => by
    have h1' := List.pairwise_cons.1 h1
    have h2' := List.pairwise_cons.1 h2
    have hab : a = b := by
      refine Classical.byContradiction fun hne => ?_
      have ha : a ∈ t := by
        rcases List.mem_cons.1 ((h a).1 (by simp)) with e | e
        · exact absurd e hne
        · exact e
      have hb : b ∈ r := by
        rcases List.mem_cons.1 ((h b).2 (by simp)) with e | e
        · exact absurd e.symm hne
        · exact e
      have c1 := h1'.1 b hb
      have c2 := h2'.1 a ha
      rw [cmp_back a b] at c2
      omega
    subst hab
    congr 1
    refine up_ext h1'.2 h2'.2 fun x => ?_
    constructor
    · intro hx
      rcases List.mem_cons.1 ((h x).1 (by simp [hx])) with e | e
      · have := h1'.1 x hx
        rw [e, cmp_self] at this; omega
      · exact e
    · intro hx
      rcases List.mem_cons.1 ((h x).2 (by simp [hx])) with e | e
      · have := h2'.1 x hx
        rw [e, cmp_self] at this; omega
      · exact e
end Go.Proofs.Ytabmdhbikedhmaa

/-
  Chapter 14: plain facts: the first entry of each key, told in two ways.
-/
namespace Go.Proofs.Ytabmdhbikedhmaa
open Go.RowKit

theorem same_iff {x y : Ent} : same x y = true ↔ x.cmp y = 0 := by unfold same; simp
theorem same_turn {x y : Ent} (h : x.cmp y = 0) : y.cmp x = 0 := by have := cmp_back x y; omega
theorem filter_same {x y : Ent} (h : x.cmp y = 0) (l : List Ent) : l.filter (same x) = l.filter (same y) := by
  refine List.filter_congr fun z _ => ?_
  rw [Bool.eq_iff_iff, same_iff, same_iff]
  exact ⟨fun h1 => cmp_eq_trans h h1, fun h1 => cmp_eq_trans (same_turn h) h1⟩
/-- 'A' has the first entry of each key. -/
def FirstOf (base A : List Ent) : Prop := ∀ x, x ∈ A ↔ (base.filter (same x)).head? = some x
theorem FirstOf.nil : FirstOf [] [] := fun x => by simp
theorem FirstOf.sub {base A : List Ent} (h : FirstOf base A) {x : Ent} (hx : x ∈ A) : x ∈ base := by
  have h1 := List.mem_of_head? ((h x).1 hx)
  exact (List.mem_filter.1 h1).1
theorem FirstOf.has {base A : List Ent} (h : FirstOf base A) {y : Ent} (hy : y ∈ base) : ∃ z ∈ A, z.cmp y = 0 := by
  have h1 : y ∈ base.filter (same y) := List.mem_filter.2 ⟨hy, same_iff.2 (cmp_self y)⟩
  cases hf : base.filter (same y) with
  | nil => rw [hf] at h1; cases h1
  | cons z r =>
    have h2 : z ∈ base.filter (same y) := by rw [hf]; simp
    have h3 := same_iff.1 (List.mem_filter.1 h2).2
    refine ⟨z, (h z).2 ?_, same_turn h3⟩
    rw [filter_same (same_turn h3), hf]
    rfl
theorem FirstOf.old {base A : List Ent} {e : Ent} (h : FirstOf base A) (he : ∃ y ∈ base, y.cmp e = 0) : FirstOf (base ++ [e]) A := by
  intro x
  rw [h x, List.filter_append]
  cases hf : base.filter (same x) with
  | cons z r => rfl
  | nil =>
    constructor
    · intro h1; cases h1
    · intro h1
      exfalso
      rw [List.nil_append, List.filter_cons, List.filter_nil] at h1
      by_cases hs : same x e = true
      · rw [if_pos hs] at h1
        obtain ⟨y, hy, hc⟩ := he
        have : y ∈ base.filter (same x) := List.mem_filter.2 ⟨hy, same_iff.2 (cmp_eq_trans (same_turn (same_iff.1 hs)) (same_turn hc))⟩
        rw [hf] at this
        cases this
      · rw [if_neg hs] at h1
        cases h1
theorem FirstOf.new {base A A' : List Ent} {e : Ent} (h : FirstOf base A) (he : ∀ y ∈ base, y.cmp e ≠ 0) (hA : ∀ x, x ∈ A' ↔ x = e ∨ x ∈ A) : FirstOf (base ++ [e]) A' := by
  intro x
  rw [hA, h x, List.filter_append]
  cases hf : base.filter (same x) with
  | cons z r =>
    constructor
    · rintro (rfl | h1)
      · exfalso
        have h2 : z ∈ base.filter (same x) := by rw [hf]; simp
        exact he z (List.mem_filter.1 h2).1 (same_turn (same_iff.1 (List.mem_filter.1 h2).2))
      · exact h1
    · intro h1
      exact .inr h1
  | nil =>
    rw [List.nil_append, List.filter_cons, List.filter_nil]
    constructor
    · rintro (rfl | h1)
      · rw [if_pos (same_iff.2 (cmp_self x))]; rfl
      · cases h1
    · intro h1
      by_cases hs : same x e = true
      · rw [if_pos hs] at h1
        left
        cases h1
        rfl
      · rw [if_neg hs] at h1
        cases h1
theorem firstOf_sort : ∀ (n : Nat) (es : List Ent), es.length = n → FirstOf es (sortE es)
  | 0, es, h => by
    obtain rfl := List.eq_nil_of_length_eq_zero h
    exact FirstOf.nil
  | n + 1, es, h => by
    have hi : n < es.length := by omega
    have e1 : es = es.take n ++ [es.getD n Ent.none_] := by
      conv => lhs; rw [← List.take_length (l := es), h, List.take_succ_eq_append_getElem hi]
      simp [List.getD, hi]
    have e2 : sortE es = sIns (es.getD n Ent.none_) (sortE (es.take n)) := by
      conv => lhs; rw [← List.take_length (l := es), h, sort_take hi]
    have ih := firstOf_sort n (es.take n) (by rw [List.length_take]; omega)
    obtain ⟨T, hT⟩ : ∃ T, T = es.take n := ⟨_, rfl⟩
    obtain ⟨e, he⟩ : ∃ e, e = es.getD n Ent.none_ := ⟨_, rfl⟩
    rw [← hT] at e1 e2 ih
    rw [← he] at e1 e2
    rw [e2, e1]
    have hu := sort_up T
    unfold sIns
    cases hc : isIn e (sortE T) with
    | true =>
      obtain ⟨y, hy, hyc⟩ := (isIn_mem hu).1 hc
      have := ih.old (e := e) ⟨y, ih.sub hy, hyc⟩
      simpa using this
    | false =>
      have := ih.new (e := e) (A' := insE e (sortE T)) (fun y hy hyc => by
        obtain ⟨z, hz, hzc⟩ := ih.has hy
        have : isIn e (sortE T) = true := (isIn_mem hu).2 ⟨z, hz, cmp_eq_trans (same_turn hzc) hyc⟩
        rw [hc] at this
        cases this) (fun x => ins_mem)
      simpa using this
theorem cpN_sub {l : List Ent} : ∀ {j : Nat}, j ≤ l.length → ∀ x ∈ cpN l j, ∃ i, i < j ∧ l.getD i Ent.none_ = x
  | 0, _, x, hx => by cases hx
  | j + 1, hj, x, hx => by
    unfold cpN at hx
    rcases List.mem_append.1 hx with h1 | h1
    · obtain ⟨i, hi, he⟩ := cpN_sub (by omega) x h1
      exact ⟨i, by omega, he⟩
    · split at h1
      · exact ⟨j, by omega, (List.mem_singleton.1 h1).symm⟩
      · cases h1
theorem keep_all {l : List Ent} (hl : Le l) {j : Nat} (hj : j < l.length) : keepAt l j = true ↔ ∀ i, i < j → (l.getD i Ent.none_).cmp (l.getD j Ent.none_) < 0 := by
  cases j with
  | zero => simp [keepAt]
  | succ j =>
    have h1 := le_at hl (i := j) (j := j + 1) (by omega) hj
    have hk : keepAt l (j + 1) = true ↔ (l.getD (j + 1) Ent.none_).cmp (l.getD j Ent.none_) ≠ 0 := by
      unfold keepAt same
      simp
    rw [hk]
    have h2 := cmp_back (l.getD j Ent.none_) (l.getD (j + 1) Ent.none_)
    constructor
    · intro h i hi
      have h3 : (l.getD j Ent.none_).cmp (l.getD (j + 1) Ent.none_) < 0 := by omega
      exact cmp_le_lt (le_at' hl (i := i) (j := j) (by omega) (by omega)) h3
    · intro h
      have := h j (by omega)
      omega
theorem firstOf_cpN {l : List Ent} (hl : Le l) : ∀ j, j ≤ l.length → FirstOf (l.take j) (cpN l j) ∧ Up (cpN l j)
  | 0, _ => ⟨by rw [List.take_zero]; exact FirstOf.nil, List.Pairwise.nil⟩
  | j + 1, hj => by
    obtain ⟨h1, h2⟩ := firstOf_cpN hl j (by omega)
    have e1 : l.take (j + 1) = l.take j ++ [l.getD j Ent.none_] := by
      rw [List.take_succ_eq_append_getElem (by omega)]
      simp [List.getD, show j < l.length by omega]
    rw [e1]
    cases hk : keepAt l j with
    | true =>
      rw [cpN_yes hk]
      have hlt := (keep_all hl (by omega)).1 hk
      refine ⟨h1.new (fun y hy => ?_) (fun x => by simp [or_comm]), ?_⟩
      · obtain ⟨i, hi, rfl⟩ := List.mem_iff_getElem.1 hy
        rw [List.length_take] at hi
        have := hlt i (by omega)
        rw [List.getElem_take]
        have e3 : l.getD i Ent.none_ = l[i] := by simp [List.getD, show i < l.length by omega]
        rw [e3] at this
        omega
      · refine List.pairwise_append.2 ⟨h2, List.pairwise_singleton _ _, fun x hx y hy => ?_⟩
        obtain ⟨i, hi, rfl⟩ := cpN_sub (by omega) x hx
        rw [List.mem_singleton.1 hy]
        exact hlt i hi
    | false =>
      rw [cpN_no hk]
      refine ⟨h1.old ?_, h2⟩
      cases j with
      | zero => simp [keepAt] at hk
      | succ j =>
        refine ⟨l.getD j Ent.none_, ?_, ?_⟩
        · have hjl : j < l.length := by omega
          have hm : j < (l.take (j + 1)).length := by rw [List.length_take]; omega
          have := List.getElem_mem hm
          rw [List.getElem_take] at this
          simpa [List.getD, hjl] using this
        · unfold keepAt same at hk
          simp at hk
          exact same_turn hk
/-- Put in order, of each key the first alone. -/
theorem cpN_sort {es l : List Ent} (hs : Stab es l) (hl : Le l) : cpN l l.length = sortE es := by
  obtain ⟨h1, h2⟩ := firstOf_cpN hl l.length (Nat.le_refl _)
  rw [List.take_length] at h1
  refine up_ext h2 (sort_up es) fun x => ?_
  rw [h1 x, firstOf_sort _ es rfl x, hs.2 x]
end Go.Proofs.Ytabmdhbikedhmaa

/-
  slices.BinarySearchFunc of entries for a key.
-/
namespace Go.Proofs.Ytabmdhbikedhmaa
open Go.RowKit

/-- A key as an entry. -/
abbrev keyE (u : ByteArray) (s k : Int) : Ent := ⟨u, s, k, ⟨#[]⟩⟩
set_option maxRecDepth 100000 in
theorem cmpKey_any (x : Ent) (u : ByteArray) (s k : Int) (hx : x.fits) (hu : u.size ≤ maxLen) (W : World) : Calls Try.prog 48 #[entV x, .agg #[.string u, .int .i64 s, .int .i64 k]] W fun e w' => e = .returned (.int .i64 (x.cmp (keyE u s k))) ∧ Below W.heap.size W w' := by
  have HC := Lib.hid (fun W' => cmp_any x.u x.s x.k u s k hx.1 hu W')
  go_enter Try.func48, Try.ntmps48
  go_wp2_with (go_at_call 30; (refine (HC.out _).mono ?_); rintro e w1 ⟨rfl, hb⟩)
  go_ret
  exact ⟨rfl, belowT (((Below.refl _ W).alloc (Nat.le_refl _) _).alloc (by simp) _) (hb.mono (by simp))⟩

/-- The box with the key. -/
structure KeyBox (p : Nat) (u : ByteArray) (s k : Int) (w : World) : Prop where
  at_ : w.heap[p]? = some (.cells #[.string u, .int .i64 s, .int .i64 k] 31 (0, 0))
section
variable {B g cap n p : Nat} {w0 w W : World} {a : Option Addr} {l : List Ent} {u : ByteArray} {s k : Int}
theorem KeyBox.then_ (h : KeyBox p u s k w) {w' : World} (hb : Below w.heap.size w w') : KeyBox p u s k w' := ⟨(hb.block p (blk_lt h.at_)).trans h.at_⟩
theorem KeyBox.c0 (h : KeyBox p u s k w) : w.cell? ⟨p, 0, none⟩ = some (.string u) := blk_cell (i := 0) h.at_
theorem KeyBox.c1 (h : KeyBox p u s k w) : w.cell? ⟨p, 1, none⟩ = some (.int .i64 s) := blk_cell (i := 1) h.at_
theorem KeyBox.c2 (h : KeyBox p u s k w) : w.cell? ⟨p, 2, none⟩ = some (.int .i64 k) := blk_cell (i := 2) h.at_
theorem SL.below_ (h : SL B w0 a cap n l W) {i : Nat} (hi : i < n) (hu : u.size ≤ maxLen) (m : Nat) (os : Array Obj) :
    Calls Try.prog 48 #[entV (l.getD i Ent.none_), .agg #[.string u, .int .i64 s, .int .i64 k]] (shiftW W m os) fun e w'' => e = .returned (.int .i64 ((l.getD i Ent.none_).cmp (keyE u s k))) ∧ ∃ p : ShiftBy, w'' = shiftW W p.n p.os :=
  Calls.shift_of (cmpKey_any _ u s k (h.fit hi) hu _)
theorem low_len {L : List Ent} {m : Nat} (e : Ent) (hm : m ≤ L.length) (h1 : ∀ t, t < m → t < L.length → (L.getD t Ent.none_).cmp e < 0) (h2 : m < L.length → 0 ≤ (L.getD m Ent.none_).cmp e) : (lowE e L).length = m := by
  unfold lowE
  rw [← List.take_append_drop m L, List.takeWhile_append_of_pos fun x hx => decide_eq_true (take_all (Q := fun x => x.cmp e < 0) h1 x hx)]
  have : (L.drop m).takeWhile (fun x => decide (x.cmp e < 0)) = [] := by
    rcases Nat.lt_or_ge m L.length with h3 | h3
    · rw [List.drop_eq_getElem_cons h3, List.takeWhile_cons, if_neg]
      have := h2 h3
      simp only [List.getD, List.getElem?_eq_getElem h3, Option.getD_some] at this
      simp only [decide_eq_true_eq]
      omega
    · rw [List.drop_eq_nil_of_le h3]; rfl
  rw [this, List.append_nil, List.length_take, Nat.min_eq_left hm]
end

/-- Is the key itself there? -/
def hitB (L : List Ent) (u : ByteArray) (s k : Int) : Bool := decide (seekN L u s k < L.length) && decide ((L.getD (seekN L u s k) Ent.none_).cmp (keyE u s k) = 0)
set_option maxRecDepth 100000 in
set_option maxHeartbeats 1000000 in
theorem bsearch_any {cap n : Nat} {a : Option Addr} {L : List Ent} {w : World} (h : SL 0 w a cap n L w) (hup : Up L) (hn : n ≤ 1000) (u : ByteArray) (s k : Int) (hu : u.size ≤ maxLen) :
    Calls Try.prog 47 #[.slice a n cap, .agg #[.string u, .int .i64 s, .int .i64 k], .func (.func 48) #[] #[]] w fun e w' => e = .returned (.tuple #[.int .i64 (seekN L u s k : Nat), .bool (hitB L u s k)]) ∧ Below w.heap.size w w' := by
  have hlen := h.len
  have HU := Lib.hid hu
  have HUP := Lib.hid hup
  have HL := Lib.hid hlen
  obtain ⟨W0, hW0⟩ : ∃ W0, W0 = w.alloc (.cells #[.string u, .int .i64 s, .int .i64 k] 31) := ⟨_, rfl⟩
  have HB0 : Hid (Below w.heap.size w W0) := Lib.hid (by rw [hW0]; exact (Below.refl _ _).alloc (Nat.le_refl _) _)
  have HBX : Hid (KeyBox w.heap.size u s k W0) := Lib.hid ⟨by rw [hW0]; exact heap_alloc_new w _⟩
  have HS : Hid (SL 0 w a cap n L W0) := Lib.hid (h.then HB0.out)
  have HW0 := Lib.hid hW0
  have hgq : ∃ g, a = some ⟨g, 0, none⟩ ∨ n = 0 := by
    rcases Nat.eq_zero_or_pos n with h0 | h0
    · exact ⟨0, .inr h0⟩
    · obtain ⟨g, hg, _⟩ := h.at_ h0
      exact ⟨g, .inl hg⟩
  obtain ⟨g, hg⟩ := hgq
  have HG := Lib.hid hg
  clear hu hup hlen h hW0 hg
  go_enter Try.func47, Try.ntmps47
  go_upto_region 1 with (fail)
  rw [← HW0.out]
  clear HW0
  go_wp2
  go_loopg [9, 10] n (fun kx s9 s10 wr => ∃ i j : Nat, s9 = .int .i64 i ∧ s10 = .int .i64 j ∧ i ≤ j ∧ j ≤ n ∧ j - i ≤ kx ∧ Hid ((∀ t, t < i → t < L.length → (L.getD t Ent.none_).cmp (keyE u s k) < 0) ∧ (j < L.length → 0 ≤ (L.getD j Ent.none_).cmp (keyE u s k))) ∧ Hid (Below w.heap.size w wr) ∧ Hid (KeyBox w.heap.size u s k wr) ∧ Hid (SL 0 w a cap n L wr))
  case atStart => exact ⟨0, n, rfl, rfl, Nat.zero_le _, Nat.le_refl _, Nat.le_refl _, Lib.hid ⟨fun t h => by omega, fun h => by have := HL.out; omega⟩, HB0, HBX, HS⟩
  case round =>
    clear HB0 HBX HS
    obtain ⟨i, j, rfl, rfl, hij, hjn, hk, HI, HB, HBX, HS⟩ := hrel
    by_cases hlt : i < j
    · have hltz : (i : Int) < (j : Int) := by omega
      obtain ⟨h, hh⟩ : ∃ h : Nat, h = (i + j) / 2 := ⟨_, rfl⟩
      have h1 : i ≤ h := by omega
      have h2 : h < j := by omega
      have hhz : ((i : Int) + (j : Int)) / 2 = (h : Int) := by omega
      have hhn : (h : Int) < (n : Int) := by omega
      clear hh
      obtain rfl : a = some ⟨g, 0, none⟩ := by
        rcases HG.out with h | h
        · exact h
        · omega
      obtain ⟨x, gx⟩ : ∃ x, L.getD h Ent.none_ = x := ⟨_, rfl⟩
      have hs := HS.out
      have c0 := fun z_ os => ((hs.shift z_ os).cells (i := h) (by omega)).1
      have c1 := fun z_ os => ((hs.shift z_ os).cells (i := h) (by omega)).2.1
      have c2 := fun z_ os => ((hs.shift z_ os).cells (i := h) (by omega)).2.2.1
      have c3 := fun z_ os => ((hs.shift z_ os).cells (i := h) (by omega)).2.2.2
      have b0 := fun z_ os => (HBX.out.then_ (shift_below wr z_ os)).c0
      have b1 := fun z_ os => (HBX.out.then_ (shift_below wr z_ os)).c1
      have b2 := fun z_ os => (HBX.out.then_ (shift_below wr z_ os)).c2
      have hc := fun z_ os => hs.below_ (i := h) (u := u) (s := s) (k := k) (by omega) HU.out z_ os
      rw [gx] at c0 c1 c2 c3
      rw [gx] at hc
      have HC := Lib.hid hc
      clear hc
      have HX := Lib.hid gx
      clear hs gx
      by_cases hv : x.cmp (keyE u s k) < 0
      · have HV := Lib.hid hv
        go_wp2_with fail
        refine wp_region_shift (by kernel_rfl) (by kernel_rfl) ?_
        repeat (quiet_step (exact HC.out _ _))
        refine wpQuiet_nil ?_
        intro _ hw'
        obtain ⟨⟨nq, osq⟩, hw''⟩ := hw'
        subst hw''
        have hz := HS.out.shift nq osq
        have hbz := HBX.out.then_ (shift_below wr nq osq)
        have HBQ := shift_below wr nq osq
        clear c0 c1 c2 c3 b0 b1 b2 HC
        generalize shiftW wr nq osq = wz at hz hbz HBQ ⊢
        have HZ := Lib.hid hz
        have HBZ := Lib.hid hbz
        clear hz hbz
        go_wp2
        go_roundg (j - (h + 1))
        case measure => omega
        case rel =>
          refine ⟨h + 1, j, by go_num, rfl, by omega, hjn, Nat.le_refl _, Lib.hid ⟨fun t ht htl => ?_, HI.out.2⟩, Lib.hid (HB.out.trans (HBQ.mono HB.out.size)), HBZ, HZ⟩
          rcases Nat.lt_or_ge t h with h3 | h3
          · have := (List.pairwise_iff_getElem.1 HUP.out) t h htl (by have := HL.out; omega) h3
            have e1 : L.getD t Ent.none_ = L[t] := by simp [List.getD, htl]
            have e2 : L.getD h Ent.none_ = L[h]'(by have := HL.out; omega) := by have := HL.out; simp [List.getD, show h < L.length by omega]
            rw [← e1, ← e2, HX.out] at this
            exact cmp_lt_le this (Int.le_of_lt HV.out)
          · obtain rfl : t = h := by omega
            rw [HX.out]
            exact HV.out
      · have HV := Lib.hid hv
        go_wp2_with fail
        refine wp_region_shift (by kernel_rfl) (by kernel_rfl) ?_
        repeat (quiet_step (exact HC.out _ _))
        refine wpQuiet_nil ?_
        intro _ hw'
        obtain ⟨⟨nq, osq⟩, hw''⟩ := hw'
        subst hw''
        have hz := HS.out.shift nq osq
        have hbz := HBX.out.then_ (shift_below wr nq osq)
        have HBQ := shift_below wr nq osq
        clear c0 c1 c2 c3 b0 b1 b2 HC
        generalize shiftW wr nq osq = wz at hz hbz HBQ ⊢
        have HZ := Lib.hid hz
        have HBZ := Lib.hid hbz
        clear hz hbz
        go_wp2
        go_roundg (h - i)
        case measure => omega
        case rel => exact ⟨i, h, rfl, rfl, h1, by omega, Nat.le_refl _, Lib.hid ⟨HI.out.1, fun _ => by rw [HX.out]; have := HV.out; omega⟩, Lib.hid (HB.out.trans (HBQ.mono HB.out.size)), HBZ, HZ⟩
    · have hltz : ¬ (i : Int) < (j : Int) := by omega
      obtain rfl : j = i := by omega
      have HM : Hid (seekN L u s k = j) := Lib.hid (low_len (keyE u s k) (by rw [HL.out]; exact hjn) HI.out.1 HI.out.2)
      have HH : Hid (hitB L u s k = (decide (j < L.length) && decide ((L.getD j Ent.none_).cmp (keyE u s k) = 0))) := Lib.hid (by unfold hitB; rw [HM.out])
      by_cases hjl : j < n
      · have hjz : (j : Int) < (n : Int) := by omega
        obtain rfl : a = some ⟨g, 0, none⟩ := by
          rcases HG.out with h | h
          · exact h
          · omega
        obtain ⟨x, gx⟩ : ∃ x, L.getD j Ent.none_ = x := ⟨_, rfl⟩
        have hs := HS.out
        have c0 := fun z_ os => ((hs.shift z_ os).cells (i := j) (by omega)).1
        have c1 := fun z_ os => ((hs.shift z_ os).cells (i := j) (by omega)).2.1
        have c2 := fun z_ os => ((hs.shift z_ os).cells (i := j) (by omega)).2.2.1
        have c3 := fun z_ os => ((hs.shift z_ os).cells (i := j) (by omega)).2.2.2
        have b0 := fun z_ os => (HBX.out.then_ (shift_below wr z_ os)).c0
        have b1 := fun z_ os => (HBX.out.then_ (shift_below wr z_ os)).c1
        have b2 := fun z_ os => (HBX.out.then_ (shift_below wr z_ os)).c2
        have hc := fun z_ os => hs.below_ (i := j) (u := u) (s := s) (k := k) (by omega) HU.out z_ os
        rw [gx] at c0 c1 c2 c3
        rw [gx] at hc
        have HC := Lib.hid hc
        clear hc
        have HX := Lib.hid gx
        have HJ : Hid (decide (j < L.length) = true) := Lib.hid (decide_eq_true (by rw [HL.out]; exact hjl))
        clear hs gx
        go_wp2_with fail
        refine wp_region_shift (by kernel_rfl) (by kernel_rfl) ?_
        repeat (quiet_step (exact HC.out _ _))
        refine wpQuiet_nil ?_
        intro _ hw'
        obtain ⟨⟨nq, osq⟩, hw''⟩ := hw'
        subst hw''
        have hz := HS.out.shift nq osq
        have hbz := HBX.out.then_ (shift_below wr nq osq)
        have HBQ := shift_below wr nq osq
        clear c0 c1 c2 c3 b0 b1 b2 HC
        generalize shiftW wr nq osq = wz at hz hbz HBQ ⊢
        have HZ := Lib.hid hz
        have HBZ := Lib.hid hbz
        clear hz hbz
        go_wp2
        go_ret2
        exact ⟨by rw [HM.out, HH.out, HX.out, HJ.out, Bool.true_and]; first | rfl | (congr 3), HB.out.trans (HBQ.mono HB.out.size)⟩
      · have hjz : ¬ (j : Int) < (n : Int) := by omega
        have HJ : Hid (decide (j < L.length) = false) := Lib.hid (decide_eq_false (by rw [HL.out]; exact hjl))
        clear HBX HS
        go_wp2_with fail
        go_big_region
        go_wp2
        go_ret2
        exact ⟨by rw [HM.out, HH.out, HJ.out, Bool.false_and]; rfl, HB.out.drew⟩
end Go.Proofs.Ytabmdhbikedhmaa

/-
  Chapter 14: the program's iterator: where it lies and what its moves do.
-/
namespace Go.Proofs.Ytabmdhbikedhmaa
open Go.RowKit

/-- The program's iterator 'q', with the blocks 'G', goes over 'L' and stands at 'a'. -/
def PIt (G : Nat → Prop) (w : World) (q : Nat) (L : List Ent) (a : Int) : Prop :=
  ∃ v m, w.heap[q]? = some (.cells #[v, .int .i64 (m : Nat)] 53 (0, 0)) ∧ OwnE w 0 v L ∧ v.ownBlock ≠ some q ∧ (∀ k, G k ↔ k = q ∨ v.ownBlock = some k) ∧ (∀ e ∈ L, e.fits) ∧ (a = (m : Int) - 1 ∧ m ≤ L.length + 1) ∧ L.length ≤ 1000 ∧ Up L
theorem PIt.lt {G : Nat → Prop} {w : World} {q : Nat} {L : List Ent} {a : Int} (h : PIt G w q L a) : ∀ k, G k → k < w.heap.size := by
  obtain ⟨v, m, h1, h2, _, h4, _⟩ := h
  intro k hk
  rcases (h4 k).1 hk with rfl | hk
  · exact blk_lt h1
  · exact (World.ownsRow.lt h2 k hk).2
theorem PIt.kept {G R : Nat → Prop} {w w' : World} {q : Nat} {L : List Ent} {a : Int} (h : PIt G w q L a) (hk : Kept R w w') (hR : ∀ k, G k → R k) : PIt G w' q L a := by
  obtain ⟨v, m, h1, h2, h3, h4, h5⟩ := h
  exact ⟨v, m, (hk.block q (hR q ((h4 q).2 (.inl rfl)))).trans h1, own_kept h2 hk fun k e => hR k ((h4 k).2 (.inr e)), h3, h4, h5⟩
theorem PIt.below {G : Nat → Prop} {w w' : World} {q : Nat} {L : List Ent} {a : Int} (h : PIt G w q L a) (hb : Below w.heap.size w w') : PIt G w' q L a := h.kept (R := G) (Kept.of hb fun k hk => h.lt k hk) fun _ h => h
theorem PIt.cells {G : Nat → Prop} {w : World} {q : Nat} {L : List Ent} {a : Int} (h : PIt G w q L a) : ∃ va vc m, w.heap[q]? = some (.cells #[.slice va L.length vc, .int .i64 (m : Nat)] 53 (0, 0)) ∧ a = (m : Int) - 1 ∧ m ≤ L.length + 1 ∧ L.length ≤ 1000 ∧ Up L ∧ SL 0 w va vc L.length L w := by
  obtain ⟨v, m, h1, h2, _, _, h5, ⟨h6, h7⟩, h8, h9⟩ := h
  obtain ⟨va, vc, rfl, _, _⟩ := h2.form
  exact ⟨va, vc, m, h1, h6, h7, h8, h9, rfl, Below.refl _ _, Nat.zero_le _, h2, h5⟩
/-- It has been moved. -/
theorem PIt.to {G : Nat → Prop} {w wd : World} {q : Nat} {L : List Ent} {a : Int} (h : PIt G w q L a) (hb : Below w.heap.size w wd) (m : Nat) (hm : m ≤ L.length + 1) : PIt G (wd.setCell ⟨q, 1, none⟩ (.int .i64 m)) q L ((m : Int) - 1) ∧ Touch G w (wd.setCell ⟨q, 1, none⟩ (.int .i64 m)) := by
  have h0 := h.below hb
  obtain ⟨v, m0, h1, h2, h3, h4, h5, h6, h7⟩ := h0
  refine ⟨⟨v, m, by rw [blk_set h1]; rfl, ?_, h3, h4, h5, ⟨rfl, hm⟩, h7⟩, ?_⟩
  · exact own_kept h2 (R := fun j => j ≠ q) ((Kept.refl _ wd).setCell (fun h => h rfl) _) fun j hj e => h3 (e ▸ hj)
  · exact Kept.setCell (Kept.of hb fun k hk => hk.1) (fun hk => hk.2 ((h4 q).2 (.inl rfl))) _
theorem stands_yes {L : List Ent} {m : Nat} (h0 : 0 < m) (h1 : m ≤ L.length) : stands L ((m : Int) - 1) = true := by unfold stands; simp; omega
theorem stands_no {L : List Ent} {m : Nat} (h : ¬ (0 < m ∧ m ≤ L.length)) : stands L ((m : Int) - 1) = false := by
  unfold stands
  rw [Bool.and_eq_false_iff, decide_eq_false_iff_not, decide_eq_false_iff_not]
  omega

set_option maxRecDepth 100000 in
set_option maxHeartbeats 400000 in
theorem pstands_any {G : Nat → Prop} {w : World} {q : Nat} {L : List Ent} {a : Int} (h : PIt G w q L a) : Calls Try.prog 36 #[.pointer (some ⟨q, 0, none⟩)] w fun e w' => e = .returned (.bool (stands L a)) ∧ Below w.heap.size w w' := by
  obtain ⟨va, vc, m, hq, rfl, hm, hl, _, _⟩ := h.cells
  have hq' : ∀ n os, (shiftW w n os).heap[q]? = some (.cells #[.slice va L.length vc, .int .i64 (m : Nat)] 53 (0, 0)) := fun n os => ((shift_below w n os).block q (blk_lt hq)).trans hq
  have p0 : ∀ n os, (shiftW w n os).cell? ⟨q, 0, none⟩ = some (.slice va L.length vc) := fun n os => blk_cell (i := 0) (hq' n os)
  have p1 : ∀ n os, (shiftW w n os).cell? ⟨q, 1, none⟩ = some (.int .i64 (m : Nat)) := fun n os => blk_cell (i := 1) (hq' n os)
  have hq1 : w.drew.heap[q]? = some (.cells #[.slice va L.length vc, .int .i64 (m : Nat)] 53 (0, 0)) := hq
  have p2 : w.cell? ⟨q, 1, none⟩ = some (.int .i64 (m : Nat)) := blk_cell (i := 1) hq
  clear h hq hq' hq1
  by_cases h0 : 0 < m
  · have h0z : (0 : Int) < (m : Int) := by omega
    by_cases h1 : m ≤ L.length
    · have HR := Lib.hid (stands_yes h0 h1)
      have h1z : (m : Int) ≤ (L.length : Int) := by omega
      go_enter Try.func36, Try.ntmps36
      go_wp2_with fail
      refine wp_region_shift (by kernel_rfl) (by kernel_rfl) ?_
      repeat (quiet_step (fail))
      refine wpQuiet_nil ?_
      intro _ hw'
      obtain ⟨⟨nq, osq⟩, hw''⟩ := hw'
      subst hw''
      go_wp2
      go_ret
      exact ⟨by rw [HR.out]; rfl, shift_below _ _ _⟩
    · have HR := Lib.hid (stands_no (L := L) (m := m) (fun h => h1 h.2))
      have h1z : ¬ (m : Int) ≤ (L.length : Int) := by omega
      go_enter Try.func36, Try.ntmps36
      go_wp2_with fail
      refine wp_region_shift (by kernel_rfl) (by kernel_rfl) ?_
      repeat (quiet_step (fail))
      refine wpQuiet_nil ?_
      intro _ hw'
      obtain ⟨⟨nq, osq⟩, hw''⟩ := hw'
      subst hw''
      go_wp2
      go_ret
      exact ⟨by rw [HR.out]; rfl, shift_below _ _ _⟩
  · have HR := Lib.hid (stands_no (L := L) (m := m) (fun h => h0 h.1))
    obtain rfl : m = 0 := by omega
    go_enter Try.func36, Try.ntmps36
    go_wp2_with fail
    go_big_region
    go_wp2
    go_ret
    exact ⟨by rw [HR.out]; rfl, (Below.refl _ _).drew⟩

/-- What a move tells and leaves. -/
def PMv (G : Nat → Prop) (q : Nat) (L : List Ent) (a : Int) (w : World) (r : Ending) (w' : World) : Prop := r = .returned (.bool (stands L a)) ∧ PIt G w' q L a ∧ Touch G w w'

/-- How many are below a key. -/
theorem pbelow_any {G : Nat → Prop} {w : World} {q : Nat} {L : List Ent} {a : Int} (h : PIt G w q L a) (u : ByteArray) (s k : Int) (hu : u.size ≤ maxLen) : Calls Try.prog 41 #[.pointer (some ⟨q, 0, none⟩), .agg #[.string u, .int .i64 s, .int .i64 k]] w fun e w' => e = .returned (.int .i64 (seekN L u s k : Nat)) ∧ Below w.heap.size w w' := by
  obtain ⟨va, vc, m, hq, rfl, hm, hl, hup, hsl⟩ := h.cells
  clear hm
  obtain ⟨W0, hW0⟩ : ∃ W0, W0 = w.alloc (.cells #[.string u, .int .i64 s, .int .i64 k] 31) := ⟨_, rfl⟩
  have hb0 : Below w.heap.size w W0 := by rw [hW0]; exact (Below.refl _ _).alloc (Nat.le_refl _) _
  have HB0 := Lib.hid hb0
  have HBX : Hid (KeyBox w.heap.size u s k W0) := Lib.hid ⟨by rw [hW0]; exact heap_alloc_new w _⟩
  have HW0 := Lib.hid hW0
  have hq0 := (hb0.block q (blk_lt hq)).trans hq
  have hq' : ∀ n os, (shiftW W0 n os).heap[q]? = some (.cells #[.slice va L.length vc, .int .i64 (m : Nat)] 53 (0, 0)) := fun n os => ((shift_below W0 n os).block q (blk_lt hq0)).trans hq0
  have p0 : ∀ n os, (shiftW W0 n os).cell? ⟨q, 0, none⟩ = some (.slice va L.length vc) := fun n os => blk_cell (i := 0) (hq' n os)
  have b0 := fun z_ os => (HBX.out.then_ (shift_below W0 z_ os)).c0
  have b1 := fun z_ os => (HBX.out.then_ (shift_below W0 z_ os)).c1
  have b2 := fun z_ os => (HBX.out.then_ (shift_below W0 z_ os)).c2
  have HC : Hid (∀ n os, Calls Try.prog 47 #[.slice va L.length vc, .agg #[.string u, .int .i64 s, .int .i64 k], .func (.func 48) #[] #[]] (shiftW W0 n os) fun e w'' => e = .returned (.tuple #[.int .i64 (seekN L u s k : Nat), .bool (hitB L u s k)]) ∧ ∃ p : ShiftBy, w'' = shiftW W0 p.n p.os) := Lib.hid fun n os => by
    have h1 := (hsl.then hb0).shift n os
    exact Calls.shift_of (bsearch_any ⟨h1.len, Below.refl _ _, Nat.zero_le _, h1.own, h1.fits⟩ hup hl u s k hu)
  clear h hq hq' hq0 hsl hup hW0 hb0 hu hl HBX
  go_enter Try.func41, Try.ntmps41
  go_upto_region 1 with (fail)
  rw [← HW0.out]
  clear HW0
  refine wp_region_shift (by kernel_rfl) (by kernel_rfl) ?_
  repeat (quiet_step (exact HC.out _ _))
  refine wpQuiet_nil ?_
  intro _ hw'
  obtain ⟨⟨nq, osq⟩, hw''⟩ := hw'
  subst hw''
  go_wp2
  go_ret
  exact ⟨rfl, HB0.out.trans ((shift_below _ _ _).mono HB0.out.size)⟩
end Go.Proofs.Ytabmdhbikedhmaa
