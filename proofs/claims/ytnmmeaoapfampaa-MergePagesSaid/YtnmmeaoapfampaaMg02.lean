import Derived.Test.YtnmmeaoapfampaaMg01

/-
  The library's merge of two parts that are in order, in place: the middle.
-/
namespace Go.Proofs.Ytnmmeaoapfampaa
open Go.RowKit

/-- What the merge does at parts of no more than 'K' entries. -/
def SymTo (B g cap n : Nat) (w0 : World) (K : Nat) : Prop :=
  ∀ (A X Y C : List Ent) (a m b : Nat) (w : World), SL B w0 (some ⟨g, 0, none⟩) cap n (A ++ (X ++ (Y ++ C))) w → a = A.length → m = a + X.length → b = m + Y.length → Le X → Le Y → 1 ≤ X.length → 1 ≤ Y.length → X.length + Y.length ≤ K →
    Calls Try.prog 47 #[.slice (some ⟨g, 0, none⟩) n cap, .int .i64 a, .int .i64 m, .int .i64 b, .func (.func 32) #[] #[]] w fun e w' => e = .returned (.tuple #[]) ∧ ∃ Z, Le Z ∧ Stab (X ++ Y) Z ∧ SL B w0 (some ⟨g, 0, none⟩) cap n (A ++ (Z ++ C)) w'

/-- What the search for the middle finds. -/
structure Mid (L X Y : List Ent) (a m b d q p s0 r0 : Nat) : Prop where
  hd : d = (a + b) / 2
  hq : q = d + m
  hp : p + 1 = q
  ham : a + 2 ≤ m
  hmb : m + 2 ≤ b
  lX : m = a + X.length
  lY : b = m + Y.length
  lx : ∀ t, t < X.length → L.getD (a + t) Ent.none_ = X.getD t Ent.none_
  ly : ∀ t, t < Y.length → L.getD (m + t) Ent.none_ = Y.getD t Ent.none_
  LX : ∀ c c', a ≤ c → c ≤ c' → c' < m → (L.getD c Ent.none_).cmp (L.getD c' Ent.none_) ≤ 0
  LY : ∀ c c', m ≤ c → c ≤ c' → c' < b → (L.getD c Ent.none_).cmp (L.getD c' Ent.none_) ≤ 0
  s0a : a ≤ s0
  sr : s0 ≤ r0
  r0m : r0 ≤ m
  hrq : r0 + m ≤ q
  hqs : q ≤ s0 + b
  sw : s0 = a ∨ q = s0 + b
  rw_ : r0 = m ∨ q = r0 + m
/-- Where the search stands. -/
def Found (L : List Ent) (p s0 r0 s r : Nat) : Prop := s0 ≤ s ∧ r ≤ r0 ∧ (∀ c, s0 ≤ c → c < s → (L.getD c Ent.none_).cmp (L.getD (p - c) Ent.none_) ≤ 0) ∧ (∀ c, r ≤ c → c < r0 → (L.getD (p - c) Ent.none_).cmp (L.getD c Ent.none_) < 0)
section
variable {L X Y : List Ent} {a m b d q p s0 r0 s r h : Nat}
theorem Mid.start (_ : Mid L X Y a m b d q p s0 r0) : Found L p s0 r0 s0 r0 := ⟨Nat.le_refl _, Nat.le_refl _, fun c h1 h2 => by omega, fun c h1 h2 => by omega⟩
theorem Mid.low (M : Mid L X Y a m b d q p s0 r0) (F : Found L p s0 r0 s r) (h1 : s ≤ h) (h2 : h < r) (hv : (L.getD (p - h) Ent.none_).cmp (L.getD h Ent.none_) < 0) : Found L p s0 r0 s h := by
  obtain ⟨f1, f2, f3, f4⟩ := F
  have := M.hp; have := M.r0m; have := M.hrq; have := M.hqs; have := M.s0a
  refine ⟨f1, by omega, f3, fun c c1 c2 => ?_⟩
  exact cmp_le_lt (M.LY (p - c) (p - h) (by omega) (by omega) (by omega)) (cmp_lt_le hv (M.LX h c (by omega) c1 (by omega)))
theorem Mid.high (M : Mid L X Y a m b d q p s0 r0) (F : Found L p s0 r0 s r) (h1 : s ≤ h) (h2 : h < r) (hv : ¬ (L.getD (p - h) Ent.none_).cmp (L.getD h Ent.none_) < 0) : Found L p s0 r0 (h + 1) r := by
  obtain ⟨f1, f2, f3, f4⟩ := F
  have := M.hp; have := M.r0m; have := M.hrq; have := M.hqs; have := M.s0a
  refine ⟨by omega, f2, fun c c1 c2 => ?_, f4⟩
  exact cmp_le_trans (M.LX c h (by omega) (by omega) (by omega)) (cmp_le_trans (cmp_ge hv) (M.LY (p - h) (p - c) (by omega) (by omega) (by omega)))
/-- The four parts. -/
theorem Mid.parts (M : Mid L X Y a m b d q p s0 r0) (F : Found L p s0 r0 s s) : ∃ x1 x2 y1 y2, X = x1 ++ x2 ∧ Y = y1 ++ y2 ∧ s = a + x1.length ∧ m = s + x2.length ∧ q - s = m + y1.length ∧ b = q - s + y2.length ∧ d = s + y1.length ∧ s ≤ q ∧
    (∀ u ∈ x1, ∀ v ∈ y2, u.cmp v ≤ 0) ∧ (∀ u ∈ y1, ∀ v ∈ x2, u.cmp v < 0) := by
  obtain ⟨f1, f2, f3, f4⟩ := F
  have := M.hp; have := M.r0m; have := M.hrq; have := M.hqs; have := M.s0a; have := M.sw; have := M.rw_; have := M.hq; have := M.lX; have := M.lY; have := M.hd; have := M.ham; have := M.hmb
  refine ⟨X.take (s - a), X.drop (s - a), Y.take (q - s - m), Y.drop (q - s - m), (List.take_append_drop _ _).symm, (List.take_append_drop _ _).symm, by rw [List.length_take]; omega, by rw [List.length_drop]; omega, by rw [List.length_take]; omega, by rw [List.length_drop]; omega, by rw [List.length_take]; omega, by omega, ?_, ?_⟩
  · refine take_all (Q := fun u => ∀ v ∈ Y.drop (q - s - m), u.cmp v ≤ 0) fun t ht htl => drop_all (Q := fun v => (X.getD t Ent.none_).cmp v ≤ 0) fun t' ht' htl' => ?_
    have h1 := f3 (s - 1) (by omega) (by omega)
    have h2 := M.LX (a + t) (s - 1) (by omega) (by omega) (by omega)
    have h3 := M.LY (p - (s - 1)) (m + t') (by omega) (by omega) (by omega)
    rw [M.lx t htl] at h2
    rw [M.ly t' htl'] at h3
    exact cmp_le_trans h2 (cmp_le_trans h1 h3)
  · refine take_all (Q := fun u => ∀ v ∈ X.drop (s - a), u.cmp v < 0) fun t ht htl => drop_all (Q := fun v => (Y.getD t Ent.none_).cmp v < 0) fun t' ht' htl' => ?_
    have h1 := f4 s (by omega) (by omega)
    have h2 := M.LY (m + t) (p - s) (by omega) (by omega) (by omega)
    have h3 := M.LX s (a + t') (by omega) (by omega) (by omega)
    rw [M.ly t htl] at h2
    rw [M.lx t' htl'] at h3
    exact cmp_le_lt h2 (cmp_lt_le h1 h3)
end
end Go.Proofs.Ytnmmeaoapfampaa

/-
  The library's merge of two parts that are in order, in place: of each there are more; the middle is ahead of where the second begins.
-/
namespace Go.Proofs.Ytnmmeaoapfampaa
open Go.RowKit

set_option maxRecDepth 100000 in
set_option maxHeartbeats 2000000 in
theorem sym_gt {B g cap n a m b K : Nat} {w0 w : World} {A X Y C : List Ent} (ih : SymTo B g cap n w0 K) (h : SL B w0 (some ⟨g, 0, none⟩) cap n (A ++ (X ++ (Y ++ C))) w) (ha : a = A.length) (hm : m = a + X.length) (hb : b = m + Y.length) (hX : Le X) (hY : Le Y) (h2 : 2 ≤ X.length) (h3 : 2 ≤ Y.length) (hK : X.length + Y.length ≤ K + 1) (hn : n ≤ 1000) (hdm : (a + b) / 2 < m) :
    Calls Try.prog 47 #[.slice (some ⟨g, 0, none⟩) n cap, .int .i64 a, .int .i64 m, .int .i64 b, .func (.func 32) #[] #[]] w fun e w' => e = .returned (.tuple #[]) ∧ ∃ Z, Le Z ∧ Stab (X ++ Y) Z ∧ SL B w0 (some ⟨g, 0, none⟩) cap n (A ++ (Z ++ C)) w' := by
  have hlen := h.len
  simp only [List.length_append] at hlen
  have hbn : b ≤ n := by omega
  have ham : a + 2 ≤ m := by omega
  have hmb : m + 2 ≤ b := by omega
  have hbK : b - a ≤ K + 1 := by omega
  obtain ⟨xl, hxl⟩ : ∃ xl, xl = m - a := ⟨_, rfl⟩
  obtain ⟨yl, hyl⟩ : ∃ yl, yl = b - m := ⟨_, rfl⟩
  have hma : (m : Int) - (a : Int) = (xl : Int) := by omega
  have hm1 : ((xl : Int) == 1) = false := by simp; omega
  have hbm : (b : Int) - (m : Int) = (yl : Int) := by omega
  have hb1 : ((yl : Int) == 1) = false := by simp; omega
  obtain ⟨d, hd⟩ : ∃ d, d = (a + b) / 2 := ⟨_, rfl⟩
  rw [← hd] at hdm
  have hdz : ((a : Int) + (b : Int)) / 2 = (d : Int) := by omega
  obtain ⟨q, hq⟩ : ∃ q, q = d + m := ⟨_, rfl⟩
  have hqz : (d : Int) + (m : Int) = (q : Int) := by omega
  obtain ⟨p, hp⟩ : ∃ p, p + 1 = q := ⟨q - 1, by omega⟩
  have hpz : (q : Int) - 1 = (p : Int) := by omega
  have had : a < d := by omega
  have hdb : d < b := by omega
  have hqn : q ≤ 2000 := by omega
  obtain ⟨L, hL⟩ : ∃ L, L = A ++ (X ++ (Y ++ C)) := ⟨_, rfl⟩
  rw [← hL] at h
  have lx : ∀ t, t < X.length → L.getD (a + t) Ent.none_ = X.getD t Ent.none_ := fun t ht => by
    rw [hL, getD_right (by omega), getD_left (by omega)]
    congr 1
    omega
  have ly : ∀ t, t < Y.length → L.getD (m + t) Ent.none_ = Y.getD t Ent.none_ := fun t ht => by
    rw [hL, ← List.append_assoc, getD_right (by simp; omega), getD_left (by simp; omega)]
    congr 1
    simp
    omega
  have LX : ∀ c c', a ≤ c → c ≤ c' → c' < m → (L.getD c Ent.none_).cmp (L.getD c' Ent.none_) ≤ 0 := fun c c' h1 h2 h3 => by
    have := le_at' hX (i := c - a) (j := c' - a) (by omega) (by omega)
    rwa [← lx _ (by omega), ← lx _ (by omega), show a + (c - a) = c by omega, show a + (c' - a) = c' by omega] at this
  have LY : ∀ c c', m ≤ c → c ≤ c' → c' < b → (L.getD c Ent.none_).cmp (L.getD c' Ent.none_) ≤ 0 := fun c c' h1 h2 h3 => by
    have := le_at' hY (i := c - m) (j := c' - m) (by omega) (by omega)
    rwa [← ly _ (by omega), ← ly _ (by omega), show m + (c - m) = c by omega, show m + (c' - m) = c' by omega] at this
  obtain ⟨s0, hs0⟩ : ∃ s0, s0 = q - b := ⟨_, rfl⟩
  have hsz : (q : Int) - (b : Int) = (s0 : Int) := by omega
  have hdmz : (d : Int) < (m : Int) := by omega
  have has0 : a ≤ s0 := by omega
  have hsd0 : s0 ≤ d := by omega
  have hMid : Mid L X Y a m b d q p s0 d := ⟨hd, hq, hp, ham, hmb, hm, hb, lx, ly, LX, LY, by omega, by omega, by omega, by omega, by omega, by omega, by omega⟩
  have HMID := Lib.hid hMid
  have HL := Lib.hid hL
  have HS := Lib.hid h
  have HA := Lib.hid ha
  have HX := Lib.hid hX
  have HY := Lib.hid hY
  have IH := Lib.hid ih
  have HP := Lib.hid hp
  clear hlen hL h ha hm hb hX hY h2 h3 hK lx ly ih hxl hyl hd hq hp LX LY hMid hdm hs0
  go_enter Try.func47, Try.ntmps47
  go_wp2
  go_loopg [20, 21] (m - a) (fun kx s20 s21 wr => ∃ s r : Nat, s20 = .int .i64 s ∧ s21 = .int .i64 r ∧ a ≤ s ∧ s ≤ r ∧ r ≤ m ∧ r - s ≤ kx ∧ Hid (Found L p s0 d s r) ∧ Hid (SL B w0 (some ⟨g, 0, none⟩) cap n (L) wr))
  case atStart => exact ⟨s0, d, rfl, rfl, by have := HMID.out.s0a; omega, HMID.out.sr, HMID.out.r0m, by have := HMID.out.s0a; have := HMID.out.r0m; omega, Lib.hid HMID.out.start, HS⟩
  case round =>
    clear HS
    obtain ⟨s, r, rfl, rfl, has, hsr, hrm, hk, HI, HS⟩ := hrel
    by_cases hlt : s < r
    · have hltz : (s : Int) < (r : Int) := by omega
      obtain ⟨h, hh⟩ : ∃ h : Nat, h = (s + r) / 2 := ⟨_, rfl⟩
      have h1 : s ≤ h := by omega
      have h2 : h < r := by omega
      have hhz : ((s : Int) + (r : Int)) / 2 = (h : Int) := by omega
      have hhn : (h : Int) < (n : Int) := by omega
      clear hh
      obtain ⟨e, he⟩ : ∃ e, e = p - h := ⟨_, rfl⟩
      have hen : e < n := by have := HI.out.1; have := HMID.out.hqs; have := HP.out; omega
      have hez : (p : Int) - (h : Int) = (e : Int) := by have := HI.out.2.1; have := HMID.out.hrq; have := HP.out; omega
      have henz : (e : Int) < (n : Int) := by omega
      have re : IntKind.i64.wrap (e : Int) = (e : Int) := by rw [IntKind.wrap_i64]; omega
      obtain ⟨x, gy⟩ : ∃ x, L.getD h Ent.none_ = x := ⟨_, rfl⟩
      obtain ⟨y, gx⟩ : ∃ y, L.getD e Ent.none_ = y := ⟨_, rfl⟩
      have hs := HS.out
      have c0 := fun z_ os => ((hs.shift z_ os).cells (i := e) (by omega)).1
      have c1 := fun z_ os => ((hs.shift z_ os).cells (i := e) (by omega)).2.1
      have c2 := fun z_ os => ((hs.shift z_ os).cells (i := e) (by omega)).2.2.1
      have c3 := fun z_ os => ((hs.shift z_ os).cells (i := e) (by omega)).2.2.2
      have d0 := fun z_ os => ((hs.shift z_ os).cells (i := h) (by omega)).1
      have d1 := fun z_ os => ((hs.shift z_ os).cells (i := h) (by omega)).2.1
      have d2 := fun z_ os => ((hs.shift z_ os).cells (i := h) (by omega)).2.2.1
      have d3 := fun z_ os => ((hs.shift z_ os).cells (i := h) (by omega)).2.2.2
      have hc := fun z_ os => hs.compare (i := e) (j := h) (by omega) (by omega) z_ os
      rw [gx] at c0 c1 c2 c3
      rw [gy] at d0 d1 d2 d3
      rw [gx, gy] at hc
      have HC := Lib.hid hc
      clear hc
      have HE := Lib.hid (show L.getD (p - h) Ent.none_ = y by rw [← he]; exact gx)
      have HH := Lib.hid gy
      clear hs gx gy he
      by_cases hv : y.cmp x < 0
      · have HV := Lib.hid hv
        have hv2 : (!decide (y.cmp x < 0)) = false := by simp; omega
        go_wp2_with fail
        refine wp_region_shift (by kernel_rfl) (by kernel_rfl) ?_
        repeat (quiet_step (exact HC.out _ _))
        refine wpQuiet_nil ?_
        intro _ hw'
        obtain ⟨⟨nq, osq⟩, hw''⟩ := hw'
        subst hw''
        have hz := HS.out.shift nq osq
        clear c0 c1 c2 c3 d0 d1 d2 d3 HC
        generalize shiftW wr nq osq = wz at hz ⊢
        have HZ := Lib.hid hz
        clear hz
        go_wp2
        go_roundg (h - s)
        case measure => omega
        case rel => exact ⟨s, h, rfl, rfl, has, h1, by omega, Nat.le_refl _, Lib.hid (HMID.out.low HI.out h1 h2 (by rw [HE.out, HH.out]; exact HV.out)), HZ⟩
      · have HV := Lib.hid hv
        have hv2 : (!decide (y.cmp x < 0)) = true := by simp; omega
        go_wp2_with fail
        refine wp_region_shift (by kernel_rfl) (by kernel_rfl) ?_
        repeat (quiet_step (exact HC.out _ _))
        refine wpQuiet_nil ?_
        intro _ hw'
        obtain ⟨⟨nq, osq⟩, hw''⟩ := hw'
        subst hw''
        have hz := HS.out.shift nq osq
        clear c0 c1 c2 c3 d0 d1 d2 d3 HC
        generalize shiftW wr nq osq = wz at hz ⊢
        have HZ := Lib.hid hz
        clear hz
        go_wp2
        go_roundg (r - (h + 1))
        case measure => omega
        case rel => exact ⟨h + 1, r, by go_num, rfl, by omega, by omega, hrm, Nat.le_refl _, Lib.hid (HMID.out.high HI.out h1 h2 (by rw [HE.out, HH.out]; have := HV.out; omega)), HZ⟩
    · have hltz : ¬ (s : Int) < (r : Int) := by omega
      obtain rfl : r = s := by omega
      obtain ⟨x1, x2, y1, y2, hX, hY, hs, hm, he, hb, hd, hsq, h1, h2⟩ := HMID.out.parts HI.out
      obtain ⟨e, heq⟩ : ∃ e, e = q - r := ⟨_, rfl⟩
      rw [← heq] at he hb
      have hez : (q : Int) - (r : Int) = (e : Int) := by omega
      have hae : a ≤ e := by omega
      have heb : e ≤ b := by omega
      have HW0 : Hid (SL B w0 (some ⟨g, 0, none⟩) cap n (A ++ ((x1 ++ x2) ++ ((y1 ++ y2) ++ C))) wr) := Lib.hid (by have := HS.out; rw [HL.out, hX, hY] at this; exact this)
      have hXl : Le (x1 ++ x2) := by rw [← hX]; exact HX.out
      have hYl : Le (y1 ++ y2) := by rw [← hY]; exact HY.out
      have HF : Hid (∀ z1 z2, Le z1 → Stab (x1 ++ y1) z1 → Le z2 → Stab (x2 ++ y2) z2 → Le (z1 ++ z2) ∧ Stab (X ++ Y) (z1 ++ z2)) := Lib.hid fun z1 z2 l1 s1 l2 s2 => by
        rw [hX, hY]
        exact halves hXl hYl h1 h2 l1 l2 s1 s2
      have HR : Hid (1 ≤ x2.length → 1 ≤ y1.length → ∀ w, SL B w0 (some ⟨g, 0, none⟩) cap n (A ++ ((x1 ++ x2) ++ ((y1 ++ y2) ++ C))) w → Calls Try.prog 51 #[.slice (some ⟨g, 0, none⟩) n cap, .int .i64 r, .int .i64 m, .int .i64 e, .func (.func 32) #[] #[]] w fun e w' => e = .returned (.tuple #[]) ∧ SL B w0 (some ⟨g, 0, none⟩) cap n (A ++ (x1 ++ (y1 ++ (x2 ++ (y2 ++ C))))) w') := Lib.hid fun g1 g2 w hw => by
        have e0 : A ++ ((x1 ++ x2) ++ ((y1 ++ y2) ++ C)) = (A ++ x1) ++ (x2 ++ (y1 ++ (y2 ++ C))) := by simp
        have e1 : A ++ (x1 ++ (y1 ++ (x2 ++ (y2 ++ C)))) = (A ++ x1) ++ (y1 ++ (x2 ++ (y2 ++ C))) := by simp
        rw [e0] at hw
        rw [e1]
        exact rotate_any hw (by have := HA.out; simp; omega) (by have := HA.out; simp; omega) (by have := HA.out; simp; omega) g1 g2 hn
      have HI1 : Hid (1 ≤ x1.length → 1 ≤ y1.length → ∀ w, SL B w0 (some ⟨g, 0, none⟩) cap n (A ++ (x1 ++ (y1 ++ (x2 ++ (y2 ++ C))))) w → Calls Try.prog 47 #[.slice (some ⟨g, 0, none⟩) n cap, .int .i64 a, .int .i64 r, .int .i64 d, .func (.func 32) #[] #[]] w fun e w' => e = .returned (.tuple #[]) ∧ ∃ z1, Le z1 ∧ Stab (x1 ++ y1) z1 ∧ SL B w0 (some ⟨g, 0, none⟩) cap n (A ++ (z1 ++ (x2 ++ (y2 ++ C)))) w') := Lib.hid fun g1 g2 w hw =>
        IH.out A x1 y1 _ a r d w hw HA.out hs hd hXl.left hYl.left g1 g2 (by omega)
      have HI2 : Hid (1 ≤ x2.length → 1 ≤ y2.length → ∀ w z1, z1.length = (x1 ++ y1).length → SL B w0 (some ⟨g, 0, none⟩) cap n (A ++ (z1 ++ (x2 ++ (y2 ++ C)))) w → Calls Try.prog 47 #[.slice (some ⟨g, 0, none⟩) n cap, .int .i64 d, .int .i64 e, .int .i64 b, .func (.func 32) #[] #[]] w fun e w' => e = .returned (.tuple #[]) ∧ ∃ z2, Le z2 ∧ Stab (x2 ++ y2) z2 ∧ SL B w0 (some ⟨g, 0, none⟩) cap n (A ++ (z1 ++ (z2 ++ C))) w') := Lib.hid fun g1 g2 w z1 hz hw => by
        rw [← List.append_assoc] at hw
        have := IH.out (A ++ z1) x2 y2 C d e b w hw (by have := HA.out; rw [List.length_append] at hz ⊢; omega) (by omega) hb hXl.right hYl.right g1 g2 (by omega)
        refine this.mono ?_
        rintro e w' ⟨rfl, z2, l2, s2, hz2⟩
        exact ⟨rfl, z2, l2, s2, by simpa using hz2⟩
      have HN : Hid (x2.length = 0 ∨ y1.length = 0 → ∀ w, SL B w0 (some ⟨g, 0, none⟩) cap n (A ++ ((x1 ++ x2) ++ ((y1 ++ y2) ++ C))) w → SL B w0 (some ⟨g, 0, none⟩) cap n (A ++ (x1 ++ (y1 ++ (x2 ++ (y2 ++ C))))) w) := Lib.hid fun g1 w hw => by
        rcases g1 with g1 | g1
        · obtain rfl := List.eq_nil_of_length_eq_zero g1
          simpa using hw
        · obtain rfl := List.eq_nil_of_length_eq_zero g1
          simpa using hw
      have HN1 : Hid (x1.length = 0 ∨ y1.length = 0 → ∀ w, SL B w0 (some ⟨g, 0, none⟩) cap n (A ++ (x1 ++ (y1 ++ (x2 ++ (y2 ++ C))))) w → ∃ z1, Le z1 ∧ Stab (x1 ++ y1) z1 ∧ SL B w0 (some ⟨g, 0, none⟩) cap n (A ++ (z1 ++ (x2 ++ (y2 ++ C)))) w) := Lib.hid fun g1 w hw => by
        refine ⟨x1 ++ y1, ?_, Stab.refl _, by simpa using hw⟩
        rcases g1 with g1 | g1
        · obtain rfl := List.eq_nil_of_length_eq_zero g1
          exact hYl.left
        · obtain rfl := List.eq_nil_of_length_eq_zero g1
          rw [List.append_nil]
          exact hXl.left
      have HN2 : Hid (x2.length = 0 ∨ y2.length = 0 → Le (x2 ++ y2)) := Lib.hid fun g1 => by
        rcases g1 with g1 | g1
        · obtain rfl := List.eq_nil_of_length_eq_zero g1
          exact hYl.right
        · obtain rfl := List.eq_nil_of_length_eq_zero g1
          rw [List.append_nil]
          exact hXl.right
      clear hX hY h1 h2 hXl hYl HI HS heq
      have hl1 : 1 ≤ x1.length ∨ x1.length = 0 := by omega
      have hl2 : 1 ≤ x2.length ∨ x2.length = 0 := by omega
      have hl3 : 1 ≤ y1.length ∨ y1.length = 0 := by omega
      have hl4 : 1 ≤ y2.length ∨ y2.length = 0 := by omega
      rcases hl1 with hl1 | hl1 <;> rcases hl2 with hl2 | hl2 <;> rcases hl3 with hl3 | hl3 <;> rcases hl4 with hl4 | hl4 <;> first | (exfalso; omega) | skip
      ·
        have z1 : (r : Int) < (m : Int) := by omega
        have z2 : (m : Int) < (e : Int) := by omega
        have z3 : (a : Int) < (r : Int) := by omega
        have z4 : (r : Int) < (d : Int) := by omega
        have z5 : (d : Int) < (e : Int) := by omega
        have z6 : (e : Int) < (b : Int) := by omega
        have L1 := Lib.hid hl1
        have L2 := Lib.hid hl2
        have L3 := Lib.hid hl3
        have L4 := Lib.hid hl4
        clear hl1 hl2 hl3 hl4 hs hm he hb hd
        go_wp2_with (first | (go_at_call 51; (refine (HR.out L2.out L3.out _ HW0.out).mono ?_); rintro r1 w1 ⟨rfl, hw1⟩; have HW1 := Lib.hid hw1; clear hw1) | (go_at_call 47; first | ((with_reducible refine (HI1.out L1.out L3.out _ HW1.out).mono ?_); rintro r2 w2 ⟨rfl, hw2⟩; have HW2 := Lib.hid hw2; clear hw2) | (obtain ⟨z1, le1, st1, hz1⟩ := HW2.out; (with_reducible refine (HI2.out L2.out L4.out _ _ st1.len.symm hz1).mono ?_); rintro r3 w3 ⟨rfl, hw3⟩; have HW3 := Lib.hid (show ∃ z1 z2, Le z1 ∧ Stab (x1 ++ y1) z1 ∧ Le z2 ∧ Stab (x2 ++ y2) z2 ∧ SL B w0 (some ⟨g, 0, none⟩) cap n (A ++ (z1 ++ (z2 ++ C))) w3 from (by obtain ⟨z2, le2, st2, hz2⟩ := hw3; exact ⟨z1, z2, le1, st1, le2, st2, hz2⟩)); clear hw3 hz1 le1 st1)))
        go_end0
        obtain ⟨z1, z2, le1, st1, le2, st2, hz⟩ := HW3.out
        exact ⟨rfl, z1 ++ z2, (HF.out z1 z2 le1 st1 le2 st2).1, (HF.out z1 z2 le1 st1 le2 st2).2, by simpa using hz⟩
      ·
        have z1 : (r : Int) < (m : Int) := by omega
        have z2 : (m : Int) < (e : Int) := by omega
        have z3 : (a : Int) < (r : Int) := by omega
        have z4 : (r : Int) < (d : Int) := by omega
        have z5 : (d : Int) < (e : Int) := by omega
        have z6 : ¬ (e : Int) < (b : Int) := by omega
        have N2 := Lib.hid (show x2.length = 0 ∨ y2.length = 0 by omega)
        have L1 := Lib.hid hl1
        have L2 := Lib.hid hl2
        have L3 := Lib.hid hl3
        have L4 := Lib.hid hl4
        clear hl1 hl2 hl3 hl4 hs hm he hb hd
        go_wp2_with (first | (go_at_call 51; (refine (HR.out L2.out L3.out _ HW0.out).mono ?_); rintro r1 w1 ⟨rfl, hw1⟩; have HW1 := Lib.hid hw1; clear hw1) | (go_at_call 47; first | ((with_reducible refine (HI1.out L1.out L3.out _ HW1.out).mono ?_); rintro r2 w2 ⟨rfl, hw2⟩; have HW2 := Lib.hid hw2; clear hw2)))
        go_end0
        obtain ⟨z1, le1, st1, hz⟩ := HW2.out
        have le2 := HN2.out N2.out
        exact ⟨rfl, z1 ++ (x2 ++ y2), (HF.out z1 _ le1 st1 le2 (Stab.refl _)).1, (HF.out z1 _ le1 st1 le2 (Stab.refl _)).2, by simpa using hz⟩
      ·
        have z1 : (r : Int) < (m : Int) := by omega
        have z2 : ¬ (m : Int) < (e : Int) := by omega
        have z3 : (a : Int) < (r : Int) := by omega
        have z4 : ¬ (r : Int) < (d : Int) := by omega
        have z5 : (d : Int) < (e : Int) := by omega
        have z6 : (e : Int) < (b : Int) := by omega
        have HW1 := Lib.hid (HN.out (by omega) _ HW0.out)
        have N1 := Lib.hid (show x1.length = 0 ∨ y1.length = 0 by omega)
        have HW2 := Lib.hid (HN1.out N1.out _ HW1.out)
        have L1 := Lib.hid hl1
        have L2 := Lib.hid hl2
        have L3 := Lib.hid hl3
        have L4 := Lib.hid hl4
        clear hl1 hl2 hl3 hl4 hs hm he hb hd
        go_wp2_with (first | (go_at_call 47; first | (obtain ⟨z1, le1, st1, hz1⟩ := HW2.out; (with_reducible refine (HI2.out L2.out L4.out _ _ st1.len.symm hz1).mono ?_); rintro r3 w3 ⟨rfl, hw3⟩; have HW3 := Lib.hid (show ∃ z1 z2, Le z1 ∧ Stab (x1 ++ y1) z1 ∧ Le z2 ∧ Stab (x2 ++ y2) z2 ∧ SL B w0 (some ⟨g, 0, none⟩) cap n (A ++ (z1 ++ (z2 ++ C))) w3 from (by obtain ⟨z2, le2, st2, hz2⟩ := hw3; exact ⟨z1, z2, le1, st1, le2, st2, hz2⟩)); clear hw3 hz1 le1 st1)))
        go_end0
        obtain ⟨z1, z2, le1, st1, le2, st2, hz⟩ := HW3.out
        exact ⟨rfl, z1 ++ z2, (HF.out z1 z2 le1 st1 le2 st2).1, (HF.out z1 z2 le1 st1 le2 st2).2, by simpa using hz⟩
      ·
        have z1 : (r : Int) < (m : Int) := by omega
        have z2 : (m : Int) < (e : Int) := by omega
        have z3 : ¬ (a : Int) < (r : Int) := by omega
        have z4 : (r : Int) < (d : Int) := by omega
        have z5 : (d : Int) < (e : Int) := by omega
        have z6 : ¬ (e : Int) < (b : Int) := by omega
        have N1 := Lib.hid (show x1.length = 0 ∨ y1.length = 0 by omega)
        have N2 := Lib.hid (show x2.length = 0 ∨ y2.length = 0 by omega)
        have L1 := Lib.hid hl1
        have L2 := Lib.hid hl2
        have L3 := Lib.hid hl3
        have L4 := Lib.hid hl4
        clear hl1 hl2 hl3 hl4 hs hm he hb hd
        go_wp2_with (first | (go_at_call 51; (refine (HR.out L2.out L3.out _ HW0.out).mono ?_); rintro r1 w1 ⟨rfl, hw1⟩; have HW1 := Lib.hid hw1; clear hw1; have HW2 := Lib.hid (HN1.out N1.out _ HW1.out)))
        go_end0
        obtain ⟨z1, le1, st1, hz⟩ := HW2.out
        have le2 := HN2.out N2.out
        exact ⟨rfl, z1 ++ (x2 ++ y2), (HF.out z1 _ le1 st1 le2 (Stab.refl _)).1, (HF.out z1 _ le1 st1 le2 (Stab.refl _)).2, by simpa using hz⟩
end Go.Proofs.Ytnmmeaoapfampaa

/-
  The library's merge of two parts that are in order, in place: of each there are more; the middle is not ahead of it.
-/
namespace Go.Proofs.Ytnmmeaoapfampaa
open Go.RowKit

set_option maxRecDepth 100000 in
set_option maxHeartbeats 2000000 in
theorem sym_le {B g cap n a m b K : Nat} {w0 w : World} {A X Y C : List Ent} (ih : SymTo B g cap n w0 K) (h : SL B w0 (some ⟨g, 0, none⟩) cap n (A ++ (X ++ (Y ++ C))) w) (ha : a = A.length) (hm : m = a + X.length) (hb : b = m + Y.length) (hX : Le X) (hY : Le Y) (h2 : 2 ≤ X.length) (h3 : 2 ≤ Y.length) (hK : X.length + Y.length ≤ K + 1) (hn : n ≤ 1000) (hdm : ¬ (a + b) / 2 < m) :
    Calls Try.prog 47 #[.slice (some ⟨g, 0, none⟩) n cap, .int .i64 a, .int .i64 m, .int .i64 b, .func (.func 32) #[] #[]] w fun e w' => e = .returned (.tuple #[]) ∧ ∃ Z, Le Z ∧ Stab (X ++ Y) Z ∧ SL B w0 (some ⟨g, 0, none⟩) cap n (A ++ (Z ++ C)) w' := by
  have hlen := h.len
  simp only [List.length_append] at hlen
  have hbn : b ≤ n := by omega
  have ham : a + 2 ≤ m := by omega
  have hmb : m + 2 ≤ b := by omega
  have hbK : b - a ≤ K + 1 := by omega
  obtain ⟨xl, hxl⟩ : ∃ xl, xl = m - a := ⟨_, rfl⟩
  obtain ⟨yl, hyl⟩ : ∃ yl, yl = b - m := ⟨_, rfl⟩
  have hma : (m : Int) - (a : Int) = (xl : Int) := by omega
  have hm1 : ((xl : Int) == 1) = false := by simp; omega
  have hbm : (b : Int) - (m : Int) = (yl : Int) := by omega
  have hb1 : ((yl : Int) == 1) = false := by simp; omega
  obtain ⟨d, hd⟩ : ∃ d, d = (a + b) / 2 := ⟨_, rfl⟩
  rw [← hd] at hdm
  have hdz : ((a : Int) + (b : Int)) / 2 = (d : Int) := by omega
  obtain ⟨q, hq⟩ : ∃ q, q = d + m := ⟨_, rfl⟩
  have hqz : (d : Int) + (m : Int) = (q : Int) := by omega
  obtain ⟨p, hp⟩ : ∃ p, p + 1 = q := ⟨q - 1, by omega⟩
  have hpz : (q : Int) - 1 = (p : Int) := by omega
  have had : a < d := by omega
  have hdb : d < b := by omega
  have hqn : q ≤ 2000 := by omega
  obtain ⟨L, hL⟩ : ∃ L, L = A ++ (X ++ (Y ++ C)) := ⟨_, rfl⟩
  rw [← hL] at h
  have lx : ∀ t, t < X.length → L.getD (a + t) Ent.none_ = X.getD t Ent.none_ := fun t ht => by
    rw [hL, getD_right (by omega), getD_left (by omega)]
    congr 1
    omega
  have ly : ∀ t, t < Y.length → L.getD (m + t) Ent.none_ = Y.getD t Ent.none_ := fun t ht => by
    rw [hL, ← List.append_assoc, getD_right (by simp; omega), getD_left (by simp; omega)]
    congr 1
    simp
    omega
  have LX : ∀ c c', a ≤ c → c ≤ c' → c' < m → (L.getD c Ent.none_).cmp (L.getD c' Ent.none_) ≤ 0 := fun c c' h1 h2 h3 => by
    have := le_at' hX (i := c - a) (j := c' - a) (by omega) (by omega)
    rwa [← lx _ (by omega), ← lx _ (by omega), show a + (c - a) = c by omega, show a + (c' - a) = c' by omega] at this
  have LY : ∀ c c', m ≤ c → c ≤ c' → c' < b → (L.getD c Ent.none_).cmp (L.getD c' Ent.none_) ≤ 0 := fun c c' h1 h2 h3 => by
    have := le_at' hY (i := c - m) (j := c' - m) (by omega) (by omega)
    rwa [← ly _ (by omega), ← ly _ (by omega), show m + (c - m) = c by omega, show m + (c' - m) = c' by omega] at this
  have hdmz : ¬ (d : Int) < (m : Int) := by omega
  have hMid : Mid L X Y a m b d q p a m := ⟨hd, hq, hp, ham, hmb, hm, hb, lx, ly, LX, LY, by omega, by omega, by omega, by omega, by omega, by omega, by omega⟩
  have HMID := Lib.hid hMid
  have HL := Lib.hid hL
  have HS := Lib.hid h
  have HA := Lib.hid ha
  have HX := Lib.hid hX
  have HY := Lib.hid hY
  have IH := Lib.hid ih
  have HP := Lib.hid hp
  clear hlen hL h ha hm hb hX hY h2 h3 hK lx ly ih hxl hyl hd hq hp LX LY hMid hdm
  go_enter Try.func47, Try.ntmps47
  go_wp2
  go_loopg [20, 21] (m - a) (fun kx s20 s21 wr => ∃ s r : Nat, s20 = .int .i64 s ∧ s21 = .int .i64 r ∧ a ≤ s ∧ s ≤ r ∧ r ≤ m ∧ r - s ≤ kx ∧ Hid (Found L p a m s r) ∧ Hid (SL B w0 (some ⟨g, 0, none⟩) cap n (L) wr))
  case atStart => exact ⟨a, m, rfl, rfl, by have := HMID.out.s0a; omega, HMID.out.sr, HMID.out.r0m, by have := HMID.out.s0a; have := HMID.out.r0m; omega, Lib.hid HMID.out.start, HS⟩
  case round =>
    clear HS
    obtain ⟨s, r, rfl, rfl, has, hsr, hrm, hk, HI, HS⟩ := hrel
    by_cases hlt : s < r
    · have hltz : (s : Int) < (r : Int) := by omega
      obtain ⟨h, hh⟩ : ∃ h : Nat, h = (s + r) / 2 := ⟨_, rfl⟩
      have h1 : s ≤ h := by omega
      have h2 : h < r := by omega
      have hhz : ((s : Int) + (r : Int)) / 2 = (h : Int) := by omega
      have hhn : (h : Int) < (n : Int) := by omega
      clear hh
      obtain ⟨e, he⟩ : ∃ e, e = p - h := ⟨_, rfl⟩
      have hen : e < n := by have := HI.out.1; have := HMID.out.hqs; have := HP.out; omega
      have hez : (p : Int) - (h : Int) = (e : Int) := by have := HI.out.2.1; have := HMID.out.hrq; have := HP.out; omega
      have henz : (e : Int) < (n : Int) := by omega
      have re : IntKind.i64.wrap (e : Int) = (e : Int) := by rw [IntKind.wrap_i64]; omega
      obtain ⟨x, gy⟩ : ∃ x, L.getD h Ent.none_ = x := ⟨_, rfl⟩
      obtain ⟨y, gx⟩ : ∃ y, L.getD e Ent.none_ = y := ⟨_, rfl⟩
      have hs := HS.out
      have c0 := fun z_ os => ((hs.shift z_ os).cells (i := e) (by omega)).1
      have c1 := fun z_ os => ((hs.shift z_ os).cells (i := e) (by omega)).2.1
      have c2 := fun z_ os => ((hs.shift z_ os).cells (i := e) (by omega)).2.2.1
      have c3 := fun z_ os => ((hs.shift z_ os).cells (i := e) (by omega)).2.2.2
      have d0 := fun z_ os => ((hs.shift z_ os).cells (i := h) (by omega)).1
      have d1 := fun z_ os => ((hs.shift z_ os).cells (i := h) (by omega)).2.1
      have d2 := fun z_ os => ((hs.shift z_ os).cells (i := h) (by omega)).2.2.1
      have d3 := fun z_ os => ((hs.shift z_ os).cells (i := h) (by omega)).2.2.2
      have hc := fun z_ os => hs.compare (i := e) (j := h) (by omega) (by omega) z_ os
      rw [gx] at c0 c1 c2 c3
      rw [gy] at d0 d1 d2 d3
      rw [gx, gy] at hc
      have HC := Lib.hid hc
      clear hc
      have HE := Lib.hid (show L.getD (p - h) Ent.none_ = y by rw [← he]; exact gx)
      have HH := Lib.hid gy
      clear hs gx gy he
      by_cases hv : y.cmp x < 0
      · have HV := Lib.hid hv
        have hv2 : (!decide (y.cmp x < 0)) = false := by simp; omega
        go_wp2_with fail
        refine wp_region_shift (by kernel_rfl) (by kernel_rfl) ?_
        repeat (quiet_step (exact HC.out _ _))
        refine wpQuiet_nil ?_
        intro _ hw'
        obtain ⟨⟨nq, osq⟩, hw''⟩ := hw'
        subst hw''
        have hz := HS.out.shift nq osq
        clear c0 c1 c2 c3 d0 d1 d2 d3 HC
        generalize shiftW wr nq osq = wz at hz ⊢
        have HZ := Lib.hid hz
        clear hz
        go_wp2
        go_roundg (h - s)
        case measure => omega
        case rel => exact ⟨s, h, rfl, rfl, has, h1, by omega, Nat.le_refl _, Lib.hid (HMID.out.low HI.out h1 h2 (by rw [HE.out, HH.out]; exact HV.out)), HZ⟩
      · have HV := Lib.hid hv
        have hv2 : (!decide (y.cmp x < 0)) = true := by simp; omega
        go_wp2_with fail
        refine wp_region_shift (by kernel_rfl) (by kernel_rfl) ?_
        repeat (quiet_step (exact HC.out _ _))
        refine wpQuiet_nil ?_
        intro _ hw'
        obtain ⟨⟨nq, osq⟩, hw''⟩ := hw'
        subst hw''
        have hz := HS.out.shift nq osq
        clear c0 c1 c2 c3 d0 d1 d2 d3 HC
        generalize shiftW wr nq osq = wz at hz ⊢
        have HZ := Lib.hid hz
        clear hz
        go_wp2
        go_roundg (r - (h + 1))
        case measure => omega
        case rel => exact ⟨h + 1, r, by go_num, rfl, by omega, by omega, hrm, Nat.le_refl _, Lib.hid (HMID.out.high HI.out h1 h2 (by rw [HE.out, HH.out]; have := HV.out; omega)), HZ⟩
    · have hltz : ¬ (s : Int) < (r : Int) := by omega
      obtain rfl : r = s := by omega
      obtain ⟨x1, x2, y1, y2, hX, hY, hs, hm, he, hb, hd, hsq, h1, h2⟩ := HMID.out.parts HI.out
      obtain ⟨e, heq⟩ : ∃ e, e = q - r := ⟨_, rfl⟩
      rw [← heq] at he hb
      have hez : (q : Int) - (r : Int) = (e : Int) := by omega
      have hae : a ≤ e := by omega
      have heb : e ≤ b := by omega
      have HW0 : Hid (SL B w0 (some ⟨g, 0, none⟩) cap n (A ++ ((x1 ++ x2) ++ ((y1 ++ y2) ++ C))) wr) := Lib.hid (by have := HS.out; rw [HL.out, hX, hY] at this; exact this)
      have hXl : Le (x1 ++ x2) := by rw [← hX]; exact HX.out
      have hYl : Le (y1 ++ y2) := by rw [← hY]; exact HY.out
      have HF : Hid (∀ z1 z2, Le z1 → Stab (x1 ++ y1) z1 → Le z2 → Stab (x2 ++ y2) z2 → Le (z1 ++ z2) ∧ Stab (X ++ Y) (z1 ++ z2)) := Lib.hid fun z1 z2 l1 s1 l2 s2 => by
        rw [hX, hY]
        exact halves hXl hYl h1 h2 l1 l2 s1 s2
      have HR : Hid (1 ≤ x2.length → 1 ≤ y1.length → ∀ w, SL B w0 (some ⟨g, 0, none⟩) cap n (A ++ ((x1 ++ x2) ++ ((y1 ++ y2) ++ C))) w → Calls Try.prog 51 #[.slice (some ⟨g, 0, none⟩) n cap, .int .i64 r, .int .i64 m, .int .i64 e, .func (.func 32) #[] #[]] w fun e w' => e = .returned (.tuple #[]) ∧ SL B w0 (some ⟨g, 0, none⟩) cap n (A ++ (x1 ++ (y1 ++ (x2 ++ (y2 ++ C))))) w') := Lib.hid fun g1 g2 w hw => by
        have e0 : A ++ ((x1 ++ x2) ++ ((y1 ++ y2) ++ C)) = (A ++ x1) ++ (x2 ++ (y1 ++ (y2 ++ C))) := by simp
        have e1 : A ++ (x1 ++ (y1 ++ (x2 ++ (y2 ++ C)))) = (A ++ x1) ++ (y1 ++ (x2 ++ (y2 ++ C))) := by simp
        rw [e0] at hw
        rw [e1]
        exact rotate_any hw (by have := HA.out; simp; omega) (by have := HA.out; simp; omega) (by have := HA.out; simp; omega) g1 g2 hn
      have HI1 : Hid (1 ≤ x1.length → 1 ≤ y1.length → ∀ w, SL B w0 (some ⟨g, 0, none⟩) cap n (A ++ (x1 ++ (y1 ++ (x2 ++ (y2 ++ C))))) w → Calls Try.prog 47 #[.slice (some ⟨g, 0, none⟩) n cap, .int .i64 a, .int .i64 r, .int .i64 d, .func (.func 32) #[] #[]] w fun e w' => e = .returned (.tuple #[]) ∧ ∃ z1, Le z1 ∧ Stab (x1 ++ y1) z1 ∧ SL B w0 (some ⟨g, 0, none⟩) cap n (A ++ (z1 ++ (x2 ++ (y2 ++ C)))) w') := Lib.hid fun g1 g2 w hw =>
        IH.out A x1 y1 _ a r d w hw HA.out hs hd hXl.left hYl.left g1 g2 (by omega)
      have HI2 : Hid (1 ≤ x2.length → 1 ≤ y2.length → ∀ w z1, z1.length = (x1 ++ y1).length → SL B w0 (some ⟨g, 0, none⟩) cap n (A ++ (z1 ++ (x2 ++ (y2 ++ C)))) w → Calls Try.prog 47 #[.slice (some ⟨g, 0, none⟩) n cap, .int .i64 d, .int .i64 e, .int .i64 b, .func (.func 32) #[] #[]] w fun e w' => e = .returned (.tuple #[]) ∧ ∃ z2, Le z2 ∧ Stab (x2 ++ y2) z2 ∧ SL B w0 (some ⟨g, 0, none⟩) cap n (A ++ (z1 ++ (z2 ++ C))) w') := Lib.hid fun g1 g2 w z1 hz hw => by
        rw [← List.append_assoc] at hw
        have := IH.out (A ++ z1) x2 y2 C d e b w hw (by have := HA.out; rw [List.length_append] at hz ⊢; omega) (by omega) hb hXl.right hYl.right g1 g2 (by omega)
        refine this.mono ?_
        rintro e w' ⟨rfl, z2, l2, s2, hz2⟩
        exact ⟨rfl, z2, l2, s2, by simpa using hz2⟩
      have HN : Hid (x2.length = 0 ∨ y1.length = 0 → ∀ w, SL B w0 (some ⟨g, 0, none⟩) cap n (A ++ ((x1 ++ x2) ++ ((y1 ++ y2) ++ C))) w → SL B w0 (some ⟨g, 0, none⟩) cap n (A ++ (x1 ++ (y1 ++ (x2 ++ (y2 ++ C))))) w) := Lib.hid fun g1 w hw => by
        rcases g1 with g1 | g1
        · obtain rfl := List.eq_nil_of_length_eq_zero g1
          simpa using hw
        · obtain rfl := List.eq_nil_of_length_eq_zero g1
          simpa using hw
      have HN1 : Hid (x1.length = 0 ∨ y1.length = 0 → ∀ w, SL B w0 (some ⟨g, 0, none⟩) cap n (A ++ (x1 ++ (y1 ++ (x2 ++ (y2 ++ C))))) w → ∃ z1, Le z1 ∧ Stab (x1 ++ y1) z1 ∧ SL B w0 (some ⟨g, 0, none⟩) cap n (A ++ (z1 ++ (x2 ++ (y2 ++ C)))) w) := Lib.hid fun g1 w hw => by
        refine ⟨x1 ++ y1, ?_, Stab.refl _, by simpa using hw⟩
        rcases g1 with g1 | g1
        · obtain rfl := List.eq_nil_of_length_eq_zero g1
          exact hYl.left
        · obtain rfl := List.eq_nil_of_length_eq_zero g1
          rw [List.append_nil]
          exact hXl.left
      have HN2 : Hid (x2.length = 0 ∨ y2.length = 0 → Le (x2 ++ y2)) := Lib.hid fun g1 => by
        rcases g1 with g1 | g1
        · obtain rfl := List.eq_nil_of_length_eq_zero g1
          exact hYl.right
        · obtain rfl := List.eq_nil_of_length_eq_zero g1
          rw [List.append_nil]
          exact hXl.right
      clear hX hY h1 h2 hXl hYl HI HS heq
      have hl1 : 1 ≤ x1.length ∨ x1.length = 0 := by omega
      have hl2 : 1 ≤ x2.length ∨ x2.length = 0 := by omega
      have hl3 : 1 ≤ y1.length ∨ y1.length = 0 := by omega
      have hl4 : 1 ≤ y2.length ∨ y2.length = 0 := by omega
      rcases hl1 with hl1 | hl1 <;> rcases hl2 with hl2 | hl2 <;> rcases hl3 with hl3 | hl3 <;> rcases hl4 with hl4 | hl4 <;> first | (exfalso; omega) | skip
      ·
        have z1 : (r : Int) < (m : Int) := by omega
        have z2 : (m : Int) < (e : Int) := by omega
        have z3 : (a : Int) < (r : Int) := by omega
        have z4 : (r : Int) < (d : Int) := by omega
        have z5 : (d : Int) < (e : Int) := by omega
        have z6 : (e : Int) < (b : Int) := by omega
        have L1 := Lib.hid hl1
        have L2 := Lib.hid hl2
        have L3 := Lib.hid hl3
        have L4 := Lib.hid hl4
        clear hl1 hl2 hl3 hl4 hs hm he hb hd
        go_wp2_with (first | (go_at_call 51; (refine (HR.out L2.out L3.out _ HW0.out).mono ?_); rintro r1 w1 ⟨rfl, hw1⟩; have HW1 := Lib.hid hw1; clear hw1) | (go_at_call 47; first | ((with_reducible refine (HI1.out L1.out L3.out _ HW1.out).mono ?_); rintro r2 w2 ⟨rfl, hw2⟩; have HW2 := Lib.hid hw2; clear hw2) | (obtain ⟨z1, le1, st1, hz1⟩ := HW2.out; (with_reducible refine (HI2.out L2.out L4.out _ _ st1.len.symm hz1).mono ?_); rintro r3 w3 ⟨rfl, hw3⟩; have HW3 := Lib.hid (show ∃ z1 z2, Le z1 ∧ Stab (x1 ++ y1) z1 ∧ Le z2 ∧ Stab (x2 ++ y2) z2 ∧ SL B w0 (some ⟨g, 0, none⟩) cap n (A ++ (z1 ++ (z2 ++ C))) w3 from (by obtain ⟨z2, le2, st2, hz2⟩ := hw3; exact ⟨z1, z2, le1, st1, le2, st2, hz2⟩)); clear hw3 hz1 le1 st1)))
        go_end0
        obtain ⟨z1, z2, le1, st1, le2, st2, hz⟩ := HW3.out
        exact ⟨rfl, z1 ++ z2, (HF.out z1 z2 le1 st1 le2 st2).1, (HF.out z1 z2 le1 st1 le2 st2).2, by simpa using hz⟩
      ·
        have z1 : ¬ (r : Int) < (m : Int) := by omega
        have z2 : (m : Int) < (e : Int) := by omega
        have z3 : (a : Int) < (r : Int) := by omega
        have z4 : (r : Int) < (d : Int) := by omega
        have z5 : ¬ (d : Int) < (e : Int) := by omega
        have z6 : (e : Int) < (b : Int) := by omega
        have HW1 := Lib.hid (HN.out (by omega) _ HW0.out)
        have N2 := Lib.hid (show x2.length = 0 ∨ y2.length = 0 by omega)
        have L1 := Lib.hid hl1
        have L2 := Lib.hid hl2
        have L3 := Lib.hid hl3
        have L4 := Lib.hid hl4
        clear hl1 hl2 hl3 hl4 hs hm he hb hd
        go_wp2_with (first | (go_at_call 47; first | ((with_reducible refine (HI1.out L1.out L3.out _ HW1.out).mono ?_); rintro r2 w2 ⟨rfl, hw2⟩; have HW2 := Lib.hid hw2; clear hw2)))
        go_end0
        obtain ⟨z1, le1, st1, hz⟩ := HW2.out
        have le2 := HN2.out N2.out
        exact ⟨rfl, z1 ++ (x2 ++ y2), (HF.out z1 _ le1 st1 le2 (Stab.refl _)).1, (HF.out z1 _ le1 st1 le2 (Stab.refl _)).2, by simpa using hz⟩
      ·
        have z1 : ¬ (r : Int) < (m : Int) := by omega
        have z2 : ¬ (m : Int) < (e : Int) := by omega
        have z3 : (a : Int) < (r : Int) := by omega
        have z4 : ¬ (r : Int) < (d : Int) := by omega
        have z5 : ¬ (d : Int) < (e : Int) := by omega
        have z6 : (e : Int) < (b : Int) := by omega
        have HW1 := Lib.hid (HN.out (by omega) _ HW0.out)
        have N1 := Lib.hid (show x1.length = 0 ∨ y1.length = 0 by omega)
        have N2 := Lib.hid (show x2.length = 0 ∨ y2.length = 0 by omega)
        have HW2 := Lib.hid (HN1.out N1.out _ HW1.out)
        have L1 := Lib.hid hl1
        have L2 := Lib.hid hl2
        have L3 := Lib.hid hl3
        have L4 := Lib.hid hl4
        clear hl1 hl2 hl3 hl4 hs hm he hb hd
        go_wp2
        go_end0
        obtain ⟨z1, le1, st1, hz⟩ := HW2.out
        have le2 := HN2.out N2.out
        exact ⟨rfl, z1 ++ (x2 ++ y2), (HF.out z1 _ le1 st1 le2 (Stab.refl _)).1, (HF.out z1 _ le1 st1 le2 (Stab.refl _)).2, by simpa using hz⟩
      ·
        have z1 : (r : Int) < (m : Int) := by omega
        have z2 : (m : Int) < (e : Int) := by omega
        have z3 : ¬ (a : Int) < (r : Int) := by omega
        have z4 : (r : Int) < (d : Int) := by omega
        have z5 : (d : Int) < (e : Int) := by omega
        have z6 : (e : Int) < (b : Int) := by omega
        have N1 := Lib.hid (show x1.length = 0 ∨ y1.length = 0 by omega)
        have L1 := Lib.hid hl1
        have L2 := Lib.hid hl2
        have L3 := Lib.hid hl3
        have L4 := Lib.hid hl4
        clear hl1 hl2 hl3 hl4 hs hm he hb hd
        go_wp2_with (first | (go_at_call 51; (refine (HR.out L2.out L3.out _ HW0.out).mono ?_); rintro r1 w1 ⟨rfl, hw1⟩; have HW1 := Lib.hid hw1; clear hw1; have HW2 := Lib.hid (HN1.out N1.out _ HW1.out)) | (go_at_call 47; first | (obtain ⟨z1, le1, st1, hz1⟩ := HW2.out; (with_reducible refine (HI2.out L2.out L4.out _ _ st1.len.symm hz1).mono ?_); rintro r3 w3 ⟨rfl, hw3⟩; have HW3 := Lib.hid (show ∃ z1 z2, Le z1 ∧ Stab (x1 ++ y1) z1 ∧ Le z2 ∧ Stab (x2 ++ y2) z2 ∧ SL B w0 (some ⟨g, 0, none⟩) cap n (A ++ (z1 ++ (z2 ++ C))) w3 from (by obtain ⟨z2, le2, st2, hz2⟩ := hw3; exact ⟨z1, z2, le1, st1, le2, st2, hz2⟩)); clear hw3 hz1 le1 st1)))
        go_end0
        obtain ⟨z1, z2, le1, st1, le2, st2, hz⟩ := HW3.out
        exact ⟨rfl, z1 ++ z2, (HF.out z1 z2 le1 st1 le2 st2).1, (HF.out z1 z2 le1 st1 le2 st2).2, by simpa using hz⟩
      ·
        have z1 : (r : Int) < (m : Int) := by omega
        have z2 : (m : Int) < (e : Int) := by omega
        have z3 : ¬ (a : Int) < (r : Int) := by omega
        have z4 : (r : Int) < (d : Int) := by omega
        have z5 : (d : Int) < (e : Int) := by omega
        have z6 : ¬ (e : Int) < (b : Int) := by omega
        have N1 := Lib.hid (show x1.length = 0 ∨ y1.length = 0 by omega)
        have N2 := Lib.hid (show x2.length = 0 ∨ y2.length = 0 by omega)
        have L1 := Lib.hid hl1
        have L2 := Lib.hid hl2
        have L3 := Lib.hid hl3
        have L4 := Lib.hid hl4
        clear hl1 hl2 hl3 hl4 hs hm he hb hd
        go_wp2_with (first | (go_at_call 51; (refine (HR.out L2.out L3.out _ HW0.out).mono ?_); rintro r1 w1 ⟨rfl, hw1⟩; have HW1 := Lib.hid hw1; clear hw1; have HW2 := Lib.hid (HN1.out N1.out _ HW1.out)))
        go_end0
        obtain ⟨z1, le1, st1, hz⟩ := HW2.out
        have le2 := HN2.out N2.out
        exact ⟨rfl, z1 ++ (x2 ++ y2), (HF.out z1 _ le1 st1 le2 (Stab.refl _)).1, (HF.out z1 _ le1 st1 le2 (Stab.refl _)).2, by simpa using hz⟩
end Go.Proofs.Ytnmmeaoapfampaa

/-
  slices.SortStableFunc of entries by their keys.
-/
namespace Go.Proofs.Ytnmmeaoapfampaa
open Go.RowKit

theorem sym_any {B g cap n : Nat} {w0 : World} (hn : n ≤ 1000) : ∀ K, SymTo B g cap n w0 K
  | 0 => fun A X Y C a m b w _ _ _ _ _ _ h1 h2 h3 => by omega
  | K + 1 => fun A X Y C a m b w h ha hm hb hX hY h1 h2 h3 => by
    by_cases g1 : X.length = 1
    · obtain ⟨x, rfl⟩ := List.length_eq_one_iff.1 g1
      exact sym_one (by simpa using h) ha (by simpa using hm) hb hY hn
    · by_cases g2 : Y.length = 1
      · obtain ⟨y, rfl⟩ := List.length_eq_one_iff.1 g2
        exact sym_two (by simpa using h) ha hm (by simpa using hb) hX (by omega) hn
      · by_cases g3 : (a + b) / 2 < m
        · exact sym_gt (sym_any hn K) h ha hm hb hX hY (by omega) (by omega) (by omega) hn g3
        · exact sym_le (sym_any hn K) h ha hm hb hX hY (by omega) (by omega) (by omega) hn g3

/-- The parts so far are in order, the rest is as it was. -/
def Stands (B g cap n : Nat) (w0 : World) (l : List Ent) (s a : Nat) (w : World) : Prop :=
  ∃ T D R t, l = T ++ R ∧ Stab T D ∧ Blocks s D ∧ D.length = s * t ∧ a = D.length ∧ SL B w0 (some ⟨g, 0, none⟩) cap n (D ++ R) w
section
variable {B g cap n : Nat} {w0 : World} {l : List Ent} {s a : Nat} {w : World}
theorem Stands.start (h : SL B w0 (some ⟨g, 0, none⟩) cap n l w) : Stands B g cap n w0 l s 0 w := ⟨[], [], l, 0, rfl, Stab.refl _, Blocks.nil _, by simp, rfl, h⟩
/-- One part more is put in order by itself. -/
theorem Stands.part (h : Stands B g cap n w0 l s a w) (hs : 0 < s) (hl : l.length = n) (hb : a + s ≤ n) (hn : n ≤ 1000) :
    Calls Try.prog 46 #[.slice (some ⟨g, 0, none⟩) n cap, .int .i64 a, .int .i64 (a + s : Nat), .func (.func 32) #[] #[]] w fun e w' => e = .returned (.tuple #[]) ∧ Stands B g cap n w0 l s (a + s) w' := by
  obtain ⟨T, D, R, t, h1, h2, h3, h4, rfl, h6⟩ := h
  have hl2 : R.length = n - D.length := by rw [h1, List.length_append, h2.len] at hl; omega
  have e : D ++ R = D ++ (R.take s ++ R.drop s) := by rw [List.take_append_drop]
  rw [e] at h6
  refine (insertion_any h6 rfl (by rw [List.length_take]; omega) hn).mono ?_
  rintro r w' ⟨rfl, S, k1, k2, k3⟩
  have k4 : S.length = s := by rw [← k2.len, List.length_take]; omega
  refine ⟨rfl, T ++ R.take s, D ++ S, R.drop s, t + 1, by rw [List.append_assoc, List.take_append_drop]; exact h1, h2.app k2, h3.snoc k1 h4 (by omega) hs, by rw [List.length_append, k4, h4, Nat.mul_add, Nat.mul_one], by rw [List.length_append, k4], by rw [List.append_assoc]; exact k3⟩
theorem Stands.last (h : Stands B g cap n w0 l s a w) (hs : 0 < s) (hl : l.length = n) (hb : n < a + s) (hn : n ≤ 1000) :
    Calls Try.prog 46 #[.slice (some ⟨g, 0, none⟩) n cap, .int .i64 a, .int .i64 n, .func (.func 32) #[] #[]] w fun e w' => e = .returned (.tuple #[]) ∧ ∃ l', Blocks s l' ∧ Stab l l' ∧ SL B w0 (some ⟨g, 0, none⟩) cap n l' w' := by
  obtain ⟨T, D, R, t, h1, h2, h3, h4, rfl, h6⟩ := h
  have hl3 := hl
  rw [h1, List.length_append, h2.len] at hl3
  have e : D ++ R = D ++ (R ++ []) := by simp
  rw [e] at h6
  refine (insertion_any h6 rfl (by omega) hn).mono ?_
  rintro r w' ⟨rfl, S, k1, k2, k3⟩
  exact ⟨rfl, D ++ S, h3.snoc k1 h4 (by rw [← k2.len]; omega) hs, by rw [h1]; exact h2.app k2, by simpa using k3⟩
/-- Two parts more are laid together. -/
theorem Stands.merge (h : Stands B g cap n w0 l (2 * s) a w) (hs : 0 < s) (hB : Blocks s l) (hl : l.length = n) (hb : a + 2 * s ≤ n) (hn : n ≤ 1000) :
    Calls Try.prog 47 #[.slice (some ⟨g, 0, none⟩) n cap, .int .i64 a, .int .i64 (a + s : Nat), .int .i64 (a + 2 * s : Nat), .func (.func 32) #[] #[]] w fun e w' => e = .returned (.tuple #[]) ∧ Stands B g cap n w0 l (2 * s) (a + 2 * s) w' := by
  obtain ⟨T, D, R, t, h1, h2, h3, h4, rfl, h6⟩ := h
  have hl2 : R.length = n - D.length := by rw [h1, List.length_append, h2.len] at hl; omega
  have e : R = R.take s ++ ((R.drop s).take s ++ R.drop (2 * s)) := by
    rw [show 2 * s = s + s by omega, ← List.drop_drop, List.take_append_drop, List.take_append_drop]
  have lX : (R.take s).length = s := by rw [List.length_take]; omega
  have lY : ((R.drop s).take s).length = s := by rw [List.length_take, List.length_drop]; omega
  have hX : Le (R.take s) := by
    have : l = T ++ (R.take s ++ R.drop s) := by rw [List.take_append_drop]; exact h1
    rw [this] at hB
    exact hB.part (t := 2 * t) (by rw [h2.len, h4, ← Nat.mul_assoc, Nat.mul_comm s 2]) (by omega)
  have hY : Le ((R.drop s).take s) := by
    have : l = (T ++ R.take s) ++ ((R.drop s).take s ++ R.drop (2 * s)) := by rw [List.append_assoc, ← e]; exact h1
    rw [this] at hB
    exact hB.part (t := 2 * t + 1) (by rw [List.length_append, lX, h2.len, h4, Nat.mul_add, ← Nat.mul_assoc, Nat.mul_comm s 2, Nat.mul_one]) (by omega)
  rw [e] at h6
  refine (sym_any hn (2 * s) D _ _ _ _ _ _ w h6 rfl (by omega) (by omega) hX hY (by omega) (by omega) (by omega)).mono ?_
  rintro r w' ⟨rfl, Z, k1, k2, k3⟩
  have k4 : Z.length = 2 * s := by rw [← k2.len, List.length_append]; omega
  refine ⟨rfl, T ++ (R.take s ++ (R.drop s).take s), D ++ Z, R.drop (2 * s), t + 1, by rw [List.append_assoc, List.append_assoc, ← e]; exact h1, h2.app k2, h3.snoc k1 h4 (by omega) (by omega), by rw [List.length_append, k4, h4, Nat.mul_add, Nat.mul_one], by rw [List.length_append, k4], by rw [List.append_assoc]; exact k3⟩
theorem Stands.mergeLast (h : Stands B g cap n w0 l (2 * s) a w) (hs : 0 < s) (hB : Blocks s l) (hl : l.length = n) (hb : n < a + 2 * s) (hm : a + s < n) (hn : n ≤ 1000) :
    Calls Try.prog 47 #[.slice (some ⟨g, 0, none⟩) n cap, .int .i64 a, .int .i64 (a + s : Nat), .int .i64 n, .func (.func 32) #[] #[]] w fun e w' => e = .returned (.tuple #[]) ∧ ∃ l', Blocks (2 * s) l' ∧ Stab l l' ∧ SL B w0 (some ⟨g, 0, none⟩) cap n l' w' := by
  obtain ⟨T, D, R, t, h1, h2, h3, h4, rfl, h6⟩ := h
  have hl2 : R.length = n - D.length := by rw [h1, List.length_append, h2.len] at hl; omega
  have e : R = R.take s ++ (R.drop s ++ []) := by simp
  have lX : (R.take s).length = s := by rw [List.length_take]; omega
  have lY : (R.drop s).length = R.length - s := by rw [List.length_drop]
  have hX : Le (R.take s) := by
    have : l = T ++ (R.take s ++ R.drop s) := by rw [List.take_append_drop]; exact h1
    rw [this] at hB
    exact hB.part (t := 2 * t) (by rw [h2.len, h4, ← Nat.mul_assoc, Nat.mul_comm s 2]) (by omega)
  have hY : Le (R.drop s) := by
    have : l = (T ++ R.take s) ++ (R.drop s ++ []) := by rw [List.append_assoc, ← e]; exact h1
    rw [this] at hB
    exact hB.part (t := 2 * t + 1) (by rw [List.length_append, lX, h2.len, h4, Nat.mul_add, ← Nat.mul_assoc, Nat.mul_comm s 2, Nat.mul_one]) (by omega)
  rw [e] at h6
  refine (sym_any hn (2 * s) D _ _ _ _ _ _ w h6 rfl (by omega) (by omega) hX hY (by omega) (by omega) (by omega)).mono ?_
  rintro r w' ⟨rfl, Z, k1, k2, k3⟩
  have k4 : Z.length = R.length := by rw [← k2.len, List.length_append]; omega
  exact ⟨rfl, D ++ Z, h3.snoc k1 h4 (by omega) (by omega), by rw [h1, ← List.take_append_drop s R]; exact h2.app k2, by simpa using k3⟩
theorem Stands.all (h : Stands B g cap n w0 l (2 * s) a w) (hs : 0 < s) (hB : Blocks s l) (hl : l.length = n) (hm : n ≤ a + s) : ∃ l', Blocks (2 * s) l' ∧ Stab l l' ∧ SL B w0 (some ⟨g, 0, none⟩) cap n l' w := by
  obtain ⟨T, D, R, t, h1, h2, h3, h4, rfl, h6⟩ := h
  have hl3 := hl
  rw [h1, List.length_append, h2.len] at hl3
  have hR : Le R := by
    have : l = T ++ (R ++ []) := by simpa using h1
    rw [this] at hB
    exact hB.part (t := 2 * t) (by rw [h2.len, h4, ← Nat.mul_assoc, Nat.mul_comm s 2]) (by omega)
  exact ⟨D ++ R, h3.snoc hR h4 (by omega) (by omega), by rw [h1]; exact h2.app (Stab.refl _), h6⟩
end

set_option maxRecDepth 100000 in
set_option maxHeartbeats 1000000 in
theorem stable_any {B g cap n : Nat} {w0 w : World} {l : List Ent} (h : SL B w0 (some ⟨g, 0, none⟩) cap n l w) (hn : n ≤ 1000) :
    Calls Try.prog 40 #[.slice (some ⟨g, 0, none⟩) n cap, .int .i64 n, .func (.func 32) #[] #[]] w fun e w' => e = .returned (.tuple #[]) ∧ ∃ l', Le l' ∧ Stab l l' ∧ SL B w0 (some ⟨g, 0, none⟩) cap n l' w' := by
  have HL := Lib.hid h.len
  have HS := Lib.hid (Stands.start (s := 20) h)
  clear h
  go_enter Try.func40, Try.ntmps40
  go_wp2
  go_loopg [7, 8] n (fun kx s7 s8 wr => ∃ a : Nat, s7 = .int .i64 a ∧ s8 = .int .i64 (a + 20 : Nat) ∧ a ≤ n ∧ n - a ≤ kx ∧ Hid (Stands B g cap n w0 l 20 a wr))
  case atStart => exact ⟨0, rfl, rfl, by omega, by omega, HS⟩
  case round =>
    clear HS
    obtain ⟨a, rfl, rfl, han, hk, HS⟩ := hrel
    by_cases hb : a + 20 ≤ n
    · have hbz : (a : Int) + 20 ≤ (n : Int) := by omega
      have HC := Lib.hid (HS.out.part (by omega) HL.out hb hn)
      clear HS
      go_wp2_with (go_at_call 46; (refine HC.out.mono ?_); rintro e w1 ⟨rfl, HS⟩)
      go_roundg (n - (a + 20))
      case measure => omega
      case rel => exact ⟨a + 20, by go_num, by go_num, hb, Nat.le_refl _, HS⟩
    · have hbz : ¬ (a : Int) + 20 ≤ (n : Int) := by omega
      have HC := Lib.hid (HS.out.last (by omega) HL.out (by omega) hn)
      clear HS
      go_wp2_with (go_at_call 46; (refine HC.out.mono ?_); rintro e w1 ⟨rfl, HS⟩)
      clear HC
      have HS := Lib.hid HS
      go_loopg [6] n (fun kx s6 wr => ∃ s : Nat, s6 = .int .i64 s ∧ 20 ≤ s ∧ s ≤ 2000 ∧ n - s ≤ kx ∧ Hid (∃ l', Blocks s l' ∧ Stab l l' ∧ SL B w0 (some ⟨g, 0, none⟩) cap n l' wr))
      case atStart => exact ⟨20, rfl, by omega, by omega, by omega, HS⟩
      case round =>
        clear HS
        obtain ⟨s, rfl, hs1, hs2, hk2, HS⟩ := hrel
        by_cases hsn : s < n
        · have hsz : (s : Int) < (n : Int) := by omega
          obtain ⟨l', hB, hst, hsl⟩ := HS.out
          have HB := Lib.hid hB
          have HST := Lib.hid hst
          have HL2 := Lib.hid hsl.len
          have HQ := Lib.hid (Stands.start (s := 2 * s) hsl)
          clear HS hB hst hsl
          go_wp2
          go_loopg [7, 8] n (fun kx s7 s8 wr => ∃ a : Nat, s7 = .int .i64 a ∧ s8 = .int .i64 (a + 2 * s : Nat) ∧ a ≤ n ∧ n - a ≤ kx ∧ Hid (Stands B g cap n w0 l' (2 * s) a wr))
          case atStart => exact ⟨0, rfl, by go_num, by omega, by omega, HQ⟩
          case round =>
            clear HQ
            obtain ⟨a2, rfl, rfl, han2, hk3, HQ⟩ := hrel
            by_cases hb2 : a2 + 2 * s ≤ n
            · have hbz2 : (a2 : Int) + 2 * (s : Int) ≤ (n : Int) := by omega
              have HC := Lib.hid (HQ.out.merge (by omega) HB.out HL2.out hb2 hn)
              clear HQ
              go_wp2_with (go_at_call 47; (refine HC.out.mono ?_); rintro e w1 ⟨rfl, HS⟩)
              go_roundg (n - (a2 + 2 * s))
              case measure => omega
              case rel => exact ⟨a2 + 2 * s, by go_num, by go_num, hb2, Nat.le_refl _, HS⟩
            · have hbz2 : ¬ (a2 : Int) + 2 * (s : Int) ≤ (n : Int) := by omega
              by_cases hm : a2 + s < n
              · have hmz : (a2 : Int) + (s : Int) < (n : Int) := by omega
                have HC := Lib.hid (HQ.out.mergeLast (by omega) HB.out HL2.out (by omega) hm hn)
                clear HQ
                go_wp2_with (go_at_call 47; (refine HC.out.mono ?_); rintro e w1 ⟨rfl, HS⟩)
                go_roundg (n - 2 * s)
                case measure => omega
                case rel =>
                  obtain ⟨l2, k1, k2, k3⟩ := HS
                  exact ⟨2 * s, by go_num, by omega, by omega, Nat.le_refl _, Lib.hid ⟨l2, k1, HST.out.trans k2, k3⟩⟩
              · have hmz : ¬ (a2 : Int) + (s : Int) < (n : Int) := by omega
                have HC := Lib.hid (HQ.out.all (by omega) HB.out HL2.out (by omega))
                clear HQ
                go_wp2
                go_roundg (n - 2 * s)
                case measure => omega
                case rel =>
                  obtain ⟨l2, k1, k2, k3⟩ := HC.out
                  exact ⟨2 * s, by go_num, by omega, by omega, Nat.le_refl _, Lib.hid ⟨l2, k1, HST.out.trans k2, k3⟩⟩
        · have hsz : ¬ (s : Int) < (n : Int) := by omega
          go_wp2
          go_end0
          obtain ⟨l', hB, hst, hsl⟩ := HS.out
          exact ⟨rfl, l', hB.all (by rw [hsl.len]; omega), hst, hsl⟩

set_option maxRecDepth 100000 in
theorem sortStable_any {B g cap n : Nat} {w0 w : World} {l : List Ent} (h : SL B w0 (some ⟨g, 0, none⟩) cap n l w) (hn : n ≤ 1000) :
    Calls Try.prog 31 #[.slice (some ⟨g, 0, none⟩) n cap, .func (.func 32) #[] #[]] w fun e w' => e = .returned (.tuple #[]) ∧ ∃ l', Le l' ∧ Stab l l' ∧ SL B w0 (some ⟨g, 0, none⟩) cap n l' w' := by
  have HC := Lib.hid (stable_any h hn)
  clear h
  go_enter Try.func31, Try.ntmps31
  go_wp2_with (go_at_call 40; (refine HC.out.mono ?_); rintro e w1 ⟨rfl, HS⟩)
  go_end0
  exact ⟨rfl, HS⟩

set_option maxRecDepth 100000 in
theorem stable_none (a : Option Addr) (cap : Nat) (f : Value) (w : World) :
    Calls Try.prog 40 #[.slice a 0 cap, .int .i64 0, f] w fun e w' => e = .returned (.tuple #[]) ∧ w' = w := by
  have HC := Lib.hid (insertion_none (.slice a 0 cap) f)
  go_enter Try.func40, Try.ntmps40
  go_wp2
  go_loopg [7, 8] 0 (fun _ s7 s8 wr => s7 = .int .i64 0 ∧ s8 = .int .i64 20 ∧ wr = w)
  case atStart => exact ⟨rfl, rfl, rfl⟩
  case round =>
    obtain ⟨rfl, rfl, rfl⟩ := hrel
    go_wp2_with (go_at_call 46; (refine (HC.out _).mono ?_); rintro e w1 ⟨rfl, rfl⟩)
    go_loopg [6] 0 (fun _ s6 wq => s6 = .int .i64 20 ∧ wq = w1)
    case atStart => exact ⟨rfl, rfl⟩
    case round =>
      obtain ⟨rfl, rfl⟩ := hrel
      go_wp2
      go_end0
      exact ⟨rfl, rfl⟩

set_option maxRecDepth 100000 in
theorem sortStable_none (a : Option Addr) (cap : Nat) (f : Value) (w : World) :
    Calls Try.prog 31 #[.slice a 0 cap, f] w fun e w' => e = .returned (.tuple #[]) ∧ w' = w := by
  have HC := Lib.hid (stable_none a cap f)
  go_enter Try.func31, Try.ntmps31
  go_wp2_with (go_at_call 40; (refine (HC.out _).mono ?_); rintro e w1 ⟨rfl, rfl⟩)
  go_end0
  exact ⟨rfl, rfl⟩
end Go.Proofs.Ytnmmeaoapfampaa
