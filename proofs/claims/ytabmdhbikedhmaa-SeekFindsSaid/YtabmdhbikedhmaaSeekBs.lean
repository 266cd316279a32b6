/-
  slices.BinarySearchFunc of entries for a key.
-/
import Derived.Test.YtabmdhbikedhmaaSeekFirst
import Derived.Test.YtabmdhbikedhmaaSeekIns
namespace Go.Proofs.Ytabmdhbikedhmaa
open Go.RowKit

/-- A key as an entry. -/
abbrev keyE (u : ByteArray) (s k : Int) : Ent := ⟨u, s, k, ⟨#[]⟩⟩
set_option maxRecDepth 100000 in
theorem cmpKey_any (x : Ent) (u : ByteArray) (s k : Int) (hx : x.fits) (hu : u.size ≤ maxLen) (W : World) : Calls Try.prog 48 #[entV x, .agg #[.string u, .int .i64 s, .int .i64 k]] W fun e w' => e = .returned (.int .i64 (x.cmp (keyE u s k))) ∧ Below W.heap.size W w' := by
  have HC := Lib.hid (fun W' => cmp_any x.u x.s x.k u s k hx.1 hu W')
  go_enter Try.func48, Try.ntmps48
  go_wp2_with (go_at_call 30; (refine (HC.out _).mono ?_); rintro e w1 ⟨rfl, hb⟩)
  go_ret
  exact ⟨rfl, belowT (((Below.refl _ W).alloc (Nat.le_refl _) _).alloc (by simp) _) (hb.mono (by simp))⟩

/-- The box with the key. -/
structure KeyBox (p : Nat) (u : ByteArray) (s k : Int) (w : World) : Prop where
  at_ : w.heap[p]? = some (.cells #[.string u, .int .i64 s, .int .i64 k] 31 (0, 0))
section
variable {B g cap n p : Nat} {w0 w W : World} {a : Option Addr} {l : List Ent} {u : ByteArray} {s k : Int}
theorem KeyBox.then_ (h : KeyBox p u s k w) {w' : World} (hb : Below w.heap.size w w') : KeyBox p u s k w' := ⟨(hb.block p (blk_lt h.at_)).trans h.at_⟩
theorem KeyBox.c0 (h : KeyBox p u s k w) : w.cell? ⟨p, 0, none⟩ = some (.string u) := blk_cell (i := 0) h.at_
theorem KeyBox.c1 (h : KeyBox p u s k w) : w.cell? ⟨p, 1, none⟩ = some (.int .i64 s) := blk_cell (i := 1) h.at_
theorem KeyBox.c2 (h : KeyBox p u s k w) : w.cell? ⟨p, 2, none⟩ = some (.int .i64 k) := blk_cell (i := 2) h.at_
theorem SL.below_ (h : SL B w0 a cap n l W) {i : Nat} (hi : i < n) (hu : u.size ≤ maxLen) (m : Nat) (os : Array Obj) :
    Calls Try.prog 48 #[entV (l.getD i Ent.none_), .agg #[.string u, .int .i64 s, .int .i64 k]] (shiftW W m os) fun e w'' => e = .returned (.int .i64 ((l.getD i Ent.none_).cmp (keyE u s k))) ∧ ∃ p : ShiftBy, w'' = shiftW W p.n p.os :=
  Calls.shift_of (cmpKey_any _ u s k (h.fit hi) hu _)
theorem low_len {L : List Ent} {m : Nat} (e : Ent) (hm : m ≤ L.length) (h1 : ∀ t, t < m → t < L.length → (L.getD t Ent.none_).cmp e < 0) (h2 : m < L.length → 0 ≤ (L.getD m Ent.none_).cmp e) : (lowE e L).length = m := by
  unfold lowE
  rw [← List.take_append_drop m L, List.takeWhile_append_of_pos fun x hx => decide_eq_true (take_all (Q := fun x => x.cmp e < 0) h1 x hx)]
  have : (L.drop m).takeWhile (fun x => decide (x.cmp e < 0)) = [] := by
    rcases Nat.lt_or_ge m L.length with h3 | h3
    · rw [List.drop_eq_getElem_cons h3, List.takeWhile_cons, if_neg]
      have := h2 h3
      simp only [List.getD, List.getElem?_eq_getElem h3, Option.getD_some] at this
      simp only [decide_eq_true_eq]
      omega
    · rw [List.drop_eq_nil_of_le h3]; rfl
  rw [this, List.append_nil, List.length_take, Nat.min_eq_left hm]
end

/-- Is the key itself there? -/
def hitB (L : List Ent) (u : ByteArray) (s k : Int) : Bool := decide (seekN L u s k < L.length) && decide ((L.getD (seekN L u s k) Ent.none_).cmp (keyE u s k) = 0)
set_option maxRecDepth 100000 in
set_option maxHeartbeats 1000000 in
theorem bsearch_any {cap n : Nat} {a : Option Addr} {L : List Ent} {w : World} (h : SL 0 w a cap n L w) (hup : Up L) (hn : n ≤ 1000) (u : ByteArray) (s k : Int) (hu : u.size ≤ maxLen) :
    Calls Try.prog 47 #[.slice a n cap, .agg #[.string u, .int .i64 s, .int .i64 k], .func (.func 48) #[] #[]] w fun e w' => e = .returned (.tuple #[.int .i64 (seekN L u s k : Nat), .bool (hitB L u s k)]) ∧ Below w.heap.size w w' := by
  have hlen := h.len
  have HU := Lib.hid hu
  have HUP := Lib.hid hup
  have HL := Lib.hid hlen
  obtain ⟨W0, hW0⟩ : ∃ W0, W0 = w.alloc (.cells #[.string u, .int .i64 s, .int .i64 k] 31) := ⟨_, rfl⟩
  have HB0 : Hid (Below w.heap.size w W0) := Lib.hid (by rw [hW0]; exact (Below.refl _ _).alloc (Nat.le_refl _) _)
  have HBX : Hid (KeyBox w.heap.size u s k W0) := Lib.hid ⟨by rw [hW0]; exact heap_alloc_new w _⟩
  have HS : Hid (SL 0 w a cap n L W0) := Lib.hid (h.then HB0.out)
  have HW0 := Lib.hid hW0
  have hgq : ∃ g, a = some ⟨g, 0, none⟩ ∨ n = 0 := by
    rcases Nat.eq_zero_or_pos n with h0 | h0
    · exact ⟨0, .inr h0⟩
    · obtain ⟨g, hg, _⟩ := h.at_ h0
      exact ⟨g, .inl hg⟩
  obtain ⟨g, hg⟩ := hgq
  have HG := Lib.hid hg
  clear hu hup hlen h hW0 hg
  go_enter Try.func47, Try.ntmps47
  go_upto_region 1 with (fail)
  rw [← HW0.out]
  clear HW0
  go_wp2
  go_loopg [9, 10] n (fun kx s9 s10 wr => ∃ i j : Nat, s9 = .int .i64 i ∧ s10 = .int .i64 j ∧ i ≤ j ∧ j ≤ n ∧ j - i ≤ kx ∧ Hid ((∀ t, t < i → t < L.length → (L.getD t Ent.none_).cmp (keyE u s k) < 0) ∧ (j < L.length → 0 ≤ (L.getD j Ent.none_).cmp (keyE u s k))) ∧ Hid (Below w.heap.size w wr) ∧ Hid (KeyBox w.heap.size u s k wr) ∧ Hid (SL 0 w a cap n L wr))
  case atStart => exact ⟨0, n, rfl, rfl, Nat.zero_le _, Nat.le_refl _, Nat.le_refl _, Lib.hid ⟨fun t h => by omega, fun h => by have := HL.out; omega⟩, HB0, HBX, HS⟩
  case round =>
    clear HB0 HBX HS
    obtain ⟨i, j, rfl, rfl, hij, hjn, hk, HI, HB, HBX, HS⟩ := hrel
    by_cases hlt : i < j
    · have hltz : (i : Int) < (j : Int) := by omega
      obtain ⟨h, hh⟩ : ∃ h : Nat, h = (i + j) / 2 := ⟨_, rfl⟩
      have h1 : i ≤ h := by omega
      have h2 : h < j := by omega
      have hhz : ((i : Int) + (j : Int)) / 2 = (h : Int) := by omega
      have hhn : (h : Int) < (n : Int) := by omega
      clear hh
      obtain rfl : a = some ⟨g, 0, none⟩ := by
        rcases HG.out with h | h
        · exact h
        · omega
      obtain ⟨x, gx⟩ : ∃ x, L.getD h Ent.none_ = x := ⟨_, rfl⟩
      have hs := HS.out
      have c0 := fun z_ os => ((hs.shift z_ os).cells (i := h) (by omega)).1
      have c1 := fun z_ os => ((hs.shift z_ os).cells (i := h) (by omega)).2.1
      have c2 := fun z_ os => ((hs.shift z_ os).cells (i := h) (by omega)).2.2.1
      have c3 := fun z_ os => ((hs.shift z_ os).cells (i := h) (by omega)).2.2.2
      have b0 := fun z_ os => (HBX.out.then_ (shift_below wr z_ os)).c0
      have b1 := fun z_ os => (HBX.out.then_ (shift_below wr z_ os)).c1
      have b2 := fun z_ os => (HBX.out.then_ (shift_below wr z_ os)).c2
      have hc := fun z_ os => hs.below_ (i := h) (u := u) (s := s) (k := k) (by omega) HU.out z_ os
      rw [gx] at c0 c1 c2 c3
      rw [gx] at hc
      have HC := Lib.hid hc
      clear hc
      have HX := Lib.hid gx
      clear hs gx
      by_cases hv : x.cmp (keyE u s k) < 0
      · have HV := Lib.hid hv
        go_wp2_with fail
        refine wp_region_shift (by kernel_rfl) (by kernel_rfl) ?_
        repeat (quiet_step (exact HC.out _ _))
        refine wpQuiet_nil ?_
        intro _ hw'
        obtain ⟨⟨nq, osq⟩, hw''⟩ := hw'
        subst hw''
        have hz := HS.out.shift nq osq
        have hbz := HBX.out.then_ (shift_below wr nq osq)
        have HBQ := shift_below wr nq osq
        clear c0 c1 c2 c3 b0 b1 b2 HC
        generalize shiftW wr nq osq = wz at hz hbz HBQ ⊢
        have HZ := Lib.hid hz
        have HBZ := Lib.hid hbz
        clear hz hbz
        go_wp2
        go_roundg (j - (h + 1))
        case measure => omega
        case rel =>
          refine ⟨h + 1, j, by go_num, rfl, by omega, hjn, Nat.le_refl _, Lib.hid ⟨fun t ht htl => ?_, HI.out.2⟩, Lib.hid (HB.out.trans (HBQ.mono HB.out.size)), HBZ, HZ⟩
          rcases Nat.lt_or_ge t h with h3 | h3
          · have := (List.pairwise_iff_getElem.1 HUP.out) t h htl (by have := HL.out; omega) h3
            have e1 : L.getD t Ent.none_ = L[t] := by simp [List.getD, htl]
            have e2 : L.getD h Ent.none_ = L[h]'(by have := HL.out; omega) := by have := HL.out; simp [List.getD, show h < L.length by omega]
            rw [← e1, ← e2, HX.out] at this
            exact cmp_lt_le this (Int.le_of_lt HV.out)
          · obtain rfl : t = h := by omega
            rw [HX.out]
            exact HV.out
      · have HV := Lib.hid hv
        go_wp2_with fail
        refine wp_region_shift (by kernel_rfl) (by kernel_rfl) ?_
        repeat (quiet_step (exact HC.out _ _))
        refine wpQuiet_nil ?_
        intro _ hw'
        obtain ⟨⟨nq, osq⟩, hw''⟩ := hw'
        subst hw''
        have hz := HS.out.shift nq osq
        have hbz := HBX.out.then_ (shift_below wr nq osq)
        have HBQ := shift_below wr nq osq
        clear c0 c1 c2 c3 b0 b1 b2 HC
        generalize shiftW wr nq osq = wz at hz hbz HBQ ⊢
        have HZ := Lib.hid hz
        have HBZ := Lib.hid hbz
        clear hz hbz
        go_wp2
        go_roundg (h - i)
        case measure => omega
        case rel => exact ⟨i, h, rfl, rfl, h1, by omega, Nat.le_refl _, Lib.hid ⟨HI.out.1, fun _ => by rw [HX.out]; have := HV.out; omega⟩, Lib.hid (HB.out.trans (HBQ.mono HB.out.size)), HBZ, HZ⟩
    · have hltz : ¬ (i : Int) < (j : Int) := by omega
      obtain rfl : j = i := by omega
      have HM : Hid (seekN L u s k = j) := Lib.hid (low_len (keyE u s k) (by rw [HL.out]; exact hjn) HI.out.1 HI.out.2)
      have HH : Hid (hitB L u s k = (decide (j < L.length) && decide ((L.getD j Ent.none_).cmp (keyE u s k) = 0))) := Lib.hid (by unfold hitB; rw [HM.out])
      by_cases hjl : j < n
      · have hjz : (j : Int) < (n : Int) := by omega
        obtain rfl : a = some ⟨g, 0, none⟩ := by
          rcases HG.out with h | h
          · exact h
          · omega
        obtain ⟨x, gx⟩ : ∃ x, L.getD j Ent.none_ = x := ⟨_, rfl⟩
        have hs := HS.out
        have c0 := fun z_ os => ((hs.shift z_ os).cells (i := j) (by omega)).1
        have c1 := fun z_ os => ((hs.shift z_ os).cells (i := j) (by omega)).2.1
        have c2 := fun z_ os => ((hs.shift z_ os).cells (i := j) (by omega)).2.2.1
        have c3 := fun z_ os => ((hs.shift z_ os).cells (i := j) (by omega)).2.2.2
        have b0 := fun z_ os => (HBX.out.then_ (shift_below wr z_ os)).c0
        have b1 := fun z_ os => (HBX.out.then_ (shift_below wr z_ os)).c1
        have b2 := fun z_ os => (HBX.out.then_ (shift_below wr z_ os)).c2
        have hc := fun z_ os => hs.below_ (i := j) (u := u) (s := s) (k := k) (by omega) HU.out z_ os
        rw [gx] at c0 c1 c2 c3
        rw [gx] at hc
        have HC := Lib.hid hc
        clear hc
        have HX := Lib.hid gx
        have HJ : Hid (decide (j < L.length) = true) := Lib.hid (decide_eq_true (by rw [HL.out]; exact hjl))
        clear hs gx
        go_wp2_with fail
        refine wp_region_shift (by kernel_rfl) (by kernel_rfl) ?_
        repeat (quiet_step (exact HC.out _ _))
        refine wpQuiet_nil ?_
        intro _ hw'
        obtain ⟨⟨nq, osq⟩, hw''⟩ := hw'
        subst hw''
        have hz := HS.out.shift nq osq
        have hbz := HBX.out.then_ (shift_below wr nq osq)
        have HBQ := shift_below wr nq osq
        clear c0 c1 c2 c3 b0 b1 b2 HC
        generalize shiftW wr nq osq = wz at hz hbz HBQ ⊢
        have HZ := Lib.hid hz
        have HBZ := Lib.hid hbz
        clear hz hbz
        go_wp2
        go_ret2
        exact ⟨by rw [HM.out, HH.out, HX.out, HJ.out, Bool.true_and]; first | rfl | (congr 3), HB.out.trans (HBQ.mono HB.out.size)⟩
      · have hjz : ¬ (j : Int) < (n : Int) := by omega
        have HJ : Hid (decide (j < L.length) = false) := Lib.hid (decide_eq_false (by rw [HL.out]; exact hjl))
        clear HBX HS
        go_wp2_with fail
        go_big_region
        go_wp2
        go_ret2
        exact ⟨by rw [HM.out, HH.out, HJ.out, Bool.false_and]; rfl, HB.out.drew⟩
end Go.Proofs.Ytabmdhbikedhmaa
