import Derived.Test.YtabmdhbikedhmaaSeekBs
import Derived.Test.YtabmdhbikedhmaaSeekC
import Derived.Test.YtabmdhbikedhmaaSeekCpt
import Derived.Test.YtabmdhbikedhmaaBase
import Derived.Test.YtabmdhbikedhmaaSeekFirst
import Derived.Test.YtabmdhbikedhmaaWSeekFinds
import Derived.Test.YtabmdhbikedhmaaRows
import Derived.ProofKit
import Derived.OpenShut
import Derived.ShutString
import Derived.ChangeOld

/-
  Chapter 14: the program's iterator: where it lies and what its moves do.
-/
namespace Go.Proofs.Ytabmdhbikedhmaa
open Go.RowKit

/-- The program's iterator 'q', with the blocks 'G', goes over 'L' and stands at 'a'. -/
def PIt (G : Nat → Prop) (w : World) (q : Nat) (L : List Ent) (a : Int) : Prop :=
  ∃ v m, w.heap[q]? = some (.cells #[v, .int .i64 (m : Nat)] 53 (0, 0)) ∧ OwnE w 0 v L ∧ v.ownBlock ≠ some q ∧ (∀ k, G k ↔ k = q ∨ v.ownBlock = some k) ∧ (∀ e ∈ L, e.fits) ∧ (a = (m : Int) - 1 ∧ m ≤ L.length + 1) ∧ L.length ≤ 1000 ∧ Up L
theorem PIt.lt {G : Nat → Prop} {w : World} {q : Nat} {L : List Ent} {a : Int} (h : PIt G w q L a) : ∀ k, G k → k < w.heap.size := by
  obtain ⟨v, m, h1, h2, _, h4, _⟩ := h
  intro k hk
  rcases (h4 k).1 hk with rfl | hk
  · exact blk_lt h1
  · exact (World.ownsRow.lt h2 k hk).2
theorem PIt.kept {G R : Nat → Prop} {w w' : World} {q : Nat} {L : List Ent} {a : Int} (h : PIt G w q L a) (hk : Kept R w w') (hR : ∀ k, G k → R k) : PIt G w' q L a := by
  obtain ⟨v, m, h1, h2, h3, h4, h5⟩ := h
  exact ⟨v, m, (hk.block q (hR q ((h4 q).2 (.inl rfl)))).trans h1, own_kept h2 hk fun k e => hR k ((h4 k).2 (.inr e)), h3, h4, h5⟩
theorem PIt.below {G : Nat → Prop} {w w' : World} {q : Nat} {L : List Ent} {a : Int} (h : PIt G w q L a) (hb : Below w.heap.size w w') : PIt G w' q L a := h.kept (R := G) (Kept.of hb fun k hk => h.lt k hk) fun _ h => h
theorem PIt.cells {G : Nat → Prop} {w : World} {q : Nat} {L : List Ent} {a : Int} (h : PIt G w q L a) : ∃ va vc m, w.heap[q]? = some (.cells #[.slice va L.length vc, .int .i64 (m : Nat)] 53 (0, 0)) ∧ a = (m : Int) - 1 ∧ m ≤ L.length + 1 ∧ L.length ≤ 1000 ∧ Up L ∧ SL 0 w va vc L.length L w := by
  obtain ⟨v, m, h1, h2, _, _, h5, ⟨h6, h7⟩, h8, h9⟩ := h
  obtain ⟨va, vc, rfl, _, _⟩ := h2.form
  exact ⟨va, vc, m, h1, h6, h7, h8, h9, rfl, Below.refl _ _, Nat.zero_le _, h2, h5⟩
/-- It has been moved. -/
theorem PIt.to {G : Nat → Prop} {w wd : World} {q : Nat} {L : List Ent} {a : Int} (h : PIt G w q L a) (hb : Below w.heap.size w wd) (m : Nat) (hm : m ≤ L.length + 1) : PIt G (wd.setCell ⟨q, 1, none⟩ (.int .i64 m)) q L ((m : Int) - 1) ∧ Touch G w (wd.setCell ⟨q, 1, none⟩ (.int .i64 m)) := by
  have h0 := h.below hb
  obtain ⟨v, m0, h1, h2, h3, h4, h5, h6, h7⟩ := h0
  refine ⟨⟨v, m, by rw [blk_set h1]; rfl, ?_, h3, h4, h5, ⟨rfl, hm⟩, h7⟩, ?_⟩
  · exact own_kept h2 (R := fun j => j ≠ q) ((Kept.refl _ wd).setCell (fun h => h rfl) _) fun j hj e => h3 (e ▸ hj)
  · exact Kept.setCell (Kept.of hb fun k hk => hk.1) (fun hk => hk.2 ((h4 q).2 (.inl rfl))) _
theorem stands_yes {L : List Ent} {m : Nat} (h0 : 0 < m) (h1 : m ≤ L.length) : stands L ((m : Int) - 1) = true := by unfold stands; simp; omega
theorem stands_no {L : List Ent} {m : Nat} (h : ¬ (0 < m ∧ m ≤ L.length)) : stands L ((m : Int) - 1) = false := by
  unfold stands
  rw [Bool.and_eq_false_iff, decide_eq_false_iff_not, decide_eq_false_iff_not]
  omega

set_option maxRecDepth 100000 in
set_option maxHeartbeats 400000 in
theorem pstands_any {G : Nat → Prop} {w : World} {q : Nat} {L : List Ent} {a : Int} (h : PIt G w q L a) : Calls Try.prog 36 #[.pointer (some ⟨q, 0, none⟩)] w fun e w' => e = .returned (.bool (stands L a)) ∧ Below w.heap.size w w' := by
  obtain ⟨va, vc, m, hq, rfl, hm, hl, _, _⟩ := h.cells
  have hq' : ∀ n os, (shiftW w n os).heap[q]? = some (.cells #[.slice va L.length vc, .int .i64 (m : Nat)] 53 (0, 0)) := fun n os => ((shift_below w n os).block q (blk_lt hq)).trans hq
  have p0 : ∀ n os, (shiftW w n os).cell? ⟨q, 0, none⟩ = some (.slice va L.length vc) := fun n os => blk_cell (i := 0) (hq' n os)
  have p1 : ∀ n os, (shiftW w n os).cell? ⟨q, 1, none⟩ = some (.int .i64 (m : Nat)) := fun n os => blk_cell (i := 1) (hq' n os)
  have hq1 : w.drew.heap[q]? = some (.cells #[.slice va L.length vc, .int .i64 (m : Nat)] 53 (0, 0)) := hq
  have p2 : w.cell? ⟨q, 1, none⟩ = some (.int .i64 (m : Nat)) := blk_cell (i := 1) hq
  clear h hq hq' hq1
  by_cases h0 : 0 < m
  · have h0z : (0 : Int) < (m : Int) := by omega
    by_cases h1 : m ≤ L.length
    · have HR := Lib.hid (stands_yes h0 h1)
      have h1z : (m : Int) ≤ (L.length : Int) := by omega
      go_enter Try.func36, Try.ntmps36
      go_wp2_with fail
      refine wp_region_shift (by kernel_rfl) (by kernel_rfl) ?_
      repeat (quiet_step (fail))
      refine wpQuiet_nil ?_
      intro _ hw'
      obtain ⟨⟨nq, osq⟩, hw''⟩ := hw'
      subst hw''
      go_wp2
      go_ret
      exact ⟨by rw [HR.out]; rfl, shift_below _ _ _⟩
    · have HR := Lib.hid (stands_no (L := L) (m := m) (fun h => h1 h.2))
      have h1z : ¬ (m : Int) ≤ (L.length : Int) := by omega
      go_enter Try.func36, Try.ntmps36
      go_wp2_with fail
      refine wp_region_shift (by kernel_rfl) (by kernel_rfl) ?_
      repeat (quiet_step (fail))
      refine wpQuiet_nil ?_
      intro _ hw'
      obtain ⟨⟨nq, osq⟩, hw''⟩ := hw'
      subst hw''
      go_wp2
      go_ret
      exact ⟨by rw [HR.out]; rfl, shift_below _ _ _⟩
  · have HR := Lib.hid (stands_no (L := L) (m := m) (fun h => h0 h.1))
    obtain rfl : m = 0 := by omega
    go_enter Try.func36, Try.ntmps36
    go_wp2_with fail
    go_big_region
    go_wp2
    go_ret
    exact ⟨by rw [HR.out]; rfl, (Below.refl _ _).drew⟩

/-- What a move tells and leaves. -/
def PMv (G : Nat → Prop) (q : Nat) (L : List Ent) (a : Int) (w : World) (r : Ending) (w' : World) : Prop := r = .returned (.bool (stands L a)) ∧ PIt G w' q L a ∧ Touch G w w'

/-- How many are below a key. -/
theorem pbelow_any {G : Nat → Prop} {w : World} {q : Nat} {L : List Ent} {a : Int} (h : PIt G w q L a) (u : ByteArray) (s k : Int) (hu : u.size ≤ maxLen) : Calls Try.prog 41 #[.pointer (some ⟨q, 0, none⟩), .agg #[.string u, .int .i64 s, .int .i64 k]] w fun e w' => e = .returned (.int .i64 (seekN L u s k : Nat)) ∧ Below w.heap.size w w' := by
  obtain ⟨va, vc, m, hq, rfl, hm, hl, hup, hsl⟩ := h.cells
  clear hm
  obtain ⟨W0, hW0⟩ : ∃ W0, W0 = w.alloc (.cells #[.string u, .int .i64 s, .int .i64 k] 31) := ⟨_, rfl⟩
  have hb0 : Below w.heap.size w W0 := by rw [hW0]; exact (Below.refl _ _).alloc (Nat.le_refl _) _
  have HB0 := Lib.hid hb0
  have HBX : Hid (KeyBox w.heap.size u s k W0) := Lib.hid ⟨by rw [hW0]; exact heap_alloc_new w _⟩
  have HW0 := Lib.hid hW0
  have hq0 := (hb0.block q (blk_lt hq)).trans hq
  have hq' : ∀ n os, (shiftW W0 n os).heap[q]? = some (.cells #[.slice va L.length vc, .int .i64 (m : Nat)] 53 (0, 0)) := fun n os => ((shift_below W0 n os).block q (blk_lt hq0)).trans hq0
  have p0 : ∀ n os, (shiftW W0 n os).cell? ⟨q, 0, none⟩ = some (.slice va L.length vc) := fun n os => blk_cell (i := 0) (hq' n os)
  have b0 := fun z_ os => (HBX.out.then_ (shift_below W0 z_ os)).c0
  have b1 := fun z_ os => (HBX.out.then_ (shift_below W0 z_ os)).c1
  have b2 := fun z_ os => (HBX.out.then_ (shift_below W0 z_ os)).c2
  have HC : Hid (∀ n os, Calls Try.prog 47 #[.slice va L.length vc, .agg #[.string u, .int .i64 s, .int .i64 k], .func (.func 48) #[] #[]] (shiftW W0 n os) fun e w'' => e = .returned (.tuple #[.int .i64 (seekN L u s k : Nat), .bool (hitB L u s k)]) ∧ ∃ p : ShiftBy, w'' = shiftW W0 p.n p.os) := Lib.hid fun n os => by
    have h1 := (hsl.then hb0).shift n os
    exact Calls.shift_of (bsearch_any ⟨h1.len, Below.refl _ _, Nat.zero_le _, h1.own, h1.fits⟩ hup hl u s k hu)
  clear h hq hq' hq0 hsl hup hW0 hb0 hu hl HBX
  go_enter Try.func41, Try.ntmps41
  go_upto_region 1 with (fail)
  rw [← HW0.out]
  clear HW0
  refine wp_region_shift (by kernel_rfl) (by kernel_rfl) ?_
  repeat (quiet_step (exact HC.out _ _))
  refine wpQuiet_nil ?_
  intro _ hw'
  obtain ⟨⟨nq, osq⟩, hw''⟩ := hw'
  subst hw''
  go_wp2
  go_ret
  exact ⟨rfl, HB0.out.trans ((shift_below _ _ _).mono HB0.out.size)⟩
end Go.Proofs.Ytabmdhbikedhmaa

/-
  Chapter 14: the program's iterator: its moves.
-/
namespace Go.Proofs.Ytabmdhbikedhmaa
open Go.RowKit

/-- It was moved, and tells where it stands. -/
theorem PIt.moved {G : Nat → Prop} {w wd w1 : World} {q : Nat} {L : List Ent} {a a' : Int} (h : PIt G w q L a) (hb : Below w.heap.size w wd) (m : Nat) (hm : m ≤ L.length + 1) (ha : a' = (m : Int) - 1) (h1 : Below (wd.setCell ⟨q, 1, none⟩ (.int .i64 m)).heap.size (wd.setCell ⟨q, 1, none⟩ (.int .i64 m)) w1) : PMv G q L a' w (.returned (.bool (stands L a'))) w1 := by
  subst ha
  obtain ⟨k1, k2⟩ := h.to hb m hm
  exact ⟨rfl, k1.below h1, k2.trans (Touch.of_below h1) (Grows.refl _ _ _)⟩
theorem PIt.stood {G : Nat → Prop} {w wd w1 : World} {q : Nat} {L : List Ent} {a : Int} (h : PIt G w q L a) (hb : Below w.heap.size w wd) (h1 : Below wd.heap.size wd w1) : PMv G q L a w (.returned (.bool (stands L a))) w1 :=
  ⟨rfl, h.below (belowT hb h1), Touch.of_below (belowT hb h1)⟩

set_option maxRecDepth 100000 in
set_option maxHeartbeats 400000 in
theorem mv_first {G : Nat → Prop} {w : World} {q : Nat} {L : List Ent} {a : Int} (h : PIt G w q L a) (u : ByteArray) (s k : Int) : Calls Try.prog 34 #[.pointer (some ⟨q, 0, none⟩), .int .i64 0, .agg #[.string u, .int .i64 s, .int .i64 k]] w (PMv G q L 0 w) := by
  have H := Lib.hid h
  obtain ⟨va, vc, m, hq, ha, hm, hl, _, _⟩ := h.cells
  obtain ⟨W0, hW0⟩ : ∃ W0, W0 = w.alloc (.cells #[.string u, .int .i64 s, .int .i64 k] 31) := ⟨_, rfl⟩
  have hb0 : Below w.heap.size w W0 := by rw [hW0]; exact (Below.refl _ _).alloc (Nat.le_refl _) _
  have hq0 := (hb0.block q (blk_lt hq)).trans hq
  have p0 : W0.cell? ⟨q, 0, none⟩ = some (.slice va L.length vc) := blk_cell (i := 0) hq0
  have p1 : W0.cell? ⟨q, 1, none⟩ = some (.int .i64 (m : Nat)) := blk_cell (i := 1) hq0
  have pf : W0.frozen? ⟨q, 1, none⟩ = false := blk_free hq0
  have kb := blk_cell (i := 0) (show W0.heap[w.heap.size]? = some (.cells #[.string u, .int .i64 s, .int .i64 k] 31 (0, 0)) by rw [hW0]; exact heap_alloc_new w _)
  have kb1 := blk_cell (i := 1) (show W0.heap[w.heap.size]? = some (.cells #[.string u, .int .i64 s, .int .i64 k] 31 (0, 0)) by rw [hW0]; exact heap_alloc_new w _)
  have kb2 := blk_cell (i := 2) (show W0.heap[w.heap.size]? = some (.cells #[.string u, .int .i64 s, .int .i64 k] 31 (0, 0)) by rw [hW0]; exact heap_alloc_new w _)
  replace kb : W0.cell? ⟨w.heap.size, 0, none⟩ = some (.string u) := kb
  replace kb1 : W0.cell? ⟨w.heap.size, 1, none⟩ = some (.int .i64 s) := kb1
  replace kb2 : W0.cell? ⟨w.heap.size, 2, none⟩ = some (.int .i64 k) := kb2
  have HB0 := Lib.hid hb0
  have HW0 := Lib.hid hW0
  have HQ0 := Lib.hid hq0
  have HT := Lib.hid (show PIt G (W0.setCell ⟨q, 1, none⟩ (.int .i64 1)) q L 0 from (H.out.to hb0 1 (by omega)).1)
  clear h hq hq0 hW0 hb0
  go_enter Try.func34, Try.ntmps34
  go_upto_region 1 with (fail)
  rw [← HW0.out]
  clear HW0
  go_wp2_with ((go_at_call 36; (refine (pstands_any HT.out).mono ?_); rintro e w1 ⟨rfl, hb1⟩))
  go_step3
  go_wp2_with ((go_at_call 36; (refine (pstands_any HT.out).mono ?_); rintro e w1 ⟨rfl, hb1⟩))
  go_step3
  go_wp2_with ((go_at_call 36; (refine (pstands_any HT.out).mono ?_); rintro e w1 ⟨rfl, hb1⟩))
  go_ret
  exact H.out.moved HB0.out 1 (by omega) (by omega) hb1

set_option maxRecDepth 100000 in
set_option maxHeartbeats 400000 in
theorem mv_last {G : Nat → Prop} {w : World} {q : Nat} {L : List Ent} {a : Int} (h : PIt G w q L a) (u : ByteArray) (s k : Int) : Calls Try.prog 34 #[.pointer (some ⟨q, 0, none⟩), .int .i64 1, .agg #[.string u, .int .i64 s, .int .i64 k]] w (PMv G q L ((L.length : Int) - 1) w) := by
  have H := Lib.hid h
  obtain ⟨va, vc, m, hq, ha, hm, hl, _, _⟩ := h.cells
  obtain ⟨W0, hW0⟩ : ∃ W0, W0 = w.alloc (.cells #[.string u, .int .i64 s, .int .i64 k] 31) := ⟨_, rfl⟩
  have hb0 : Below w.heap.size w W0 := by rw [hW0]; exact (Below.refl _ _).alloc (Nat.le_refl _) _
  have hq0 := (hb0.block q (blk_lt hq)).trans hq
  have p0 : W0.cell? ⟨q, 0, none⟩ = some (.slice va L.length vc) := blk_cell (i := 0) hq0
  have p1 : W0.cell? ⟨q, 1, none⟩ = some (.int .i64 (m : Nat)) := blk_cell (i := 1) hq0
  have pf : W0.frozen? ⟨q, 1, none⟩ = false := blk_free hq0
  have kb := blk_cell (i := 0) (show W0.heap[w.heap.size]? = some (.cells #[.string u, .int .i64 s, .int .i64 k] 31 (0, 0)) by rw [hW0]; exact heap_alloc_new w _)
  have kb1 := blk_cell (i := 1) (show W0.heap[w.heap.size]? = some (.cells #[.string u, .int .i64 s, .int .i64 k] 31 (0, 0)) by rw [hW0]; exact heap_alloc_new w _)
  have kb2 := blk_cell (i := 2) (show W0.heap[w.heap.size]? = some (.cells #[.string u, .int .i64 s, .int .i64 k] 31 (0, 0)) by rw [hW0]; exact heap_alloc_new w _)
  replace kb : W0.cell? ⟨w.heap.size, 0, none⟩ = some (.string u) := kb
  replace kb1 : W0.cell? ⟨w.heap.size, 1, none⟩ = some (.int .i64 s) := kb1
  replace kb2 : W0.cell? ⟨w.heap.size, 2, none⟩ = some (.int .i64 k) := kb2
  have HB0 := Lib.hid hb0
  have HW0 := Lib.hid hW0
  have HQ0 := Lib.hid hq0
  have HT := Lib.hid (show PIt G (W0.setCell ⟨q, 1, none⟩ (.int .i64 (L.length : Nat))) q L ((L.length : Int) - 1) from (H.out.to hb0 L.length (by omega)).1)
  clear h hq hq0 hW0 hb0
  go_enter Try.func34, Try.ntmps34
  go_upto_region 1 with (fail)
  rw [← HW0.out]
  clear HW0
  go_wp2_with ((go_at_call 36; (refine (pstands_any HT.out).mono ?_); rintro e w1 ⟨rfl, hb1⟩))
  go_step3
  go_wp2_with ((go_at_call 36; (refine (pstands_any HT.out).mono ?_); rintro e w1 ⟨rfl, hb1⟩))
  go_step3
  go_wp2_with ((go_at_call 36; (refine (pstands_any HT.out).mono ?_); rintro e w1 ⟨rfl, hb1⟩))
  go_ret
  exact H.out.moved HB0.out L.length (by omega) rfl hb1

set_option maxRecDepth 100000 in
set_option maxHeartbeats 400000 in
theorem mv_next {G : Nat → Prop} {w : World} {q : Nat} {L : List Ent} {a : Int} (h : PIt G w q L a) (u : ByteArray) (s k : Int) : Calls Try.prog 34 #[.pointer (some ⟨q, 0, none⟩), .int .i64 3, .agg #[.string u, .int .i64 s, .int .i64 k]] w (PMv G q L (nextA L a) w) := by
  have H := Lib.hid h
  obtain ⟨va, vc, m, hq, ha, hm, hl, _, _⟩ := h.cells
  obtain ⟨W0, hW0⟩ : ∃ W0, W0 = w.alloc (.cells #[.string u, .int .i64 s, .int .i64 k] 31) := ⟨_, rfl⟩
  have hb0 : Below w.heap.size w W0 := by rw [hW0]; exact (Below.refl _ _).alloc (Nat.le_refl _) _
  have hq0 := (hb0.block q (blk_lt hq)).trans hq
  have p0 : W0.cell? ⟨q, 0, none⟩ = some (.slice va L.length vc) := blk_cell (i := 0) hq0
  have p1 : W0.cell? ⟨q, 1, none⟩ = some (.int .i64 (m : Nat)) := blk_cell (i := 1) hq0
  have pf : W0.frozen? ⟨q, 1, none⟩ = false := blk_free hq0
  have kb := blk_cell (i := 0) (show W0.heap[w.heap.size]? = some (.cells #[.string u, .int .i64 s, .int .i64 k] 31 (0, 0)) by rw [hW0]; exact heap_alloc_new w _)
  have kb1 := blk_cell (i := 1) (show W0.heap[w.heap.size]? = some (.cells #[.string u, .int .i64 s, .int .i64 k] 31 (0, 0)) by rw [hW0]; exact heap_alloc_new w _)
  have kb2 := blk_cell (i := 2) (show W0.heap[w.heap.size]? = some (.cells #[.string u, .int .i64 s, .int .i64 k] 31 (0, 0)) by rw [hW0]; exact heap_alloc_new w _)
  replace kb : W0.cell? ⟨w.heap.size, 0, none⟩ = some (.string u) := kb
  replace kb1 : W0.cell? ⟨w.heap.size, 1, none⟩ = some (.int .i64 s) := kb1
  replace kb2 : W0.cell? ⟨w.heap.size, 2, none⟩ = some (.int .i64 k) := kb2
  have HB0 := Lib.hid hb0
  have HW0 := Lib.hid hW0
  have HQ0 := Lib.hid hq0
  have HA := Lib.hid ha
  clear h hq hq0 hW0 hb0
  clear ha
  by_cases hb : m = L.length + 1
  · have hbz : ((m : Int) == (L.length : Int) + 1) = true := by simp; omega
    have HP := Lib.hid (H.out.below HB0.out)
    have HN : Hid (nextA L a = a) := Lib.hid (by unfold nextA; have := HA.out; omega)
    rw [HN.out]
    have HB := Lib.hid hb
    clear hb
    go_enter Try.func34, Try.ntmps34
    go_upto_region 1 with (fail)
    rw [← HW0.out]
    clear HW0
    go_wp2_with ((go_at_call 36; (refine (pstands_any HP.out).mono ?_); rintro e w1 ⟨rfl, hb1⟩))
    go_step3
    go_wp2_with ((go_at_call 36; (refine (pstands_any HP.out).mono ?_); rintro e w1 ⟨rfl, hb1⟩))
    go_step3
    go_wp2_with ((go_at_call 36; (refine (pstands_any HP.out).mono ?_); rintro e w1 ⟨rfl, hb1⟩))
    go_ret
    exact H.out.stood HB0.out hb1
  · have hbz : ((m : Int) == (L.length : Int) + 1) = false := by simp; omega
    have HT := Lib.hid (show PIt G (W0.setCell ⟨q, 1, none⟩ (.int .i64 ((m : Int) + 1))) q L (nextA L a) by
      have := (H.out.to HB0.out (m + 1) (by omega)).1
      have e : nextA L a = ((m + 1 : Nat) : Int) - 1 := by unfold nextA; have := HA.out; omega
      rw [e]
      exact this)
    go_enter Try.func34, Try.ntmps34
    go_upto_region 1 with (fail)
    rw [← HW0.out]
    clear HW0
    go_wp2_with ((go_at_call 36; (refine (pstands_any HT.out).mono ?_); rintro e w1 ⟨rfl, hb1⟩))
    go_step3
    go_wp2_with ((go_at_call 36; (refine (pstands_any HT.out).mono ?_); rintro e w1 ⟨rfl, hb1⟩))
    go_step3
    go_wp2_with ((go_at_call 36; (refine (pstands_any HT.out).mono ?_); rintro e w1 ⟨rfl, hb1⟩))
    go_ret
    exact H.out.moved HB0.out (m + 1) (by omega) (by unfold nextA; have := HA.out; omega) hb1

set_option maxRecDepth 100000 in
set_option maxHeartbeats 400000 in
theorem mv_prev {G : Nat → Prop} {w : World} {q : Nat} {L : List Ent} {a : Int} (h : PIt G w q L a) (u : ByteArray) (s k : Int) : Calls Try.prog 34 #[.pointer (some ⟨q, 0, none⟩), .int .i64 4, .agg #[.string u, .int .i64 s, .int .i64 k]] w (PMv G q L (prevA a) w) := by
  have H := Lib.hid h
  obtain ⟨va, vc, m, hq, ha, hm, hl, _, _⟩ := h.cells
  obtain ⟨W0, hW0⟩ : ∃ W0, W0 = w.alloc (.cells #[.string u, .int .i64 s, .int .i64 k] 31) := ⟨_, rfl⟩
  have hb0 : Below w.heap.size w W0 := by rw [hW0]; exact (Below.refl _ _).alloc (Nat.le_refl _) _
  have hq0 := (hb0.block q (blk_lt hq)).trans hq
  have p0 : W0.cell? ⟨q, 0, none⟩ = some (.slice va L.length vc) := blk_cell (i := 0) hq0
  have p1 : W0.cell? ⟨q, 1, none⟩ = some (.int .i64 (m : Nat)) := blk_cell (i := 1) hq0
  have pf : W0.frozen? ⟨q, 1, none⟩ = false := blk_free hq0
  have kb := blk_cell (i := 0) (show W0.heap[w.heap.size]? = some (.cells #[.string u, .int .i64 s, .int .i64 k] 31 (0, 0)) by rw [hW0]; exact heap_alloc_new w _)
  have kb1 := blk_cell (i := 1) (show W0.heap[w.heap.size]? = some (.cells #[.string u, .int .i64 s, .int .i64 k] 31 (0, 0)) by rw [hW0]; exact heap_alloc_new w _)
  have kb2 := blk_cell (i := 2) (show W0.heap[w.heap.size]? = some (.cells #[.string u, .int .i64 s, .int .i64 k] 31 (0, 0)) by rw [hW0]; exact heap_alloc_new w _)
  replace kb : W0.cell? ⟨w.heap.size, 0, none⟩ = some (.string u) := kb
  replace kb1 : W0.cell? ⟨w.heap.size, 1, none⟩ = some (.int .i64 s) := kb1
  replace kb2 : W0.cell? ⟨w.heap.size, 2, none⟩ = some (.int .i64 k) := kb2
  have HB0 := Lib.hid hb0
  have HW0 := Lib.hid hW0
  have HQ0 := Lib.hid hq0
  have HA := Lib.hid ha
  clear h hq hq0 hW0 hb0
  clear ha
  by_cases hb : m = 0
  · have HP := Lib.hid (H.out.below HB0.out)
    have HN : Hid (prevA a = a) := Lib.hid (by unfold prevA; have := HA.out; omega)
    rw [HN.out]
    subst hb
    go_enter Try.func34, Try.ntmps34
    go_upto_region 1 with (fail)
    rw [← HW0.out]
    clear HW0
    go_wp2_with ((go_at_call 36; (refine (pstands_any HP.out).mono ?_); rintro e w1 ⟨rfl, hb1⟩))
    go_step3
    go_wp2_with ((go_at_call 36; (refine (pstands_any HP.out).mono ?_); rintro e w1 ⟨rfl, hb1⟩))
    go_step3
    go_wp2_with ((go_at_call 36; (refine (pstands_any HP.out).mono ?_); rintro e w1 ⟨rfl, hb1⟩))
    go_ret
    exact H.out.stood HB0.out hb1
  · obtain ⟨p, rfl⟩ : ∃ p, m = p + 1 := ⟨m - 1, by omega⟩
    have hbz : (((p + 1 : Nat) : Int) == 0) = false := by simp; omega
    have hbz2 : ((p : Int) + 1 == 0) = false := by simp; omega
    have HT := Lib.hid (show PIt G (W0.setCell ⟨q, 1, none⟩ (.int .i64 (p : Int))) q L (prevA a) by
      have := (H.out.to HB0.out p (by omega)).1
      have e : prevA a = (p : Int) - 1 := by unfold prevA; have := HA.out; omega
      rw [e]
      exact this)
    go_enter Try.func34, Try.ntmps34
    go_upto_region 1 with (fail)
    rw [← HW0.out]
    clear HW0
    go_wp2_with ((go_at_call 36; (refine (pstands_any HT.out).mono ?_); rintro e w1 ⟨rfl, hb1⟩))
    go_step3
    go_wp2_with ((go_at_call 36; (refine (pstands_any HT.out).mono ?_); rintro e w1 ⟨rfl, hb1⟩))
    go_step3
    go_wp2_with ((go_at_call 36; (refine (pstands_any HT.out).mono ?_); rintro e w1 ⟨rfl, hb1⟩))
    go_ret
    exact H.out.moved HB0.out p (by omega) (by unfold prevA; have := HA.out; omega) hb1

theorem seekN_le (L : List Ent) (u : ByteArray) (s k : Int) : seekN L u s k ≤ L.length := by
  unfold seekN lowE
  exact (List.takeWhile_prefix _).length_le

set_option maxRecDepth 100000 in
set_option maxHeartbeats 400000 in
theorem mv_seek {G : Nat → Prop} {w : World} {q : Nat} {L : List Ent} {a : Int} (h : PIt G w q L a) (u : ByteArray) (s k : Int) (hu : u.size ≤ maxLen) : Calls Try.prog 34 #[.pointer (some ⟨q, 0, none⟩), .int .i64 2, .agg #[.string u, .int .i64 s, .int .i64 k]] w (PMv G q L (seekN L u s k : Int) w) := by
  have H := Lib.hid h
  obtain ⟨va, vc, m, hq, ha, hm, hl, _, _⟩ := h.cells
  obtain ⟨W0, hW0⟩ : ∃ W0, W0 = w.alloc (.cells #[.string u, .int .i64 s, .int .i64 k] 31) := ⟨_, rfl⟩
  have hb0 : Below w.heap.size w W0 := by rw [hW0]; exact (Below.refl _ _).alloc (Nat.le_refl _) _
  have hq0 := (hb0.block q (blk_lt hq)).trans hq
  have p0 : W0.cell? ⟨q, 0, none⟩ = some (.slice va L.length vc) := blk_cell (i := 0) hq0
  have p1 : W0.cell? ⟨q, 1, none⟩ = some (.int .i64 (m : Nat)) := blk_cell (i := 1) hq0
  have pf : W0.frozen? ⟨q, 1, none⟩ = false := blk_free hq0
  have kb := blk_cell (i := 0) (show W0.heap[w.heap.size]? = some (.cells #[.string u, .int .i64 s, .int .i64 k] 31 (0, 0)) by rw [hW0]; exact heap_alloc_new w _)
  have kb1 := blk_cell (i := 1) (show W0.heap[w.heap.size]? = some (.cells #[.string u, .int .i64 s, .int .i64 k] 31 (0, 0)) by rw [hW0]; exact heap_alloc_new w _)
  have kb2 := blk_cell (i := 2) (show W0.heap[w.heap.size]? = some (.cells #[.string u, .int .i64 s, .int .i64 k] 31 (0, 0)) by rw [hW0]; exact heap_alloc_new w _)
  replace kb : W0.cell? ⟨w.heap.size, 0, none⟩ = some (.string u) := kb
  replace kb1 : W0.cell? ⟨w.heap.size, 1, none⟩ = some (.int .i64 s) := kb1
  replace kb2 : W0.cell? ⟨w.heap.size, 2, none⟩ = some (.int .i64 k) := kb2
  have HB0 := Lib.hid hb0
  have HW0 := Lib.hid hW0
  have HQ0 := Lib.hid hq0
  have HC := Lib.hid (pbelow_any (H.out.below hb0) u s k hu)
  have HLE := Lib.hid (seekN_le L u s k)
  have hle := seekN_le L u s k
  clear h hq hq0 hW0 hb0
  go_enter Try.func34, Try.ntmps34
  go_upto_region 1 with (fail)
  rw [← HW0.out]
  clear HW0
  go_wp2_with (first | (go_at_call 41; (refine HC.out.mono ?_); rintro e w3 ⟨rfl, hb3⟩; have hq3 := (hb3.block q (blk_lt HQ0.out)).trans HQ0.out; have r1 : w3.cell? ⟨q, 1, none⟩ = some (.int .i64 (m : Nat)) := blk_cell (i := 1) hq3; have rf : w3.frozen? ⟨q, 1, none⟩ = false := blk_free hq3; have HB3 := Lib.hid (belowT HB0.out hb3); have HT := Lib.hid (show PIt G (w3.setCell ⟨q, 1, none⟩ (.int .i64 (1 + (seekN L u s k : Int)))) q L (seekN L u s k : Int) from (by have h5 := (H.out.to HB3.out (seekN L u s k + 1) (by have := HLE.out; omega)).1; have e5 : ((seekN L u s k + 1 : Nat) : Int) = 1 + (seekN L u s k : Int) := (by omega); rw [e5] at h5; have e6 : 1 + (seekN L u s k : Int) - 1 = (seekN L u s k : Int) := (by omega); rw [e6] at h5; exact h5)); clear hq3 hb3) | (go_at_call 36; (refine (pstands_any HT.out).mono ?_); rintro e w1 ⟨rfl, hb1⟩))
  go_step3
  go_wp2_with (first | (go_at_call 41; (refine HC.out.mono ?_); rintro e w3 ⟨rfl, hb3⟩; have hq3 := (hb3.block q (blk_lt HQ0.out)).trans HQ0.out; have r1 : w3.cell? ⟨q, 1, none⟩ = some (.int .i64 (m : Nat)) := blk_cell (i := 1) hq3; have rf : w3.frozen? ⟨q, 1, none⟩ = false := blk_free hq3; have HB3 := Lib.hid (belowT HB0.out hb3); have HT := Lib.hid (show PIt G (w3.setCell ⟨q, 1, none⟩ (.int .i64 (1 + (seekN L u s k : Int)))) q L (seekN L u s k : Int) from (by have h5 := (H.out.to HB3.out (seekN L u s k + 1) (by have := HLE.out; omega)).1; have e5 : ((seekN L u s k + 1 : Nat) : Int) = 1 + (seekN L u s k : Int) := (by omega); rw [e5] at h5; have e6 : 1 + (seekN L u s k : Int) - 1 = (seekN L u s k : Int) := (by omega); rw [e6] at h5; exact h5)); clear hq3 hb3) | (go_at_call 36; (refine (pstands_any HT.out).mono ?_); rintro e w1 ⟨rfl, hb1⟩))
  go_step3
  go_wp2_with (first | (go_at_call 41; (refine HC.out.mono ?_); rintro e w3 ⟨rfl, hb3⟩; have hq3 := (hb3.block q (blk_lt HQ0.out)).trans HQ0.out; have r1 : w3.cell? ⟨q, 1, none⟩ = some (.int .i64 (m : Nat)) := blk_cell (i := 1) hq3; have rf : w3.frozen? ⟨q, 1, none⟩ = false := blk_free hq3; have HB3 := Lib.hid (belowT HB0.out hb3); have HT := Lib.hid (show PIt G (w3.setCell ⟨q, 1, none⟩ (.int .i64 (1 + (seekN L u s k : Int)))) q L (seekN L u s k : Int) from (by have h5 := (H.out.to HB3.out (seekN L u s k + 1) (by have := HLE.out; omega)).1; have e5 : ((seekN L u s k + 1 : Nat) : Int) = 1 + (seekN L u s k : Int) := (by omega); rw [e5] at h5; have e6 : 1 + (seekN L u s k : Int) - 1 = (seekN L u s k : Int) := (by omega); rw [e6] at h5; exact h5)); clear hq3 hb3) | (go_at_call 36; (refine (pstands_any HT.out).mono ?_); rintro e w1 ⟨rfl, hb1⟩))
  go_ret
  exact (by have e5 : ((seekN L u s k + 1 : Nat) : Int) = 1 + (seekN L u s k : Int) := (by omega); rw [← e5] at hb1; exact H.out.moved HB3.out (seekN L u s k + 1) (by have := HLE.out; omega) (by omega) hb1)
end Go.Proofs.Ytabmdhbikedhmaa

/-
  Chapter 14: the program's iterator: the entry where it stands.
-/
namespace Go.Proofs.Ytabmdhbikedhmaa
open Go.RowKit

theorem PIt.own {G : Nat → Prop} {w : World} {q : Nat} {L : List Ent} {a : Int} (h : PIt G w q L a) : ∃ va vc m, w.heap[q]? = some (.cells #[.slice va L.length vc, .int .i64 (m : Nat)] 53 (0, 0)) ∧ OwnE w 0 (.slice va L.length vc) L ∧ a = (m : Int) - 1 ∧ m ≤ L.length + 1 ∧ L.length ≤ 1000 := by
  obtain ⟨v, m, h1, h2, _, _, _, ⟨h6, h7⟩, h8, _⟩ := h
  obtain ⟨va, vc, rfl, _, _⟩ := h2.form
  exact ⟨va, vc, m, h1, h2, h6, h7, h8⟩

set_option maxRecDepth 100000 in
set_option maxHeartbeats 400000 in
theorem pat_any {G : Nat → Prop} {w : World} {q : Nat} {L : List Ent} {a : Int} (h : PIt G w q L a) : Calls Try.prog 21 #[.pointer (some ⟨q, 0, none⟩)] w fun e w' => e = .returned (ansN (atA L a)) ∧ Below w.heap.size w w' := by
  have HH := Lib.hid h
  have HIS : Hid (∀ b, stands L a = b → ∀ wz, Below w.heap.size w wz → Calls Try.prog 36 #[.pointer (some ⟨q, 0, none⟩)] wz fun e w' => e = .returned (.bool b) ∧ Below wz.heap.size wz w') := Lib.hid fun b hb wz hz => by rw [← hb]; exact pstands_any (HH.out.below hz)
  have hrow := heap_alloc_new w (.cells #[.string ⟨#[]⟩, .int .i64 0, .int .i64 0, .string ⟨#[]⟩] 36)
  have HROW := Lib.hid hrow
  clear h hrow
  cases hst : stands L a with
  | false =>
    have HR := Lib.hid (show atA L a = none by unfold atA; rw [hst]; rfl)
    have HI := Lib.hid (HIS.out _ hst)
    clear HIS hst
    go_enter Try.func21, Try.ntmps21
    go_wp2_with (go_at_call 36; (refine (HI.out _ ((Below.refl _ _).alloc (Nat.le_refl _) _)).mono ?_); rintro e w1 ⟨rfl, hb1⟩; have hr := (hb1.block _ (by simp)).trans HROW.out; have HR1 := Lib.hid hr; have HB1 : Hid (Below w.heap.size w w1) := Lib.hid (((Below.refl _ _).alloc (Nat.le_refl _) _).trans (hb1.mono (by simp))); have q0 := blk_cell (i := 0) hr; replace q0 : w1.cell? ⟨w.heap.size, 0, none⟩ = some (.string ⟨#[]⟩) := q0; have q1 := blk_cell (i := 1) hr; replace q1 : w1.cell? ⟨w.heap.size, 1, none⟩ = some (.int .i64 0) := q1; have q2 := blk_cell (i := 2) hr; replace q2 : w1.cell? ⟨w.heap.size, 2, none⟩ = some (.int .i64 0) := q2; have q3 := blk_cell (i := 3) hr; replace q3 : w1.cell? ⟨w.heap.size, 3, none⟩ = some (.string ⟨#[]⟩) := q3; have qf : ∀ o, w1.frozen? ⟨w.heap.size, o, none⟩ = false := fun o => blk_free hr; clear hr hb1)
    refine bodyPost_ret (results_row_tmp rfl _ _ w.heap.size 36 #[.string ⟨#[]⟩, .int .i64 0, .int .i64 0, .string ⟨#[]⟩] (0, 0) _ rfl ?hgE Try.underlying36 rfl (by kernel_rfl)) rfl ?_
    case hgE => exact (set4 HR1.out rfl rfl rfl rfl).1
    rw [HR.out]
    exact ⟨rfl, (set4 HR1.out rfl rfl rfl rfl).2 _ (Nat.le_refl _) _ HB1.out⟩
  | true =>
    have hs2 := hst
    unfold stands at hs2
    simp only [Bool.and_eq_true, decide_eq_true_eq] at hs2
    obtain ⟨j, rfl⟩ : ∃ j : Nat, a = (j : Int) := ⟨a.toNat, by omega⟩
    have hj : j < L.length := by omega
    have HR := Lib.hid (show atA L (j : Int) = some (L.getD j Ent.none_) by unfold atA; rw [hst]; rfl)
    have HI := Lib.hid (HIS.out _ hst)
    clear HIS hst hs2
    go_enter Try.func21, Try.ntmps21
    go_upto_region 3 with (go_at_call 36; (refine (HI.out _ ((Below.refl _ _).alloc (Nat.le_refl _) _)).mono ?_); rintro e w1 ⟨rfl, hb1⟩; have HR1 := Lib.hid ((hb1.block _ (by simp)).trans HROW.out); have HB1 : Hid (Below w.heap.size w w1) := Lib.hid (((Below.refl _ _).alloc (Nat.le_refl _) _).trans (hb1.mono (by simp))); clear hb1)
    obtain ⟨va, vc, m, hq, hor, hma, hm, hl⟩ := (HH.out.below HB1.out).own
    have p0 := blk_cell (i := 0) hq
    have p1 := blk_cell (i := 1) hq
    replace p0 : w1.cell? ⟨q, 0, none⟩ = some (.slice va L.length vc) := p0
    replace p1 : w1.cell? ⟨q, 1, none⟩ = some (.int .i64 (m : Int)) := p1
    obtain ⟨g, hva, hxg, x0, x1, x2, x3⟩ := own_ent hor hj
    subst hva
    have hmz : (m : Int) - 1 = (j : Int) := by omega
    have rj : IntKind.i64.wrap (j : Int) = (j : Int) := by rw [IntKind.wrap_i64]; omega
    have hjz : (j : Int) < (L.length : Int) := by omega
    obtain ⟨X, hX⟩ : ∃ X, L.getD j Ent.none_ = X := ⟨_, rfl⟩
    rw [hX] at x0 x1 x2 x3 HR
    obtain ⟨xu, xs, xk, xv⟩ := X
    simp only at x0 x1 x2 x3
    have q0 := blk_cell (i := 0) HR1.out
    replace q0 : w1.cell? ⟨w.heap.size, 0, none⟩ = some (.string ⟨#[]⟩) := q0
    have q1 := blk_cell (i := 1) HR1.out
    replace q1 : w1.cell? ⟨w.heap.size, 1, none⟩ = some (.int .i64 0) := q1
    have q2 := blk_cell (i := 2) HR1.out
    replace q2 : w1.cell? ⟨w.heap.size, 2, none⟩ = some (.int .i64 0) := q2
    have q3 := blk_cell (i := 3) HR1.out
    replace q3 : w1.cell? ⟨w.heap.size, 3, none⟩ = some (.string ⟨#[]⟩) := q3
    have qf : ∀ o, w1.frozen? ⟨w.heap.size, o, none⟩ = false := fun o => blk_free HR1.out
    clear hq hor hX hma hm
    go_big_region
    go_wp2
    refine bodyPost_ret (results_row_tmp rfl _ _ w.heap.size 36 #[.string xu, .int .i64 xs, .int .i64 xk, .string xv] (0, 0) _ rfl ?hgF Try.underlying36 rfl (by kernel_rfl)) rfl ?_
    case hgF => exact (set4 HR1.out rfl rfl rfl rfl).1
    rw [HR.out]
    exact ⟨rfl, ((set4 HR1.out rfl rfl rfl rfl).2 _ (Nat.le_refl _) _ HB1.out).drew⟩
end Go.Proofs.Ytabmdhbikedhmaa

/-
  slices.CompactFunc of entries: the walk.
-/
namespace Go.Proofs.Ytabmdhbikedhmaa
open Go.RowKit

set_option maxRecDepth 100000 in
theorem compact_few (a : Option Addr) (cap n : Nat) (hn : n < 2) (f : Value) (w : World) :
    Calls Try.prog 31 #[.slice a n cap, f] w fun e w' => e = .returned (.slice a n cap) ∧ w' = w := by
  have hz : (n : Int) < 2 := by omega
  go_enter Try.func31, Try.ntmps31
  go_wp2
  go_ret
  exact ⟨rfl, rfl⟩

/-- What stays, and behind it what the row held. -/
def Half (B g cap n : Nat) (w0 : World) (l : List Ent) (j k : Nat) (w : World) : Prop := (cpN l j).length = k ∧ SL B w0 (some ⟨g, 0, none⟩) cap n (cpN l j ++ l.drop k) w
section
variable {B g cap n : Nat} {w0 w : World} {l : List Ent} {j k : Nat}
theorem half_at {i : Nat} (hk : (cpN l j).length = k) (hi : k ≤ i) : (cpN l j ++ l.drop k).getD i Ent.none_ = l.getD i Ent.none_ := by
  rw [getD_right (by omega), hk]
  simp [List.getD, show k + (i - k) = i by omega]
theorem half_set (hk : (cpN l j).length = k) (hl : k < l.length) (x : Ent) : (cpN l j ++ l.drop k).set k x = cpN l j ++ [x] ++ l.drop (k + 1) := by
  rw [List.set_append_right _ _ (by omega), hk, Nat.sub_self, List.drop_eq_getElem_cons hl, List.set_cons_zero]
  simp
theorem Half.end_ (h : Half B g cap n w0 l n k w) (hl : l.length = n) (hk : k < n) (hk0 : 0 < k) :
    (∀ ty c, (Builtin.clear_ #[22] ty #[.slice (some ⟨g, k * 4, none⟩) (n - k) c]).run Try.prog w = .ok (.tuple #[]) (w.setCells g (k * 4) (zeroRow (n - k)))) ∧ SL B w0 (some ⟨g, 0, none⟩) cap k (cpN l n) (w.setCells g (k * 4) (zeroRow (n - k))) := by
  obtain ⟨h1, h2⟩ := h
  exact ⟨fun ty c => h2.zeroed hk c ty, (h2.front h1.symm (by omega)).beyond hk0 (Nat.le_refl _) _⟩
end

set_option maxRecDepth 100000 in
set_option maxHeartbeats 1000000 in
theorem compact_any {B g cap n : Nat} {w0 w : World} {l : List Ent} (h : SL B w0 (some ⟨g, 0, none⟩) cap n (l) w) (h2 : 2 ≤ n) (hn : n ≤ 1000) :
    Calls Try.prog 31 #[.slice (some ⟨g, 0, none⟩) n cap, .func (.func 32) #[] #[]] w fun e w' => ∃ k, 0 < k ∧ k ≤ n ∧ e = .returned (.slice (some ⟨g, 0, none⟩) k cap) ∧ SL B w0 (some ⟨g, 0, none⟩) cap k (cpN l n) w' := by
  have h2z : ¬ (n : Int) < 2 := by omega
  have HL := Lib.hid h.len
  have HS := Lib.hid h
  have HK : Hid (cpN l 1 = l.take 1) := Lib.hid (cpN_take (k := 0) rfl rfl (by rw [h.len]; omega))
  have hncap : n ≤ cap := by
    obtain ⟨_, _, _, _, _, _, hc, _⟩ := h.at_ (i := 0) (by omega)
    exact hc
  clear h
  go_enter Try.func31, Try.ntmps31
  go_wp2
  go_loopg [5] n (fun kx s5 wr => ∃ k : Nat, s5 = .int .i64 k ∧ 1 ≤ k ∧ k ≤ n ∧ n - k ≤ kx ∧ Hid (cpN l k = l.take k) ∧ Hid (SL B w0 (some ⟨g, 0, none⟩) cap n (l) wr))
  case atStart => exact ⟨1, rfl, Nat.le_refl _, by omega, by omega, HK, HS⟩
  case round =>
    clear HK HS
    obtain ⟨k, rfl, hk1, hkn, hkx, HK, HS⟩ := hrel
    by_cases hlt : k < n
    · have hltz : (k : Int) < (n : Int) := by omega
      obtain ⟨p, hp⟩ : ∃ p, p + 1 = k := ⟨k - 1, by omega⟩
      have hpz : (k : Int) - 1 = (p : Int) := by omega
      have rp : IntKind.i64.wrap (p : Int) = (p : Int) := by rw [IntKind.wrap_i64]; omega
      have hpn : (p : Int) < (n : Int) := by omega
      obtain ⟨x, gx⟩ : ∃ x, l.getD k Ent.none_ = x := ⟨_, rfl⟩
      obtain ⟨y, gy⟩ : ∃ y, l.getD p Ent.none_ = y := ⟨_, rfl⟩
      have HKE := Lib.hid (keep_of hp gx gy)
      have hs := HS.out
      have c0 := fun z_ os => ((hs.shift z_ os).cells (i := k) (by omega)).1
      have c1 := fun z_ os => ((hs.shift z_ os).cells (i := k) (by omega)).2.1
      have c2 := fun z_ os => ((hs.shift z_ os).cells (i := k) (by omega)).2.2.1
      have c3 := fun z_ os => ((hs.shift z_ os).cells (i := k) (by omega)).2.2.2
      have d0 := fun z_ os => ((hs.shift z_ os).cells (i := p) (by omega)).1
      have d1 := fun z_ os => ((hs.shift z_ os).cells (i := p) (by omega)).2.1
      have d2 := fun z_ os => ((hs.shift z_ os).cells (i := p) (by omega)).2.2.1
      have d3 := fun z_ os => ((hs.shift z_ os).cells (i := p) (by omega)).2.2.2
      have hc := fun z_ os => hs.alike (i := k) (j := p) (by omega) (by omega) z_ os
      rw [gx] at c0 c1 c2 c3
      rw [gy] at d0 d1 d2 d3
      rw [gx, gy] at hc
      have HC := Lib.hid hc
      clear hc
      clear hs gx gy
      have HP := Lib.hid hp
      have hpk : p < k := by omega
      clear hp
      cases hsm : same x y with
      | false =>
        rw [hsm] at HC
        have HSM := Lib.hid hsm
        clear hsm
        go_wp2_with fail
        refine wp_region_shift (by kernel_rfl) (by kernel_rfl) ?_
        repeat (quiet_step (exact HC.out _ _))
        refine wpQuiet_nil ?_
        intro _ hw'
        obtain ⟨⟨nq, osq⟩, hw''⟩ := hw'
        subst hw''
        have hz := HS.out.shift nq osq
        clear c0 c1 c2 c3 d0 d1 d2 d3 HC
        generalize shiftW wr nq osq = wz at hz ⊢
        have HZ := Lib.hid hz
        clear hz
        go_wp2
        go_roundg (n - (k + 1))
        case measure => omega
        case rel => exact ⟨k + 1, by go_num, by omega, by omega, Nat.le_refl _, Lib.hid (cpN_take HK.out (by rw [HKE.out, HSM.out]; rfl) (by rw [HL.out]; exact hlt)), HZ⟩
      | true =>
        rw [hsm] at HC
        have HH : Hid (keepAt l k = false) := Lib.hid (by rw [HKE.out, hsm]; rfl)
        clear hsm
        go_wp2_with fail
        refine wp_region_shift (by kernel_rfl) (by kernel_rfl) ?_
        repeat (quiet_step (exact HC.out _ _))
        refine wpQuiet_nil ?_
        intro _ hw'
        obtain ⟨⟨nq, osq⟩, hw''⟩ := hw'
        subst hw''
        have hz := HS.out.shift nq osq
        clear c0 c1 c2 c3 d0 d1 d2 d3 HC
        generalize shiftW wr nq osq = wz at hz ⊢
        have HZ := Lib.hid hz
        clear hz
        have HQ : Hid (Half B g cap n w0 l (k + 1) k wz) := Lib.hid ⟨by rw [cpN_no HH.out, HK.out, List.length_take, HL.out]; omega, by rw [cpN_no HH.out, HK.out, List.take_append_drop]; exact HZ.out⟩
        clear HZ HK HS HKE HH
        have hkc : ¬ cap = k := by omega
        obtain ⟨m, hm⟩ : ∃ m, m = n - k := ⟨_, rfl⟩
        have hm1 : 1 ≤ m := by omega
        go_wp2
        rw [← hm]
        have HM := Lib.hid hm
        have hkm : k + m = n := by omega
        clear hm
        go_loopg [5, 7] n (fun kx s5 s7 wr => ∃ k2 j : Nat, s5 = .int .i64 k2 ∧ s7 = .int .i64 j ∧ 1 ≤ k2 ∧ 1 ≤ j ∧ j ≤ m ∧ k2 + 1 ≤ k + j ∧ m - j ≤ kx ∧ Hid (Half B g cap n w0 l (k + j) k2 wr))
        case atStart => exact ⟨k, 1, rfl, rfl, hk1, Nat.le_refl _, hm1, Nat.le_refl _, by omega, HQ⟩
        case round =>
          clear HQ
          obtain ⟨k2, j, rfl, rfl, hk2, hj1, hjm, hkj, hkx2, HQ⟩ := hrel
          by_cases hlj : j < m
          · have hljz : (j : Int) < (m : Int) := by omega
            obtain ⟨u, hu⟩ : ∃ u, u + 1 = j := ⟨j - 1, by omega⟩
            have huz : (j : Int) - 1 = (u : Int) := by omega
            have ru : IntKind.i64.wrap (u : Int) = (u : Int) := by rw [IntKind.wrap_i64]; omega
            have hum : (u : Int) < (m : Int) := by omega
            obtain ⟨hcl, hs⟩ := HQ.out
            obtain ⟨x, gx0⟩ : ∃ x, l.getD (k + j) Ent.none_ = x := ⟨_, rfl⟩
            obtain ⟨y, gy0⟩ : ∃ y, l.getD (k + u) Ent.none_ = y := ⟨_, rfl⟩
            have gx : (cpN l (k + j) ++ l.drop k2).getD (k + j) Ent.none_ = x := by rw [half_at hcl (by omega)]; exact gx0
            have gy : (cpN l (k + j) ++ l.drop k2).getD (k + u) Ent.none_ = y := by rw [half_at hcl (by omega)]; exact gy0
            have HKE := Lib.hid (keep_of (j := k + j) (u := k + u) (by omega) gx0 gy0)
            have HX := Lib.hid gx0
            have ax : (k + j) * 4 = k * 4 + j * 4 := by omega
            have ay : (k + u) * 4 = k * 4 + u * 4 := by omega
            have c0 := fun z_ os => ((hs.shift z_ os).cells (i := k + j) (by omega)).1
            have c1 := fun z_ os => ((hs.shift z_ os).cells (i := k + j) (by omega)).2.1
            have c2 := fun z_ os => ((hs.shift z_ os).cells (i := k + j) (by omega)).2.2.1
            have c3 := fun z_ os => ((hs.shift z_ os).cells (i := k + j) (by omega)).2.2.2
            have d0 := fun z_ os => ((hs.shift z_ os).cells (i := k + u) (by omega)).1
            have d1 := fun z_ os => ((hs.shift z_ os).cells (i := k + u) (by omega)).2.1
            have d2 := fun z_ os => ((hs.shift z_ os).cells (i := k + u) (by omega)).2.2.1
            have d3 := fun z_ os => ((hs.shift z_ os).cells (i := k + u) (by omega)).2.2.2
            have hc := fun z_ os => hs.alike (i := k + j) (j := k + u) (by omega) (by omega) z_ os
            rw [gx] at c0 c1 c2 c3
            rw [gy] at d0 d1 d2 d3
            rw [gx, gy] at hc
            have HC := Lib.hid hc
            clear hc
            rw [ax] at c0 c1 c2 c3
            rw [ay] at d0 d1 d2 d3
            have HSL := Lib.hid hs
            have HCL := Lib.hid hcl
            have HU := Lib.hid hu
            clear hs hcl gx gy gx0 gy0 ax ay hu HQ
            cases hsm : same x y with
            | true =>
              rw [hsm] at HC
              have HSM := Lib.hid hsm
              clear hsm
              go_wp2_with fail
              refine wp_region_shift (by kernel_rfl) (by kernel_rfl) ?_
              repeat (quiet_step (exact HC.out _ _))
              refine wpQuiet_nil ?_
              intro _ hw'
              obtain ⟨⟨nq, osq⟩, hw''⟩ := hw'
              subst hw''
              have hz := HSL.out.shift nq osq
              clear c0 c1 c2 c3 d0 d1 d2 d3 HC
              generalize shiftW wr nq osq = wz at hz ⊢
              have HZ := Lib.hid hz
              clear hz
              go_wp2
              go_roundg (m - (j + 1))
              case measure => omega
              case rel => exact ⟨k2, j + 1, rfl, by go_num, hk2, by omega, by omega, by omega, Nat.le_refl _, Lib.hid ⟨by rw [← Nat.add_assoc, cpN_no (by rw [HKE.out, HSM.out]; rfl)]; exact HCL.out, by rw [← Nat.add_assoc, cpN_no (by rw [HKE.out, HSM.out]; rfl)]; exact HZ.out⟩⟩
            | false =>
              rw [hsm] at HC
              have HSM := Lib.hid hsm
              clear hsm
              go_wp2_with fail
              refine wp_region_shift (by kernel_rfl) (by kernel_rfl) ?_
              repeat (quiet_step (exact HC.out _ _))
              refine wpQuiet_nil ?_
              intro _ hw'
              obtain ⟨⟨nq, osq⟩, hw''⟩ := hw'
              subst hw''
              have hz := HSL.out.shift nq osq
              clear c0 c1 c2 c3 d0 d1 d2 d3 HC
              generalize shiftW wr nq osq = wz at hz ⊢
              have HZ := Lib.hid hz
              clear hz
              have hz := HZ.out
              have gx : (cpN l (k + j) ++ l.drop k2).getD (k + j) Ent.none_ = x := by rw [half_at HCL.out (by omega)]; exact HX.out
              obtain ⟨c0, c1, c2, c3⟩ := hz.cells (i := k + j) (by omega)
              obtain ⟨d0, d1, d2, d3⟩ := hz.cells (i := k2) (by omega)
              rw [gx, show (k + j) * 4 = k * 4 + j * 4 by omega] at c0 c1 c2 c3
              have fz : ∀ o, wz.frozen? ⟨g, o, none⟩ = false := fun o => hz.free o (i := k2) (by omega)
              have hxf : x.fits := by rw [← gx]; exact hz.fit (by omega)
              have S2 := hz.set4 (i := k2) (by omega) hxf
              rw [half_set HCL.out (by rw [HL.out]; omega)] at S2
              have HSW := Lib.hid S2
              have hk2n : (k2 : Int) < (n : Int) := by omega
              clear S2 hz gx hxf
              go_wp2
              go_roundg (m - (j + 1))
              case measure => omega
              case rel => exact ⟨k2 + 1, j + 1, by go_num, by go_num, by omega, by omega, by omega, by omega, Nat.le_refl _, Lib.hid ⟨by rw [← Nat.add_assoc, cpN_yes (by rw [HKE.out, HSM.out]; rfl), List.length_append, List.length_singleton, HCL.out], by rw [← Nat.add_assoc, cpN_yes (by rw [HKE.out, HSM.out]; rfl), HX.out]; exact HSW.out⟩⟩
          · have hljz : ¬ (j : Int) < (m : Int) := by omega
            obtain rfl : j = m := by omega
            have hq := HQ.out
            rw [hkm] at hq
            obtain ⟨hcl, hfin⟩ := hq.end_ HL.out (by omega) hk2
            have HFIN := Lib.hid hfin
            have hk2c : ¬ cap = k2 := by omega
            have hk2n : k2 < n := by omega
            clear hq hfin HQ
            go_wp2
            go_ret
            exact ⟨k2, by omega, by omega, rfl, HFIN.out⟩
    · have hltz : ¬ (k : Int) < (n : Int) := by omega
      obtain rfl : k = n := by omega
      have HE : Hid (cpN l k = l) := Lib.hid (by rw [HK.out, ← HL.out, List.take_length])
      go_wp2
      go_ret
      exact ⟨k, by omega, Nat.le_refl _, rfl, by rw [HE.out]; exact HS.out⟩
end Go.Proofs.Ytabmdhbikedhmaa

/-
  'append(s, x...)' onto a row of one's own: what 's' says is still there behind it.
-/
namespace Go.Proofs.Ytabmdhbikedhmaa
open Go.RowKit

/-- What is owned stays so while only older memory, or none, is touched. -/
theorem own_below_f {w w' : World} {B e size n : Nat} {v : Value} {xs : List Value} (h : w.ownsRow B e size v n xs) {B' : Nat} (hb : Below B' w w') (hB : w.heap.size ≤ B') : w'.ownsRow B e size v n xs := by
  refine ⟨h.1, ?_⟩
  rcases h.2 with h2 | ⟨g, cap, cur, rfl, h3, hg, r⟩
  · exact .inl h2
  · have := (Array.getElem?_eq_some_iff.1 hg).1
    exact .inr ⟨g, cap, cur, rfl, h3, by rw [hb.block g (by omega)]; exact hg, r⟩

/-- .. and while only a row below it grows. -/
theorem own_grown_f {w w' : World} {B e size n : Nat} {v : Value} {xs : List Value} (h : w.ownsRow B e size v n xs) {row : Option Nat} (hg : w.grownBy w' row) (hne : ∀ k, row = some k → k < B) : w'.ownsRow B e size v n xs := by
  refine ⟨h.1, ?_⟩
  rcases h.2 with h2 | ⟨g, cap, cur, rfl, h3, hb, r⟩
  · exact .inl h2
  · have := (Array.getElem?_eq_some_iff.1 hb).1
    exact .inr ⟨g, cap, cur, rfl, h3, by rw [hg.block g this (fun e => by have := hne g e.symm; omega)]; exact hb, r⟩

theorem run_append_keep {P : Program} (w : World) (base : Nat) (t ty e : TypeId) (i : TypeInfo) (z : Value) (size bytes : Nat) (ht : P.underlying t = some (.slice e)) (hi : P.info? e = some i) (hz : i.zero = some z)
    (hsize : i.size = size) (hby : i.bytes = bytes) (hzs : z.cells.size = size) (hsz : 0 < size)
    (v : Value) (n : Nat) (xs : List Value) (hown : w.ownsRow base e size v n xs)
    (a : Addr) (m c : Nat) (news : List Value) (hl : news.length = m * size) (hnews : ∀ j u, news[j]? = some u → w.cell? (a.add j) = some u) (h1 : ∀ u ∈ news, u.oneCell' = true)
    (h63 : n + m ≤ maxLen) (hbytes : (n + m) * bytes ≤ 140737488355328) (hbase : base ≤ w.heap.size) :
    ∃ v' w', (Builtin.append_ #[t, t] ty #[v, .slice (some a) m c]).run P w = .ok v' w' ∧ w'.ownsRow base e size v' (n + m) (xs ++ news) ∧ w.grownBy w' v.ownBlock ∧ Rd w' size v n xs := by
  obtain ⟨v', w', hr, h2, h3, _⟩ := run_append_own (P := P) w base t ty e i z size bytes ht hi hz hsize hby hzs hsz v n xs hown a m c news hl hnews h1 h63 hbytes hbase
  refine ⟨v', w', hr, h2, h3, ?_⟩
  have hrd := rd_of_own hown
  have hlen := hown.1
  subst hsize
  subst hby
  have hsmall : n + m ≤ 9223372036854775807 := by simp only [maxLen] at h63; omega
  rcases hown.2 with ⟨rfl, rfl⟩ | ⟨g, cap, cur, rfl, hbg, hg, hnc, hcm, hcs, htake⟩
  · have hx : xs = [] := List.eq_nil_of_length_eq_zero (by simpa using hlen)
    subst hx
    exact Rd.nil _ _
  · by_cases hroom : n + m ≤ cap
    · have hfit : n * i.size + news.length ≤ cur.size := by rw [hl, hcs, ← Nat.add_mul]; exact Nat.mul_le_mul_right _ hroom
      have hr2 := run_append_room (P := P) w t ty e i ht hi g n cap cur hg a m c news hl hnews h1 hroom hfit
      have he := hr.symm.trans hr2
      injection he with e1 e2
      subst e1
      have hc := h2.cells (g := g) rfl
      have hgl : g < w'.heap.size := Nat.lt_of_lt_of_le (Array.getElem?_eq_some_iff.1 hg).1 h3.size
      refine ⟨_, _, rfl, hnc, hcm, hlen, .inr ⟨g, 0, rfl, hgl, fun j u hj => ?_⟩⟩
      have hj' : (xs ++ news)[j]? = some u := by
        rw [List.getElem?_append_left (List.getElem?_eq_some_iff.1 hj).1]
        exact hj
      have := hc j u hj'
      have hadd : (⟨g, 0, none⟩ : Addr).add j = ⟨g, 0 + j, none⟩ := by unfold Addr.add; split <;> simp_all
      rw [hadd] at this
      exact this
    · have holds : ∀ j u, xs[j]? = some u → w.cell? ((⟨g, 0, none⟩ : Addr).add j) = some u := hown.cells (g := g) rfl
      have hr2 := run_append_grow (P := P) w t ty e i z ht hi hz ⟨g, 0, none⟩ n cap xs hlen holds a m c news hl hnews (by omega) (by omega) (growslice_fits (by omega) hbytes)
      have he := hr.symm.trans hr2
      injection he with e1 e2
      rw [e2]
      exact hrd.below (((Below.refl w.heap.size w).drew).alloc (Nat.le_refl _) _) (Nat.le_refl _)

theorem wpList_append_keep {P : Program} {w : World} {ops : Array Oper} {rest : List Oper} {o : Oper} {a : Act} {Q : Exit → Act → World → Prop}
    (hgd : o.guard = none) (s x : Operand) (t : TypeId) (ho : o.op = Op.call { callee := Callee.builtin Builtin.append, args := #[s, x], argTypes := #[t, t] })
    (B e size bytes : Nat) (z : Value) (ht : P.underlying t = some (.slice e)) (h2 : (P.info? e).map (fun i => (i.zero, i.size, i.bytes)) = some (some z, size, bytes)) (hz : z.cells.size = size) (hsz : 0 < size)
    (v : Value) (n m c : Nat) (xs news : List Value) (ad : Nat) (off : Nat) (hs : a.eval s = v) (hx : a.eval x = .slice (some ⟨ad, off, none⟩) m c) (hown : w.ownsRow B e size v n xs)
    (hlen : news.length = m * size) (hnews : ∀ j u, news[j]? = some u → w.cell? ⟨ad, off + j, none⟩ = some u) (hone : ∀ u ∈ news, u.oneCell' = true)
    (hB : B ≤ w.heap.size) (hl : (n + m) * bytes ≤ 140737488355328) (hl' : n + m ≤ maxLen)
    (hK : ∀ v' w', w'.ownsRow B e size v' (n + m) (xs ++ news) → (∀ B' u, B' ≤ B → Below B' u w → Below B' u w') → Rd w' size v n xs → w.grownBy w' v.ownBlock → wpList P ops Q rest (a.put o.dst v') w') :
    wpList P ops Q (o :: rest) a w := by
  obtain ⟨i0, hi, hz0, hz1, hz2⟩ := info_parts h2
  refine wpList_plain hgd fun K hKK => ?_
  obtain ⟨v', w', hr, g2, g3, g4⟩ := run_append_keep (P := P) w B t o.type e i0 z size bytes ht hi hz0 hz1 hz2 hz hsz v n xs hown ⟨ad, off, none⟩ m c news hlen (fun j u hj => by
    have hadd : (⟨ad, off, none⟩ : Addr).add j = ⟨ad, off + j, none⟩ := by unfold Addr.add; split <;> simp_all
    rw [hadd]
    exact hnews j u hj) hone hl' hl hB
  unfold Oper.wp execOp
  simp only [ho, resolve, invoke, builtin, Sem.run_bind, Sem.run_pure, Result.andThen_ok, List.map_toArray, List.map_cons, List.map_nil, hs, hx, hr]
  refine hKK _ _ (hK v' w' g2 (fun B' u hB' hb => ?_) g4 g3)
  refine hb.grown g3 (by have := hb.size; omega) fun k hk => ?_
  have := (World.ownsRow.lt hown k hk).1
  omega
end Go.Proofs.Ytabmdhbikedhmaa

/-
  Chapter 14: what is asked of package seek holds of it.
-/
namespace Go.Proofs.Ytabmdhbikedhmaa
open Go.RowKit

theorem eqn_ents (w : World) : (binOp .eql 22 (.slice none 0 0) (.slice none 0 0)).run Try.prog w = .ok (.bool true) w := by kernel_rfl
theorem eqs_ents (ad : Addr) (n cap : Nat) (w : World) : (binOp .eql 22 (.slice (some ad) n cap) (.slice none 0 0)).run Try.prog w = .ok (.bool false) w := by kernel_rfl
set_option maxRecDepth 100000 in
set_option maxHeartbeats 1000000 in
theorem clone_ents (w : World) (v : Value) (es : List Ent) (h : RdE w v es) (hn : es.length ≤ 1000) :
    Calls Try.prog 27 #[v] w fun e w' => ∃ v', e = .returned v' ∧ OwnE w' w.heap.size v' es ∧ Below w.heap.size w w' := by
  have hfit := h.2
  obtain ⟨a, cap, rfl, h1, h2, h3, h4⟩ := h.1
  by_cases hnil : a = none
  · subst hnil
    rcases h4 with ⟨hn0, hc⟩ | ⟨b, off, hb, _⟩
    · obtain rfl := hc rfl
      obtain rfl : es = [] := List.eq_nil_of_length_eq_zero hn0
      have hq := eqn_ents
      go_enter Try.func27, Try.ntmps27
      go_wp2
      go_ret
      exact ⟨_, rfl, World.ownsRow_nil _ _ _ _, Below.refl _ _⟩
    · cases hb
  · obtain ⟨ad, rfl⟩ := Option.ne_none_iff_exists'.1 hnil
    have HRD := Lib.hid (Rd.below h.1 ((Below.refl _ w).alloc (Nat.le_refl _) (.cells #[] 36)) (Nat.le_refl _))
    have HROW : Hid ((w.alloc (.cells #[] 36)).ownsRow w.heap.size 36 4 (.slice (some ⟨w.heap.size, 0, none⟩) 0 0) 0 []) := Lib.hid (World.ownsRow_made w #[] 0 (Nat.le_refl _) (Nat.zero_le _) rfl)
    have hq := eqs_ents ad es.length cap
    clear h h3 h4 hfit
    go_enter Try.func27, Try.ntmps27
    go_wp2_with (at_builtin; refine wpList_append_rd rfl (.tmp 5) (.tmp 6) 22 rfl w.heap.size 36 4 48 (.agg #[.string ⟨#[]⟩, .int .i64 0, .int .i64 0, .string ⟨#[]⟩]) Try.underlying22 info_ent rfl (by decide) (.slice (some ⟨w.heap.size, 0, none⟩) 0 0) _ 0 es.length [] (es.flatMap Ent.cells) rfl rfl HROW.out ?rdA (entFlat_one _) ?bbA ?l1A ?l2A ?kkA)
    case rdA => exact HRD.out
    case bbA => simp
    case l1A => omega
    case l2A => (unfold maxLen; omega)
    case kkA =>
      intro v1 w1 hown hBk
      have HB := Lib.hid (hBk w.heap.size w (Nat.le_refl _) ((Below.refl _ _).alloc (Nat.le_refl _) _))
      have HO := Lib.hid (show OwnE w1 w.heap.size v1 es by simpa [OwnE] using hown)
      clear hown hBk
      go_wp2
      go_ret
      exact ⟨v1, rfl, HO.out, HB.out⟩

set_option maxRecDepth 100000 in
theorem pnew_any (v : Value) (es : List Ent) (w : World) (hv : RdE w v es) (hl : SmallE es) : Calls Try.prog 9 #[v] w fun e w' => ∃ q G, e = .returned (.pointer (some ⟨q, 0, none⟩)) ∧ PIt G w' q (sortE es) (-1) ∧ (∀ k, G k → w.heap.size ≤ k) ∧ Below w.heap.size w w' := by
  have HCL := Lib.hid (clone_ents w v es hv hl.1)
  have HFI := Lib.hid hv.2
  have HSF := Lib.hid (show ∀ e ∈ sortE es, e.fits from fun e he => hv.2 e (sort_sub he))
  have hn := hl.1
  have HUP := Lib.hid (sort_up es)
  have HSL := Lib.hid (sort_len es)
  clear hv hl
  have HFIN : Hid (∀ (w1 : World) (a : Option Addr) (cap n : Nat), Below w.heap.size w w1 → (sortE es).length = n → OwnE w1 w.heap.size (.slice a n cap) (sortE es) →
      ∃ q G, Ending.returned (.pointer (some ⟨w1.heap.size, 0, none⟩)) = Ending.returned (.pointer (some ⟨q, 0, none⟩)) ∧ PIt G (w1.alloc (.cells #[.slice a n cap, .int .i64 0] 53)) q (sortE es) (-1) ∧ (∀ k, G k → w.heap.size ≤ k) ∧ Below w.heap.size w (w1.alloc (.cells #[.slice a n cap, .int .i64 0] 53))) := Lib.hid fun w1 a cap n hb hn' ho => by
    refine ⟨w1.heap.size, fun k => k = w1.heap.size ∨ (Value.slice a n cap).ownBlock = some k, rfl, ⟨_, 0, heap_alloc_new w1 _, ?_, fun h => by have := (World.ownsRow.lt ho _ h).2; omega, fun k => Iff.rfl, HSF.out, ⟨rfl, by omega⟩, by have := HSL.out; omega, HUP.out⟩, ?_, hb.alloc hb.size _⟩
    · exact own_base (ho.below ((Below.refl _ _).alloc (Nat.le_refl _) _)) fun _ _ => Nat.zero_le _
    · rintro k (rfl | hk)
      · exact hb.size
      · exact (World.ownsRow.lt ho k hk).1
  have HCALL : Hid (∀ (w1 : World) (v1 : Value), OwnE w1 w.heap.size v1 es → Below w.heap.size w w1 → Calls Try.prog 28 #[v1, .func (.func 29) #[] #[]] w1 fun e w' => e = .returned (.tuple #[]) ∧ Below w.heap.size w w' ∧
      Calls Try.prog 31 #[v1, .func (.func 32) #[] #[]] w' fun e w'' => ∃ a cap n, e = .returned (.slice a n cap) ∧ (sortE es).length = n ∧ OwnE w'' w.heap.size (.slice a n cap) (sortE es) ∧ Below w.heap.size w w'') := Lib.hid fun w1 v1 ho hb => by
    obtain ⟨a, cap, rfl, _, _⟩ := ho.form
    rcases Nat.eq_zero_or_pos es.length with h0 | h0
    · obtain rfl : es = [] := List.eq_nil_of_length_eq_zero h0
      refine (sortStable_none a cap _ w1).mono ?_
      rintro e w' ⟨rfl, rfl⟩
      refine ⟨rfl, hb, (compact_few a cap 0 (by omega) _ w').mono ?_⟩
      rintro e w'' ⟨rfl, rfl⟩
      exact ⟨a, cap, 0, rfl, rfl, ho, hb⟩
    · have hs : SL w.heap.size w a cap es.length es w1 := ⟨rfl, hb, hb.size, ho, HFI.out⟩
      obtain ⟨g, rfl, _⟩ := hs.at_ h0
      refine (sortStable_any hs hn).mono ?_
      rintro e w' ⟨rfl, l', hle, hst, hs2⟩
      have hcp := cpN_sort hst hle
      rw [hs2.len] at hcp
      refine ⟨rfl, hs2.below, ?_⟩
      by_cases h2 : es.length < 2
      · refine (compact_few _ cap es.length h2 _ w').mono ?_
        rintro e w'' ⟨rfl, rfl⟩
        have h1 : l' = sortE es := by
          have h3 := hs2.len
          have h4 : es.length = 1 := by omega
          obtain ⟨x, rfl⟩ := List.length_eq_one_iff.1 (h3.trans h4)
          rw [h4] at hcp
          rw [← hcp]
          rfl
        rw [h1] at hs2
        exact ⟨_, cap, es.length, rfl, hs2.len, hs2.own, hs2.below⟩
      · refine (compact_any hs2 (by omega) hn).mono ?_
        rintro e w'' ⟨k, _, _, rfl, h5⟩
        rw [hcp] at h5
        exact ⟨_, cap, k, rfl, h5.len, h5.own, h5.below⟩
  clear hn
  go_enter Try.func9, Try.ntmps9
  go_wp2_with (first | (go_at_call 27; (refine HCL.out.mono ?_); rintro e w1 ⟨v1, rfl, ho1, hb1⟩; have HC1 := Lib.hid (HCALL.out w1 v1 ho1 hb1); clear ho1 hb1) | (go_at_call 28; (refine HC1.out.mono ?_); rintro e w2 ⟨rfl, hb2, hc2⟩; have HC2 := Lib.hid hc2; clear hb2 hc2) | (go_at_call 31; (refine HC2.out.mono ?_); rintro e w3 ⟨a3, cap3, n3, rfl, hn3, ho3, hb3⟩; have H3 := Lib.hid (HFIN.out w3 a3 cap3 n3 hb3 hn3 ho3); clear hn3 ho3 hb3))
  go_ret
  exact H3.out

set_option maxRecDepth 100000 in
theorem pfirst_any {G : Nat → Prop} {w : World} {q : Nat} {L : List Ent} {a : Int} (h : PIt G w q L a) : Calls Try.prog 11 #[.pointer (some ⟨q, 0, none⟩)] w (PMv G q L 0 w) := by
  have HC := Lib.hid (mv_first h ⟨#[]⟩ 0 0)
  clear h
  go_enter Try.func11, Try.ntmps11
  go_wp2_with (go_at_call 34; (refine HC.out.mono ?_); rintro e w1 hm; have HM := Lib.hid hm; obtain ⟨rfl, _⟩ := hm)
  go_ret
  exact HM.out
set_option maxRecDepth 100000 in
theorem plast_any {G : Nat → Prop} {w : World} {q : Nat} {L : List Ent} {a : Int} (h : PIt G w q L a) : Calls Try.prog 13 #[.pointer (some ⟨q, 0, none⟩)] w (PMv G q L ((L.length : Int) - 1) w) := by
  have HC := Lib.hid (mv_last h ⟨#[]⟩ 0 0)
  clear h
  go_enter Try.func13, Try.ntmps13
  go_wp2_with (go_at_call 34; (refine HC.out.mono ?_); rintro e w1 hm; have HM := Lib.hid hm; obtain ⟨rfl, _⟩ := hm)
  go_ret
  exact HM.out
set_option maxRecDepth 100000 in
theorem pnext_any {G : Nat → Prop} {w : World} {q : Nat} {L : List Ent} {a : Int} (h : PIt G w q L a) : Calls Try.prog 17 #[.pointer (some ⟨q, 0, none⟩)] w (PMv G q L (nextA L a) w) := by
  have HC := Lib.hid (mv_next h ⟨#[]⟩ 0 0)
  clear h
  go_enter Try.func17, Try.ntmps17
  go_wp2_with (go_at_call 34; (refine HC.out.mono ?_); rintro e w1 hm; have HM := Lib.hid hm; obtain ⟨rfl, _⟩ := hm)
  go_ret
  exact HM.out
set_option maxRecDepth 100000 in
theorem pprev_any {G : Nat → Prop} {w : World} {q : Nat} {L : List Ent} {a : Int} (h : PIt G w q L a) : Calls Try.prog 19 #[.pointer (some ⟨q, 0, none⟩)] w (PMv G q L (prevA a) w) := by
  have HC := Lib.hid (mv_prev h ⟨#[]⟩ 0 0)
  clear h
  go_enter Try.func19, Try.ntmps19
  go_wp2_with (go_at_call 34; (refine HC.out.mono ?_); rintro e w1 hm; have HM := Lib.hid hm; obtain ⟨rfl, _⟩ := hm)
  go_ret
  exact HM.out
set_option maxRecDepth 100000 in
theorem pseek_any {G : Nat → Prop} {w : World} {q : Nat} {L : List Ent} {a : Int} (h : PIt G w q L a) (u : ByteArray) (s k : Int) (hu : u.size ≤ maxLen) : Calls Try.prog 15 #[.pointer (some ⟨q, 0, none⟩), .agg #[.string u, .int .i64 s, .int .i64 k]] w (PMv G q L (seekN L u s k : Int) w) := by
  have hb : Below w.heap.size w (w.alloc (.cells #[.string u, .int .i64 s, .int .i64 k] 31)) := (Below.refl _ _).alloc (Nat.le_refl _) _
  have HC := Lib.hid (mv_seek (h.below hb) u s k hu)
  have HB := Lib.hid hb
  clear h hb
  go_enter Try.func15, Try.ntmps15
  go_wp2_with (go_at_call 34; (refine HC.out.mono ?_); rintro e w1 hm; have HM := Lib.hid hm; obtain ⟨rfl, _⟩ := hm)
  go_ret
  exact ⟨HM.out.1, HM.out.2.1, (Touch.of_below HB.out).trans HM.out.2.2 (Grows.refl _ _ _)⟩

set_option maxRecDepth 100000 in
theorem mv_nil (d : Int) (u : ByteArray) (s k : Int) (w : World) : Calls Try.prog 34 #[.pointer none, .int .i64 d, .agg #[.string u, .int .i64 s, .int .i64 k]] w fun e w' => e = .returned (.bool false) ∧ Below w.heap.size w w' := by
  go_enter Try.func34, Try.ntmps34
  go_wp2
  go_step3
  go_wp2
  rw [Exit.noGoto_ret]
  go_ret
  exact ⟨rfl, (Below.refl _ _).alloc (Nat.le_refl _) _⟩
set_option maxRecDepth 100000 in
theorem nfirst_any (w : World) : Calls Try.prog 11 #[.pointer none] w fun e w' => e = .returned (.bool false) ∧ Below w.heap.size w w' := by
  have HC := Lib.hid (fun d => mv_nil d ⟨#[]⟩ 0 0 w)
  go_enter Try.func11, Try.ntmps11
  go_wp2_with (go_at_call 34; (refine (HC.out _).mono ?_); rintro e w1 ⟨rfl, hb⟩)
  go_ret
  exact ⟨rfl, hb⟩
set_option maxRecDepth 100000 in
theorem nlast_any (w : World) : Calls Try.prog 13 #[.pointer none] w fun e w' => e = .returned (.bool false) ∧ Below w.heap.size w w' := by
  have HC := Lib.hid (fun d => mv_nil d ⟨#[]⟩ 0 0 w)
  go_enter Try.func13, Try.ntmps13
  go_wp2_with (go_at_call 34; (refine (HC.out _).mono ?_); rintro e w1 ⟨rfl, hb⟩)
  go_ret
  exact ⟨rfl, hb⟩
set_option maxRecDepth 100000 in
theorem nnext_any (w : World) : Calls Try.prog 17 #[.pointer none] w fun e w' => e = .returned (.bool false) ∧ Below w.heap.size w w' := by
  have HC := Lib.hid (fun d => mv_nil d ⟨#[]⟩ 0 0 w)
  go_enter Try.func17, Try.ntmps17
  go_wp2_with (go_at_call 34; (refine (HC.out _).mono ?_); rintro e w1 ⟨rfl, hb⟩)
  go_ret
  exact ⟨rfl, hb⟩
set_option maxRecDepth 100000 in
theorem nprev_any (w : World) : Calls Try.prog 19 #[.pointer none] w fun e w' => e = .returned (.bool false) ∧ Below w.heap.size w w' := by
  have HC := Lib.hid (fun d => mv_nil d ⟨#[]⟩ 0 0 w)
  go_enter Try.func19, Try.ntmps19
  go_wp2_with (go_at_call 34; (refine (HC.out _).mono ?_); rintro e w1 ⟨rfl, hb⟩)
  go_ret
  exact ⟨rfl, hb⟩
set_option maxRecDepth 100000 in
theorem nseek_any (w : World) (u : ByteArray) (s k : Int) : Calls Try.prog 15 #[.pointer none, .agg #[.string u, .int .i64 s, .int .i64 k]] w fun e w' => e = .returned (.bool false) ∧ Below w.heap.size w w' := by
  have HC := Lib.hid (fun d w => mv_nil d u s k w)
  go_enter Try.func15, Try.ntmps15
  go_wp2_with (go_at_call 34; (refine (HC.out _ _).mono ?_); rintro e w1 ⟨rfl, hb⟩)
  go_ret
  exact ⟨rfl, belowT ((Below.refl _ _).alloc (Nat.le_refl _) _) hb⟩
set_option maxRecDepth 100000 in
theorem nat_any (w : World) : Calls Try.prog 21 #[.pointer none] w fun e w' => e = .returned (ansN none) ∧ Below w.heap.size w w' := by
  have hr := heap_alloc_new w (.cells #[.string ⟨#[]⟩, .int .i64 0, .int .i64 0, .string ⟨#[]⟩] 36)
  obtain ⟨W0, hW0⟩ : ∃ W0, W0 = w.alloc (.cells #[.string ⟨#[]⟩, .int .i64 0, .int .i64 0, .string ⟨#[]⟩] 36) := ⟨_, rfl⟩
  rw [← hW0] at hr
  have HB0 : Hid (Below w.heap.size w W0) := Lib.hid (by rw [hW0]; exact (Below.refl _ _).alloc (Nat.le_refl _) _)
  have HR := Lib.hid hr
  have HW0 := Lib.hid hW0
  have q0 := blk_cell (i := 0) hr
  replace q0 : W0.cell? ⟨w.heap.size, 0, none⟩ = some (.string ⟨#[]⟩) := q0
  have q1 := blk_cell (i := 1) hr
  replace q1 : W0.cell? ⟨w.heap.size, 1, none⟩ = some (.int .i64 0) := q1
  have q2 := blk_cell (i := 2) hr
  replace q2 : W0.cell? ⟨w.heap.size, 2, none⟩ = some (.int .i64 0) := q2
  have q3 := blk_cell (i := 3) hr
  replace q3 : W0.cell? ⟨w.heap.size, 3, none⟩ = some (.string ⟨#[]⟩) := q3
  have qf : ∀ o, W0.frozen? ⟨w.heap.size, o, none⟩ = false := fun o => blk_free hr
  clear hr hW0
  go_enter Try.func21, Try.ntmps21
  go_upto_region 1 with (fail)
  rw [← HW0.out]
  clear HW0
  go_wp2
  refine bodyPost_ret (results_row_tmp rfl _ _ w.heap.size 36 #[.string ⟨#[]⟩, .int .i64 0, .int .i64 0, .string ⟨#[]⟩] (0, 0) _ rfl ?hgE Try.underlying36 rfl (by kernel_rfl)) rfl ?_
  case hgE => exact (set4 HR.out rfl rfl rfl rfl).1
  exact ⟨rfl, (set4 HR.out rfl rfl rfl rfl).2 _ (Nat.le_refl _) _ HB0.out⟩

theorem seek_it : ItC PIt where
  lt := PIt.lt
  kept := PIt.kept
  new_ := pnew_any
  first := pfirst_any
  last := plast_any
  next := pnext_any
  prev := pprev_any
  seek := fun h u s k hu _ _ => pseek_any h u s k hu
  at_ := pat_any
  nfirst := nfirst_any
  nlast := nlast_any
  nnext := nnext_any
  nprev := nprev_any
  nseek := fun w u s k _ _ _ => nseek_any w u s k
  nat_ := nat_any
end Go.Proofs.Ytabmdhbikedhmaa

/-
  The walk of SeekFinds, on what is landed.
-/
namespace Go.Proofs.Ytabmdhbikedhmaa
open Go.RowKit

theorem seekFinds_walk (v0 : Value) (ns : List UInt8) (a1 a2 : Int) (W : World) (w0 : RdB W v0 ns) (wa1 : (Lit.int .u8 a1).wf = true) (wa2 : (Lit.int .u8 a2).wf = true) :
    Calls Try.prog 5 #[v0, .int .u8 a1, .int .u8 a2] W fun r w' => r = .returned (.bool true) ∧ Below W.heap.size W w' :=
  seekFinds_walkC seek_it v0 ns a1 a2 W w0 wa1 wa2
end Go.Proofs.Ytabmdhbikedhmaa

/-
  How arguments are opened: a slice of bytes that came in reads as a list of bytes; a slice of integers as a list of integers.
-/
namespace Go.Proofs.Ytabmdhbikedhmaa
open Go.ChangeShapes Go.WideShapes Go.ChangeAt Go.RowKit

/-- The slice 'v' reads as the integers 'zs' (each of them fits the kind 'k') in world 'w'. -/
def RdI (k : IntKind) (w : World) (v : Value) (zs : List Int) : Prop :=
  ∃ a cap, v = .slice a zs.length cap ∧ zs.length ≤ cap ∧ cap ≤ maxLen ∧ (∀ n ∈ zs, (Lit.int k n).wf = true) ∧
    ((zs = [] ∧ (a = none → cap = 0)) ∨ ∃ b off, a = some ⟨b, off, none⟩ ∧ b < w.heap.size ∧ ∀ i, i < zs.length → w.cell? ⟨b, off + i, none⟩ = some (.int k (zs.getD i 0)))

theorem rdI_open {H : Type} {enc : TypeId × Value → H} {P : Program} {w : World} {k : IntKind} {t e : TypeId} {base : Nat} {m : Nat} {spare : Nat → Bool} {held : Bool} {v : Value} {d : DataW H} {p : List MemPlace} (ht : P.underlying t = some (.slice e)) (he : P.underlying e = some (.int k)) (hc : P.cellsOf e = 1)
    (hok : Value.okWide P w .any base t v) (hd : DataW.Trod enc P w m spare held t v d p) : ∃ zs, RdI k w v zs := by
  obtain ⟨a, len, cap, rfl⟩ := okWide_slice ht hok
  obtain ⟨fuel, hf⟩ := hd
  rcases open_ints ht he hc hf with ⟨hcs, _⟩ | ⟨x, l, c, zs, hcs, _, hl, hm, hz, _, hcell, hwz⟩
  · simp [Value.cells] at hcs
    obtain ⟨rfl, rfl, rfl⟩ := hcs
    exact ⟨[], none, 0, rfl, Nat.le_refl _, Nat.zero_le _, by simp, .inl ⟨rfl, fun _ => rfl⟩⟩
  · simp [Value.cells] at hcs
    obtain ⟨rfl, rfl, rfl⟩ := hcs
    have hz' : len ≤ zs.length := by rw [hz]; split <;> omega
    have hlen : (zs.take len).length = len := by rw [List.length_take]; omega
    refine ⟨zs.take len, some x, cap, by rw [hlen], by rw [hlen]; exact hl, hm, fun n hn => hwz n (List.mem_of_mem_take hn), ?_⟩
    by_cases h0 : len = 0
    · left; subst h0; exact ⟨rfl, fun h => by cases h⟩
    · right
      obtain ⟨b, off, spot⟩ := x
      have hc0 := hcell 0 (by omega)
      have hspot : spot = none := by simpa [Addr.add] using World.cell?_spot hc0
      subst hspot
      refine ⟨b, off, rfl, World.block_lt_of_cell? w _ hc0, fun i hi => ?_⟩
      have hi' : i < len := by omega
      have h1 := hcell i (by omega)
      have hadd : (⟨b, off, none⟩ : Addr).add i = ⟨b, off + i, none⟩ := by unfold Addr.add; split <;> simp_all
      rw [hadd] at h1
      rw [h1]
      simp [List.getD, hi']

theorem RdI.bytes {w : World} {v : Value} {zs : List Int} (h : RdI .u8 w v zs) : ∃ l, RdB w v l := by
  obtain ⟨a, cap, rfl, h1, h2, h3, h4⟩ := h
  have key : ∀ (zs : List Int), (∀ n ∈ zs, (Lit.int .u8 n).wf = true) → ∃ l : List UInt8, l.map (fun c => (c.toNat : Int)) = zs := by
    intro zs
    induction zs with
    | nil => exact fun _ => ⟨[], rfl⟩
    | cons z zs ih =>
      intro h
      obtain ⟨l, hl⟩ := ih fun n hn => h n (List.mem_cons_of_mem _ hn)
      have hz := bounds_u8 (h z (List.mem_cons_self ..))
      refine ⟨UInt8.ofNat z.toNat :: l, ?_⟩
      rw [List.map_cons, hl, UInt8.toNat_ofNat', Nat.mod_eq_of_lt (by omega)]
      congr 1
      omega
  obtain ⟨l, rfl⟩ := key zs h3
  simp only [List.length_map] at h1 h4 ⊢
  refine ⟨l, a, cap, rfl, h1, h2, by simp, ?_⟩
  rcases h4 with ⟨h4, h5⟩ | ⟨b, off, rfl, h5, h6⟩
  · left; exact ⟨by simpa using h4, h5⟩
  · refine .inr ⟨b, off, rfl, h5, fun j u hj => ?_⟩
    have hj' : j < l.length := by
      rcases Nat.lt_or_ge j l.length with h | h
      · exact h
      · simp [List.getElem?_eq_none h] at hj
    rw [h6 j hj']
    simp [hj'] at hj
    simp [List.getD, hj', hj]

theorem rdB_open {H : Type} {enc : TypeId × Value → H} {P : Program} {w : World} {t e : TypeId} {base : Nat} {m : Nat} {spare : Nat → Bool} {held : Bool} {v : Value} {d : DataW H} {p : List MemPlace} (ht : P.underlying t = some (.slice e)) (he : P.underlying e = some (.int .u8)) (hc : P.cellsOf e = 1)
    (hok : Value.okWide P w .any base t v) (hd : DataW.Trod enc P w m spare held t v d p) : ∃ l, RdB w v l :=
  let ⟨_, h⟩ := rdI_open ht he hc hok hd
  h.bytes
end Go.Proofs.Ytabmdhbikedhmaa
