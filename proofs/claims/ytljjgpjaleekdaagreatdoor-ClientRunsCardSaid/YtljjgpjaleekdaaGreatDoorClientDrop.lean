/-
  The program's client: Drop; the calls without a far store.
-/
import Derived.Test.YtljjgpjaleekdaaGreatDoorClientNames
namespace Go.Proofs.YtljjgpjaleekdaaGreatDoor
open Go.RowKit

set_option maxRecDepth 100000 in
set_option maxHeartbeats 2000000 in
theorem cdrop_at {G : Nat → Prop} {w : World} {p : Nat} {f : FR} {m : Nat} (h : FarAt G w p f) (hz : Fz f m) (hm : m ≤ 10000) (s : ByteArray) (hs : s.size ≤ maxLen) :
    Calls Tryz.prog 26 #[.pointer (some ⟨p, 0, none⟩), .string s] w fun e w' => e = .returned (.int .i64 ((f.cdrop s.data.toList).1 : Int)) ∧ FarTo G w w' p (f.cdrop s.data.toList).2 ∧ Fz (f.cdrop s.data.toList).2 (m + 4) := by
  obtain ⟨w1, hw1⟩ : ∃ w1, w1 = (w.alloc (.cells #[.pointer (some ⟨p, 0, none⟩)] 24)).alloc (.cells #[.string s] 9) := ⟨_, rfl⟩
  have hbel : Below w.heap.size w w1 := by subst hw1; exact ((Below.refl _ _).alloc (Nat.le_refl _) _).alloc (by simp) _
  have hwd : w1.heap.size = w.heap.size + 2 := by subst hw1; simp
  have hb1 : w1.heap[w.heap.size + 1]? = some (.cells #[.string s] 9 (0, 0)) := by subst hw1; exact heap_new2 w _ _
  have hb0 : w1.heap[w.heap.size]? = some (.cells #[.pointer (some ⟨p, 0, none⟩)] 24 (0, 0)) := by subst hw1; exact (Below.heap_alloc _ _ _ (by simp)).trans (heap_alloc_new w _)
  have h1 : FarAt G w1 p f := h.below hbel
  have hout : ∀ k, w.heap.size ≤ k → ¬ G k := fun k hk e => by have := h.lt k e; omega
  have ht := tried_far h1 hz (·.drop s.data.toList) (fun f k hk => hk.drop _) 41 #[.pointer (some ⟨w.heap.size, 0, none⟩), .pointer (some ⟨w.heap.size + 1, 0, none⟩)] enters_cdrop1 (fun G' w2 f' k1 k2 k3 k5 => by
    have q0 : ∀ k, w.heap.size ≤ k → k < w1.heap.size → w2.heap[k]? = w1.heap[k]? := fun k hk hk2 => k2.block k ⟨hk2, hout k hk⟩
    refine (cdrop1_any w2 w.heap.size (w.heap.size + 1) (.pointer (some ⟨p, 0, none⟩)) s (blk_cell ((q0 _ (by omega) (by omega)).trans hb0)) (blk_cell ((q0 _ (by omega) (by omega)).trans hb1))
      (R := fun r w'' => r = (f'.drop s.data.toList).1 ∧ FarTo G' w2 w'' p (f'.drop s.data.toList).2) ?_).mono ?_
    · refine (farDrop_at k1 (by have := k5.calls; omega) s hs).mono ?_
      rintro e w3 ⟨rfl, j1⟩
      exact ⟨_, rfl, rfl, j1⟩
    · rintro e w3 ⟨r, rfl, rfl, j1⟩
      exact ⟨rfl, j1⟩)
  have HT := Lib.hid ht
  have HBEL := Lib.hid hbel
  have Hw1 := Lib.hid hw1
  have cb0 : w1.cell? ⟨w.heap.size, 0, none⟩ = some (.pointer (some ⟨p, 0, none⟩)) := blk_cell hb0
  have hq : ∀ (w : World) (a : Addr), (binOp .eql 24 (.pointer (some a)) (.pointer none)).run Tryz.prog w = .ok (.bool false) w := fun w a => by kernel_rfl
  clear ht hbel hw1 hwd hb0 hb1 h1 hout h
  unfold FR.cdrop
  obtain ⟨⟨r, f2⟩, he⟩ : ∃ y, FR.tries (·.drop s.data.toList) 4 f = y := ⟨_, rfl⟩
  rw [he] at HT ⊢
  dsimp only at HT ⊢
  clear he
  by_cases h2 : r = 2
  · subst h2
    rw [if_pos rfl]
    go_enter Tryz.func26, Tryz.ntmps26
    go_wp2_with (go_at_call 32; rw [← Hw1.out]; (with_reducible refine HT.out.mono ?_); rintro e w2 ⟨rfl, k1, k2⟩; have H1 := Lib.hid k1; have H2 := Lib.hid k2; clear k1 k2)
    go_ret
    exact ⟨rfl, FarTo.trans (Touch.of_below HBEL.out) (Grows.refl _ _ _) H1.out, H2.out⟩
  · rw [if_neg h2]
    have hne : ((r : Int) == 2) = false := by simp; omega
    go_enter Tryz.func26, Tryz.ntmps26
    go_wp2_with (go_at_call 32; rw [← Hw1.out]; (with_reducible refine HT.out.mono ?_); rintro e w2 ⟨rfl, k1, k2⟩; have H1 := Lib.hid k1; have H2 := Lib.hid k2; clear k1 k2)
    go_ret
    exact ⟨rfl, FarTo.trans (Touch.of_below HBEL.out) (Grows.refl _ _ _) H1.out, H2.out⟩

/-! ### Of nil. -/

theorem pick_second {r : Nat} {X A : Prop} (h : (r = 8 ∧ (4 : Nat) = 0 ∧ X) ∨ (r ≠ 8 ∧ A)) : A := by
  rcases h with ⟨_, h, _⟩ | ⟨_, h⟩
  · exact absurd h (by decide)
  · exact h

set_option maxRecDepth 100000 in
theorem cdrop_nil (w : World) (s : ByteArray) : Calls Tryz.prog 26 #[.pointer none, .string s] w fun e w' => e = .returned (.int .i64 2) ∧ Below w.heap.size w w' := by
  have hq : ∀ w : World, (binOp .eql 24 (.pointer none) (.pointer none)).run Tryz.prog w = .ok (.bool true) w := fun w => by kernel_rfl
  go_enter Tryz.func26, Tryz.ntmps26
  go_wp2
  go_ret
  exact ⟨rfl, ((Below.refl _ _).alloc (Nat.le_refl _) _).alloc (by simp) _⟩

set_option maxRecDepth 100000 in
theorem up_nil (w : World) (s : ByteArray) (va : Option Addr) (vn vc : Nat) : Calls Tryz.prog 16 #[.pointer none, .string s, .slice va vn vc] w fun e w' => e = .returned (.int .i64 2) ∧ Below w.heap.size w w' := by
  obtain ⟨w1, hw1⟩ : ∃ w1, w1 = ((w.alloc (.cells #[.pointer none] 24)).alloc (.cells #[.string s] 9)).alloc (.cells #[.slice va vn vc] 31) := ⟨_, rfl⟩
  have hbel : Below w.heap.size w w1 := by subst hw1; exact (((Below.refl _ _).alloc (Nat.le_refl _) _).alloc (by simp) _).alloc (by simp; omega) _
  have hb2 : w1.heap[w.heap.size + 2]? = some (.cells #[.slice va vn vc] 31 (0, 0)) := by subst hw1; exact heap_new3 w _ _ _
  have hb1 : w1.heap[w.heap.size + 1]? = some (.cells #[.string s] 9 (0, 0)) := by subst hw1; exact (Below.heap_alloc _ _ _ (by simp)).trans (heap_new2 w _ _)
  have hb0 : w1.heap[w.heap.size]? = some (.cells #[.pointer none] 24 (0, 0)) := by subst hw1; exact (Below.heap_alloc _ _ _ (by simp; omega)).trans ((Below.heap_alloc _ _ _ (by simp)).trans (heap_alloc_new w _))
  have ht := tried_any 33 #[.pointer (some ⟨w.heap.size, 0, none⟩), .pointer (some ⟨w.heap.size + 1, 0, none⟩), .pointer (some ⟨w.heap.size + 2, 0, none⟩)] enters_up1 w1 (fun i w' => i = 0 ∧ w' = w1) (fun r w' => r = 2 ∧ Below w1.heap.size w1 w') ⟨rfl, rfl⟩ (fun i w2 _ hi => by
    obtain ⟨rfl, rfl⟩ := hi
    refine (up1_any w2 w.heap.size (w.heap.size + 1) (w.heap.size + 2) (.pointer none) s va vn vc (blk_cell hb0) (blk_cell hb1) (blk_cell hb2) (R := fun r w'' => r = 2 ∧ Below w2.heap.size w2 w'') ?_).mono ?_
    · refine (farPut_nil w2 s va vn vc).mono ?_
      rintro e w3 ⟨rfl, j1⟩
      exact ⟨2, rfl, rfl, j1⟩
    · rintro e w3 ⟨r, rfl, rfl, j1⟩
      exact ⟨2, rfl, fun h => absurd h (by decide), fun _ => ⟨rfl, j1⟩⟩)
  have HT := Lib.hid ht
  have HBEL := Lib.hid hbel
  have Hw1 := Lib.hid hw1
  clear ht hbel hw1 hb0 hb1 hb2
  go_enter Tryz.func16, Tryz.ntmps16
  go_wp2_with (go_at_call 32; rw [← Hw1.out]; (with_reducible refine HT.out.mono ?_); rintro e w2 ⟨r, rfl, hr⟩; obtain ⟨rfl, hB⟩ : r = 2 ∧ Below w1.heap.size w1 w2 := pick_second hr)
  go_ret
  exact ⟨rfl, HBEL.out.trans (hB.mono HBEL.out.size)⟩

set_option maxRecDepth 100000 in
theorem names_nil (w : World) : Calls Tryz.prog 23 #[.pointer none] w fun e w' => e = .returned (.tuple #[.slice none 0 0, .int .i64 2]) ∧ Below w.heap.size w w' := by
  obtain ⟨w1, hw1⟩ : ∃ w1, w1 = (w.alloc (.cells #[.pointer none] 24)).alloc (.cells #[.slice none 0 0] 53) := ⟨_, rfl⟩
  have hbel : Below w.heap.size w w1 := by subst hw1; exact ((Below.refl _ _).alloc (Nat.le_refl _) _).alloc (by simp) _
  have hbx : w1.heap[w.heap.size + 1]? = some (.cells #[.slice none 0 0] 53 (0, 0)) := by subst hw1; exact heap_new2 w _ _
  have hb0 : w1.heap[w.heap.size]? = some (.cells #[.pointer none] 24 (0, 0)) := by subst hw1; exact (Below.heap_alloc _ _ _ (by simp)).trans (heap_alloc_new w _)
  have ht := tried_any 38 #[.pointer (some ⟨w.heap.size, 0, none⟩), .pointer (some ⟨w.heap.size + 1, 0, none⟩)] enters_names1 w1 (fun i w' => i = 0 ∧ w' = w1) (fun r w' => r = 2 ∧ Below w.heap.size w w' ∧ w'.heap[w.heap.size + 1]? = some (.cells #[.slice none 0 0] 53 (0, 0))) ⟨rfl, rfl⟩ (fun i w2 _ hi => by
    obtain ⟨rfl, rfl⟩ := hi
    refine (names1_any w2 w.heap.size (w.heap.size + 1) (.pointer none) (blk_cell hb0) (R := fun l r v w'' => r = 2 ∧ Below w.heap.size w w'' ∧ w''.heap[w.heap.size + 1]? = some (.cells #[.slice none 0 0] 53 (0, 0))) ?_).mono ?_
    · refine (farList_nil w2).mono ?_
      rintro e w3 ⟨rfl, j1⟩
      have j2 := (j1.block _ (blk_lt hbx)).trans hbx
      refine ⟨[], 2, none, 0, _, rfl, j2, rfl, ?_, ?_⟩
      · have hk := Kept.setCell (Kept.of (hbel.trans (j1.mono hbel.size)) (R := fun k => k < w.heap.size) fun _ h => h) (p := ⟨w.heap.size + 1, 0, none⟩) (fun h => by simp at h; omega) (.slice none 0 0)
        exact Kept.below hk fun _ h => h
      · exact (blk_set (i := 0) j2 _).trans (by simp)
    · rintro e w3 ⟨l, r, va, vc, rfl, rfl, j1, j2⟩
      exact ⟨2, rfl, fun h => absurd h (by decide), fun _ => ⟨rfl, j1, j2⟩⟩)
  have HT := Lib.hid ht
  have HBEL := Lib.hid hbel
  have Hw1 := Lib.hid hw1
  clear ht hbel hw1 hb0 hbx
  go_enter Tryz.func23, Tryz.ntmps23
  go_wp2_with (go_at_call 32; rw [← Hw1.out]; (with_reducible refine HT.out.mono ?_); rintro e w2 ⟨r, rfl, hr⟩; obtain ⟨rfl, hB, hc⟩ : r = 2 ∧ Below w.heap.size w w2 ∧ w2.heap[w.heap.size + 1]? = some (.cells #[.slice none 0 0] 53 (0, 0)) := pick_second hr; have c0 : w2.cell? ⟨w.heap.size + 1, 0, none⟩ = some (.slice none 0 0) := blk_cell hc; clear hc)
  go_ret2
  exact ⟨rfl, hB⟩

set_option maxRecDepth 100000 in
theorem piece_nil (w : World) (s : ByteArray) (a c : Int) : Calls Tryz.prog 21 #[.pointer none, .string s, .int .i64 a, .int .i64 c] w fun e w' => e = .returned (.tuple #[.slice none 0 0, .int .i64 2]) ∧ Below w.heap.size w w' := by
  obtain ⟨w1, hw1⟩ : ∃ w1, w1 = ((((w.alloc (.cells #[.pointer none] 24)).alloc (.cells #[.string s] 9)).alloc (.cells #[.int .i64 a] 3)).alloc (.cells #[.int .i64 c] 3)).alloc (.cells #[.slice none 0 0] 31) := ⟨_, rfl⟩
  have hbel : Below w.heap.size w w1 := by subst hw1; exact (((((Below.refl _ _).alloc (Nat.le_refl _) _).alloc (by simp) _).alloc (by simp <;> omega) _).alloc (by simp <;> omega) _).alloc (by simp <;> omega) _
  have hbx : w1.heap[w.heap.size + 4]? = some (.cells #[.slice none 0 0] 31 (0, 0)) := by subst hw1; exact heap_new5 w _ _ _ _ _
  have hold : ∀ k, k ≤ w.heap.size + 3 → w1.heap[k]? = ((((w.alloc (.cells #[.pointer none] 24)).alloc (.cells #[.string s] 9)).alloc (.cells #[.int .i64 a] 3)).alloc (.cells #[.int .i64 c] 3)).heap[k]? := fun k hk => by subst hw1; exact Below.heap_alloc _ _ _ (by simp; omega)
  have hb3 : w1.heap[w.heap.size + 3]? = some (.cells #[.int .i64 c] 3 (0, 0)) := (hold _ (by omega)).trans (heap_new4 w _ _ _ _)
  have hb2 : w1.heap[w.heap.size + 2]? = some (.cells #[.int .i64 a] 3 (0, 0)) := (hold _ (by omega)).trans ((Below.heap_alloc _ _ _ (by simp)).trans (heap_new3 w _ _ _))
  have hb1 : w1.heap[w.heap.size + 1]? = some (.cells #[.string s] 9 (0, 0)) := (hold _ (by omega)).trans ((Below.heap_alloc _ _ _ (by simp)).trans ((Below.heap_alloc _ _ _ (by simp)).trans (heap_new2 w _ _)))
  have hb0 : w1.heap[w.heap.size]? = some (.cells #[.pointer none] 24 (0, 0)) := (hold _ (by omega)).trans ((Below.heap_alloc _ _ _ (by simp; omega)).trans ((Below.heap_alloc _ _ _ (by simp; omega)).trans ((Below.heap_alloc _ _ _ (by simp)).trans (heap_alloc_new w _))))
  have ht := tried_any 35 #[.pointer (some ⟨w.heap.size, 0, none⟩), .pointer (some ⟨w.heap.size + 1, 0, none⟩), .pointer (some ⟨w.heap.size + 2, 0, none⟩), .pointer (some ⟨w.heap.size + 3, 0, none⟩), .pointer (some ⟨w.heap.size + 4, 0, none⟩)] enters_piece1 w1 (fun i w' => i = 0 ∧ w' = w1) (fun r w' => r = 2 ∧ Below w.heap.size w w' ∧ w'.heap[w.heap.size + 4]? = some (.cells #[.slice none 0 0] 31 (0, 0))) ⟨rfl, rfl⟩ (fun i w2 _ hi => by
    obtain ⟨rfl, rfl⟩ := hi
    refine (piece1_any w2 w.heap.size (w.heap.size + 1) (w.heap.size + 2) (w.heap.size + 3) (w.heap.size + 4) (.pointer none) s a c (blk_cell hb0) (blk_cell hb1) (blk_cell hb2) (blk_cell hb3) (R := fun l r v w'' => r = 2 ∧ Below w.heap.size w w'' ∧ w''.heap[w.heap.size + 4]? = some (.cells #[.slice none 0 0] 31 (0, 0))) ?_).mono ?_
    · refine (farGet_nil w2 s a c).mono ?_
      rintro e w3 ⟨rfl, j1⟩
      have j2 := (j1.block _ (blk_lt hbx)).trans hbx
      refine ⟨[], 2, none, 0, _, rfl, j2, rfl, ?_, ?_⟩
      · have hk := Kept.setCell (Kept.of (hbel.trans (j1.mono hbel.size)) (R := fun k => k < w.heap.size) fun _ h => h) (p := ⟨w.heap.size + 4, 0, none⟩) (fun h => by simp at h; omega) (.slice none 0 0)
        exact Kept.below hk fun _ h => h
      · exact (blk_set (i := 0) j2 _).trans (by simp)
    · rintro e w3 ⟨l, r, va, vc, rfl, rfl, j1, j2⟩
      exact ⟨2, rfl, fun h => absurd h (by decide), fun _ => ⟨rfl, j1, j2⟩⟩)
  have HT := Lib.hid ht
  have HBEL := Lib.hid hbel
  have Hw1 := Lib.hid hw1
  clear ht hbel hw1 hb0 hb1 hb2 hb3 hold hbx
  go_enter Tryz.func21, Tryz.ntmps21
  go_wp2_with (go_at_call 32; rw [← Hw1.out]; (with_reducible refine HT.out.mono ?_); rintro e w2 ⟨r, rfl, hr⟩; obtain ⟨rfl, hB, hc⟩ : r = 2 ∧ Below w.heap.size w w2 ∧ w2.heap[w.heap.size + 4]? = some (.cells #[.slice none 0 0] 31 (0, 0)) := pick_second hr; have c0 : w2.cell? ⟨w.heap.size + 4, 0, none⟩ = some (.slice none 0 0) := blk_cell hc; clear hc)
  go_ret2
  exact ⟨rfl, hB⟩

set_option maxRecDepth 100000 in
theorem down_nil (w : World) (s : ByteArray) : Calls Tryz.prog 19 #[.pointer none, .string s] w fun e w' => e = .returned (.tuple #[.slice none 0 0, .int .i64 2]) ∧ Below w.heap.size w w' := by
  go_enter Tryz.func19, Tryz.ntmps19
  go_wp2_with (go_at_call 21; (with_reducible refine (piece_nil _ _ _ _).mono ?_); rintro e w2 ⟨rfl, B⟩)
  go_ret2
  exact ⟨rfl, B⟩
end Go.Proofs.YtljjgpjaleekdaaGreatDoor
