/-
  The walk of the statement DiskNil.
-/
import Derived.Test.YtaljebhiacglpaaDiskAwake
namespace Go.Proofs.Ytaljebhiacglpaa
open Go.RowKit

set_option maxRecDepth 100000 in
set_option linter.unusedSimpArgs false in
theorem make_nil (w : World) (s : ByteArray) : Calls Try.prog 26 #[.pointer none, .string s] w fun e w' => e = .returned (.int .i64 2) ∧ Below w.heap.size w w' := by
  go_enter Try.func26, Try.ntmps26
  go_wp2_with (go_at_call 56; refine (shut_nil _).mono ?_; rintro e w5 ⟨rfl, rfl⟩)
  go_ret
  exact ⟨rfl, by first | exact Below.refl _ _ | exact (Below.refl _ _).alloc (Nat.le_refl _) _ | exact ((Below.refl _ _).alloc (Nat.le_refl _) _).alloc (by simp) _ | exact (((Below.refl _ _).alloc (Nat.le_refl _) _).alloc (by simp) _).alloc (by simp; omega) _⟩

set_option maxRecDepth 100000 in
set_option linter.unusedSimpArgs false in
theorem write_nil (w : World) (s : ByteArray) (a : Int) (va : Option Addr) (vn vc : Nat) : Calls Try.prog 27 #[.pointer none, .string s, .int .i64 a, .slice va vn vc] w fun e w' => e = .returned (.int .i64 2) ∧ Below w.heap.size w w' := by
  go_enter Try.func27, Try.ntmps27
  go_wp2_with (go_at_call 56; refine (shut_nil _).mono ?_; rintro e w5 ⟨rfl, rfl⟩)
  go_ret
  exact ⟨rfl, by first | exact Below.refl _ _ | exact (Below.refl _ _).alloc (Nat.le_refl _) _ | exact ((Below.refl _ _).alloc (Nat.le_refl _) _).alloc (by simp) _ | exact (((Below.refl _ _).alloc (Nat.le_refl _) _).alloc (by simp) _).alloc (by simp; omega) _⟩

set_option maxRecDepth 100000 in
set_option linter.unusedSimpArgs false in
theorem safe_nil (w : World) (s : ByteArray) : Calls Try.prog 28 #[.pointer none, .string s] w fun e w' => e = .returned (.int .i64 2) ∧ Below w.heap.size w w' := by
  go_enter Try.func28, Try.ntmps28
  go_wp2_with (go_at_call 56; refine (shut_nil _).mono ?_; rintro e w5 ⟨rfl, rfl⟩)
  go_ret
  exact ⟨rfl, by first | exact Below.refl _ _ | exact (Below.refl _ _).alloc (Nat.le_refl _) _ | exact ((Below.refl _ _).alloc (Nat.le_refl _) _).alloc (by simp) _ | exact (((Below.refl _ _).alloc (Nat.le_refl _) _).alloc (by simp) _).alloc (by simp; omega) _⟩

set_option maxRecDepth 100000 in
set_option linter.unusedSimpArgs false in
theorem move_nil (w : World) (s s2 : ByteArray) : Calls Try.prog 32 #[.pointer none, .string s, .string s2] w fun e w' => e = .returned (.int .i64 2) ∧ Below w.heap.size w w' := by
  go_enter Try.func32, Try.ntmps32
  go_wp2_with (go_at_call 56; refine (shut_nil _).mono ?_; rintro e w5 ⟨rfl, rfl⟩)
  go_ret
  exact ⟨rfl, by first | exact Below.refl _ _ | exact (Below.refl _ _).alloc (Nat.le_refl _) _ | exact ((Below.refl _ _).alloc (Nat.le_refl _) _).alloc (by simp) _ | exact (((Below.refl _ _).alloc (Nat.le_refl _) _).alloc (by simp) _).alloc (by simp; omega) _⟩

set_option maxRecDepth 100000 in
set_option linter.unusedSimpArgs false in
theorem gone_nil (w : World) (s : ByteArray) : Calls Try.prog 35 #[.pointer none, .string s] w fun e w' => e = .returned (.int .i64 2) ∧ Below w.heap.size w w' := by
  go_enter Try.func35, Try.ntmps35
  go_wp2_with (go_at_call 56; refine (shut_nil _).mono ?_; rintro e w5 ⟨rfl, rfl⟩)
  go_ret
  exact ⟨rfl, by first | exact Below.refl _ _ | exact (Below.refl _ _).alloc (Nat.le_refl _) _ | exact ((Below.refl _ _).alloc (Nat.le_refl _) _).alloc (by simp) _ | exact (((Below.refl _ _).alloc (Nat.le_refl _) _).alloc (by simp) _).alloc (by simp; omega) _⟩

set_option maxRecDepth 100000 in
set_option linter.unusedSimpArgs false in
theorem names_nil (w : World)  : Calls Try.prog 29 #[.pointer none] w fun e w' => e = .returned (.int .i64 2) ∧ Below w.heap.size w w' := by
  go_enter Try.func29, Try.ntmps29
  go_wp2_with (go_at_call 56; refine (shut_nil _).mono ?_; rintro e w5 ⟨rfl, rfl⟩)
  go_ret
  exact ⟨rfl, by first | exact Below.refl _ _ | exact (Below.refl _ _).alloc (Nat.le_refl _) _ | exact ((Below.refl _ _).alloc (Nat.le_refl _) _).alloc (by simp) _ | exact (((Below.refl _ _).alloc (Nat.le_refl _) _).alloc (by simp) _).alloc (by simp; omega) _⟩

set_option maxRecDepth 100000 in
set_option linter.unusedSimpArgs false in
theorem read_nil (w : World) (s : ByteArray) (a n : Int) : Calls Try.prog 33 #[.pointer none, .string s, .int .i64 a, .int .i64 n] w fun e w' => e = .returned (.tuple #[.slice none 0 0, .int .i64 2]) ∧ Below w.heap.size w w' := by
  go_enter Try.func33, Try.ntmps33
  go_wp2_with (go_at_call 56; refine (shut_nil _).mono ?_; rintro e w5 ⟨rfl, rfl⟩)
  go_ret2
  exact ⟨rfl, by first | exact Below.refl _ _ | exact (Below.refl _ _).alloc (Nat.le_refl _) _ | exact ((Below.refl _ _).alloc (Nat.le_refl _) _).alloc (by simp) _ | exact (((Below.refl _ _).alloc (Nat.le_refl _) _).alloc (by simp) _).alloc (by simp; omega) _⟩

set_option maxRecDepth 100000 in
set_option linter.unusedSimpArgs false in
theorem size_nil (w : World) (s : ByteArray) : Calls Try.prog 34 #[.pointer none, .string s] w fun e w' => e = .returned (.tuple #[.int .i64 0, .bool false]) ∧ Below w.heap.size w w' := by
  go_enter Try.func34, Try.ntmps34
  go_wp2_with (go_at_call 56; refine (shut_nil _).mono ?_; rintro e w5 ⟨rfl, rfl⟩)
  go_ret2
  exact ⟨rfl, by first | exact Below.refl _ _ | exact (Below.refl _ _).alloc (Nat.le_refl _) _ | exact ((Below.refl _ _).alloc (Nat.le_refl _) _).alloc (by simp) _ | exact (((Below.refl _ _).alloc (Nat.le_refl _) _).alloc (by simp) _).alloc (by simp; omega) _⟩

set_option maxRecDepth 100000 in
set_option linter.unusedSimpArgs false in
theorem files_nil (w : World)  : Calls Try.prog 20 #[.pointer none] w fun e w' => e = .returned (.slice none 0 0) ∧ Below w.heap.size w w' := by
  go_enter Try.func20, Try.ntmps20
  go_wp2_with (go_at_call 56; refine (shut_nil _).mono ?_; rintro e w5 ⟨rfl, rfl⟩)
  go_ret
  exact ⟨rfl, by first | exact Below.refl _ _ | exact (Below.refl _ _).alloc (Nat.le_refl _) _ | exact ((Below.refl _ _).alloc (Nat.le_refl _) _).alloc (by simp) _ | exact (((Below.refl _ _).alloc (Nat.le_refl _) _).alloc (by simp) _).alloc (by simp; omega) _⟩

set_option maxRecDepth 100000 in
set_option linter.unusedSimpArgs false in
theorem copy_nil (w : World)  : Calls Try.prog 17 #[.pointer none] w fun e w' => e = .returned (.pointer none) ∧ Below w.heap.size w w' := by
  go_enter Try.func17, Try.ntmps17
  go_wp2_with (go_at_call 56; refine (shut_nil _).mono ?_; rintro e w5 ⟨rfl, rfl⟩)
  go_ret
  exact ⟨rfl, by first | exact Below.refl _ _ | exact (Below.refl _ _).alloc (Nat.le_refl _) _ | exact ((Below.refl _ _).alloc (Nat.le_refl _) _).alloc (by simp) _ | exact (((Below.refl _ _).alloc (Nat.le_refl _) _).alloc (by simp) _).alloc (by simp; omega) _⟩

set_option maxRecDepth 100000 in
set_option linter.unusedSimpArgs false in
theorem fall_nil (w : World) (room crash names : Int) (done : Bool) : Calls Try.prog 30 #[.pointer none, .agg #[.int .i64 room, .int .i64 crash, .bool done, .slice none 0 0, .int .i64 names]] w fun e w' => e = .returned (.tuple #[]) ∧ Below w.heap.size w w' := by
  go_enter Try.func30, Try.ntmps30
  go_wp2_with (go_at_call 56; refine (shut_nil _).mono ?_; rintro e w5 ⟨rfl, rfl⟩)
  refine bodyPost_ret (results_none rfl _ _ _) rfl ?_
  exact ⟨rfl, by first | exact Below.refl _ _ | exact (Below.refl _ _).alloc (Nat.le_refl _) _ | exact ((Below.refl _ _).alloc (Nat.le_refl _) _).alloc (by simp) _ | exact (((Below.refl _ _).alloc (Nat.le_refl _) _).alloc (by simp) _).alloc (by simp; omega) _⟩

set_option maxRecDepth 100000 in
set_option maxHeartbeats 4000000 in
set_option linter.unusedSimpArgs false in
theorem diskNil_walk (s : ByteArray) (a n : Int) (v : Value) (l : List UInt8) (W : World) (_ : s.size ≤ maxLen) (_ : (Lit.int .i64 a).wf = true) (_ : (Lit.int .i64 n).wf = true) (hv : RdB W v l) :
    Calls Try.prog 9 #[.string s, .int .i64 a, .int .i64 n, v] W fun e w' => e = .returned (.bool true) ∧ Below W.heap.size W w' := by
  obtain ⟨va, vc, rfl, _, _⟩ := RdB.form hv
  clear hv
  have hq1 : ∀ w : World, (binOp .eql 28 (.pointer none) (.pointer none)).run Try.prog w = .ok (.bool true) w := fun w => by kernel_rfl
  go_enter Try.func9, Try.ntmps9
  go_wp2_with (first | (go_at_call 30; (with_reducible refine (fall_nil _ _ _ _ _).mono ?_); rintro e w1 ⟨rfl, B1⟩) | (go_at_call 33; (with_reducible refine (read_nil _ _ _ _).mono ?_); rintro e w2 ⟨rfl, B2⟩) | (go_at_call 34; (with_reducible refine (size_nil _ _).mono ?_); rintro e w3 ⟨rfl, B3⟩) | (go_at_call 26; (with_reducible refine (make_nil _ _).mono ?_); rintro e w4 ⟨rfl, B4⟩) | (go_at_call 27; (with_reducible refine (write_nil _ _ _ _ _ _).mono ?_); rintro e w5 ⟨rfl, B5⟩) | (go_at_call 28; (with_reducible refine (safe_nil _ _).mono ?_); rintro e w6 ⟨rfl, B6⟩) | (go_at_call 32; (with_reducible refine (move_nil _ _ _).mono ?_); rintro e w7 ⟨rfl, B7⟩) | (go_at_call 35; (with_reducible refine (gone_nil _ _).mono ?_); rintro e w8 ⟨rfl, B8⟩) | (go_at_call 29; (with_reducible refine (names_nil _).mono ?_); rintro e w9 ⟨rfl, B9⟩) | (go_at_call 20; (with_reducible refine (files_nil _).mono ?_); rintro e w10 ⟨rfl, B10⟩) | (go_at_call 22; (with_reducible refine (down_nil _).mono ?_); rintro e w11 ⟨rfl, rfl⟩) | (go_at_call 24; (with_reducible refine (calls_nil _).mono ?_); rintro e w12 ⟨rfl, rfl⟩) | (go_at_call 17; (with_reducible refine (copy_nil _).mono ?_); rintro e w13 ⟨rfl, B13⟩) | (go_at_call 31; (with_reducible refine (num1_any _ 2).mono ?_); rintro e w14 ⟨rfl, rfl⟩) | (go_at_call 14; (with_reducible refine (awake4_any _).mono ?_); rintro e w15 ⟨rfl, B15⟩))
  go_ret
  refine ⟨rfl, ?_⟩
  exact belowT B1 (belowT B2 (belowT B3 (belowT B4 (belowT B5 (belowT B6 (belowT B7 (belowT B8 (belowT B9 (belowT B10 (belowT B13 B15))))))))))
end Go.Proofs.Ytaljebhiacglpaa
