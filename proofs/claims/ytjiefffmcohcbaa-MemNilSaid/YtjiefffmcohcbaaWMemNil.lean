/-
  The walk of MemNil: a memory that there is not has nothing.
-/
import Derived.Test.YtjiefffmcohcbaaMemOn
namespace Go.Proofs.Ytjiefffmcohcbaa
open Go.RowKit

set_option maxRecDepth 100000 in
theorem nil_get (w : World) (u : ByteArray) (s : Int) : Calls Try.prog 16 #[.pointer none, .string u, .int .i64 s] w fun e w' => e = .returned (ansN none) ∧ Below w.heap.size w w' := by
  go_enter Try.func16, Try.ntmps16
  go_wp2
  refine bodyPost_ret (results_row_tmp rfl _ _ w.heap.size 34 #[.string ⟨#[]⟩, .int .i64 0, .int .i64 0, .string ⟨#[]⟩] (0, 0) _ rfl (heap_alloc_new w _) Try.underlying34 rfl (by kernel_rfl)) rfl ?_
  exact ⟨rfl, (Below.refl _ _).alloc (Nat.le_refl _) _⟩

set_option maxRecDepth 100000 in
theorem nil_add (w : World) (e : Ent) (h : Int) : Calls Try.prog 9 #[.pointer none, .agg #[.string e.u, .int .i64 e.s, .int .i64 e.k, .string e.v], .int .i64 h] w fun r w' => r = .returned (.bool false) ∧ Below w.heap.size w w' := by
  go_enter Try.func9, Try.ntmps9
  go_wp2
  go_ret
  exact ⟨rfl, (Below.refl _ _).alloc (Nat.le_refl _) _⟩

set_option maxRecDepth 100000 in
theorem nil_all (w : World) : Calls Try.prog 15 #[.pointer none] w fun r w' => r = .returned (.slice none 0 0) ∧ w = w' := by
  go_enter Try.func15, Try.ntmps15
  go_wp2
  go_ret
  exact ⟨rfl, rfl⟩

theorem nil_len (w : World) : Calls Try.prog 11 #[.pointer none] w fun r w' => r = .returned (.int .i64 0) ∧ w = w' := by
  go_enter Try.func11, Try.ntmps11
  go_wp2
  go_ret
  exact ⟨rfl, rfl⟩

theorem nil_size (w : World) : Calls Try.prog 12 #[.pointer none] w fun r w' => r = .returned (.int .i64 0) ∧ w = w' := by
  go_enter Try.func12, Try.ntmps12
  go_wp2
  go_ret
  exact ⟨rfl, rfl⟩

set_option maxRecDepth 100000 in
set_option maxHeartbeats 4000000 in
theorem memNil_walk (e : Ent) (h n : Int) (W : World) (_he : e.fits) (_wh : (Lit.int .i64 h).wf = true) (_wn : (Lit.int .i64 n).wf = true) :
    Calls Try.prog 6 #[.agg #[.string e.u, .int .i64 e.s, .int .i64 e.k, .string e.v], .int .i64 h, .int .i64 n] W fun r w' => r = .returned (.bool true) ∧ Below W.heap.size W w' := by
  go_enter Try.func6, Try.ntmps6
  go_wp2_with (first | (go_at_call 16; (refine (nil_get _ _ _).mono ?_); rintro r w1 ⟨rfl, hb⟩; (have hb1 := belowT ((Below.refl _ _).alloc (Nat.le_refl _) _) hb); (have hs1 := (hb.block W.heap.size (by simp)).trans (heap_alloc_new W (.cells #[.string e.u, .int .i64 e.s, .int .i64 e.k, .string e.v] 34))); (have z0 := blk_cell (i := 0) hs1); (have z1 := blk_cell (i := 1) hs1); (have z2 := blk_cell (i := 2) hs1); (have z3 := blk_cell (i := 3) hs1); (have hl1 := blk_lt hs1); (have HB1 := Lib.hid hb1); clear hs1 hb hb1; unfold ansN) | (go_at_call 9; (refine (nil_add _ e _).mono ?_); rintro r w2 ⟨rfl, hb⟩; (have HB2 := Lib.hid (belowT (HB1.out.alloc HB1.out.size _) hb)); clear hb) | (go_at_call 15; (refine (nil_all _).mono ?_); rintro r w9 ⟨rfl, rfl⟩) | (go_at_call 11; (refine (nil_len _).mono ?_); rintro r w9 ⟨rfl, rfl⟩) | (go_at_call 12; (refine (nil_size _).mono ?_); rintro r w9 ⟨rfl, rfl⟩) | (go_at_call 7; (refine (awake10_any _).mono ?_); rintro r w3 ⟨rfl, hb3⟩))
  go_ret
  exact ⟨rfl, belowT HB2.out hb3⟩
end Go.Proofs.Ytjiefffmcohcbaa
