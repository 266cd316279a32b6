/-
  What replay.follows does, for every list of batches and every batch.
-/
import Derived.Test.YtpbmacbogmnokaaRepMath
import Derived.Test.YtpbmacbogmnokaaRegion
import Derived.Deep.QuietTactic
import Derived.BigQuiet
namespace Go.Proofs.Ytpbmacbogmnokaa
open Go.RowKit

theorem map_getD (xs : List BV) (i : Nat) : (xs.map (·.1)).getD i default = (xs.getD i BV.none_).1 := by
  simp only [List.getD, List.getElem?_map]
  cases xs[i]? <;> rfl

theorem goesOn_map {xs : List BV} {m : Nat} (h : xs.length = m + 1) (b : Bat) : goesOn (xs.map (·.1)) b = (b.s == (xs.getD m BV.none_).1.s + 1) := by
  rw [goesOn_at (by simp; omega), map_getD, List.length_map, h]
  rfl

set_option maxRecDepth 100000 in
set_option maxHeartbeats 2000000 in
theorem follows_any (v : Value) (xs : List BV) (b : Bat) (c : Value) (w : World) (hv : RdBs w v xs) (hx : ∀ x ∈ xs, x.1.s ≤ 9007199254740992) (hn : xs.length ≤ 1000000000) :
    Calls Try.prog 18 #[v, batV b.s c] w fun e w' => e = .returned (.bool (goesOn (xs.map (·.1)) b)) ∧ Below w.heap.size w w' := by
  obtain ⟨a, cap, rfl, hc1, hc2⟩ := hv.form
  unfold maxLen at hc2
  obtain ⟨wB, hwB⟩ : ∃ wB, wB = w.alloc (.cells #[.int .i64 b.s, c] 24) := ⟨_, rfl⟩
  have e0 : wB.cell? ⟨w.heap.size, 0, none⟩ = some (.int .i64 b.s) := by rw [hwB]; go_simp
  have hB : Below w.heap.size w wB := by rw [hwB]; exact (Below.refl _ _).alloc (Nat.le_refl _) _
  have HWB := Lib.hid hwB
  have HB := Lib.hid hB
  cases hm : xs.length with
  | zero =>
    have hnil : xs = [] := List.eq_nil_of_length_eq_zero hm
    subst hnil
    clear hv hx hB hwB
    have g1 : (((0 : Nat) : Int) == 0) = true := by decide
    go_enter Try.func18, Try.ntmps18
    go_wp2
    rw [← HWB.out]
    go_quiet (fail)
    go_wp2
    go_ret
    exact ⟨rfl, below_drewN HB.out _⟩
  | succ m =>
    have HG := Lib.hid (goesOn_map hm b)
    have hmx : m < xs.length := by omega
    obtain ⟨bb, off, pa, pc, rfl, hbb, _, d0, d1, _, hwf⟩ := hv.at_ (i := m) hmx
    have hs := hx _ (bvGet hmx)
    have i0 := (hB.cell (p := ⟨bb, off + m * 2, none⟩) hbb).trans d0
    clear d0 d1 hv hx hB hwB
    generalize (xs.getD m BV.none_).1.s = s at *
    rw [HG.out]
    have g1 : (((m + 1 : Nat) : Int) == 0) = false := by rw [beq_eq_false_iff_ne]; omega
    have g2 : IntKind.i64.wrap (m : Int) = (m : Int) := IntWalk.i64_in _ (by omega)
    have g6 : ((m : Int) + 1 == 0) = false := by rw [beq_eq_false_iff_ne]; omega
    have hw2 : -9223372036854775808 ≤ s ∧ s ≤ 9223372036854775807 := by simpa [Lit.wf, IntKind.min, IntKind.max, IntKind.signed, IntKind.bits] using hwf
    have g3 : IntKind.i64.wrap (s + 1) = s + 1 := IntWalk.i64_in _ (by omega)
    have g4 : ((m : Int)) < ((m + 1 : Nat) : Int) := by omega
    have g5 : m < m + 1 := by omega
    go_enter Try.func18, Try.ntmps18
    go_wp2
    rw [← HWB.out]
    clear hm hmx hc1 hc2 hn
    go_quiet (fail)
    go_wp2
    go_ret
    exact ⟨rfl, below_drewN HB.out _⟩
end Go.Proofs.Ytpbmacbogmnokaa
