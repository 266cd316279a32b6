/-
  What is landed of package filter: the way of a key through the bits; how many bytes there are.
-/
import Derived.Test.YtlgfodlimehppaaFilP
import Derived.Test.YtlgfodlimehppaaRegion
import Derived.Test.YtlgfodlimehppaaRegion
import Derived.Test.YtlgfodlimehppaaCells
namespace Go.Proofs.Ytlgfodlimehppaa
open Go.RowKit Ieee

theorem or_comm_u32 (a b : Int) : bits .or .u32 a b = bits .or .u32 b a := by
  show IntKind.u32.wrap ((BitVec.ofInt 32 a ||| BitVec.ofInt 32 b).toNat : Int) = IntKind.u32.wrap ((BitVec.ofInt 32 b ||| BitVec.ofInt 32 a).toNat : Int)
  rw [BitVec.or_comm]

set_option maxRecDepth 100000 in
theorem rotate_any {h : Nat} (hh : h < 4294967296) (w : World) : Calls Try.prog 35 #[.int .u32 (h : Int), .int .i64 (-17)] w fun e w' => e = .returned (.int .u32 ((rot17 h : Nat) : Int)) ∧ w = w' := by
  have hr := (or_comm_u32 _ _).trans (rot17_bits hh)
  have h31 : bits .and .u64 (IntKind.u64.wrap (-17)) 31 = 15 := by decide
  clear hh
  go_enter Try.func35, Try.ntmps35
  go_wp2
  go_ret
  exact ⟨rfl, rfl⟩

/-- A way: where it begins, and its step. -/
def wayV (h : Nat) : Value := .agg #[.int .u32 (h : Int), .int .u32 ((rot17 h : Nat) : Int)]

set_option maxRecDepth 100000 in
theorem walkOf_any (key : ByteArray) (hk : key.size ≤ maxLen) (w : World) : Calls Try.prog 24 #[.string key] w fun e w' => e = .returned (wayV (hashL key.data.toList)) ∧ Below w.heap.size w w' := by
  have HH := Lib.hid (hash_any key hk)
  have hh := hashL_lt key.data.toList
  generalize hashL key.data.toList = h at *
  have hhm : IntKind.u32.wrap (h : Int) = (h : Int) := by rw [IntKind.wrap_u32']; omega
  have HR := Lib.hid (rotate_any hh)
  clear hh
  unfold wayV
  go_enter Try.func24, Try.ntmps24
  go_wp2_with (first | (go_at_call 34; (refine (HH.out _).mono ?_); rintro e w1 ⟨rfl, rfl⟩) | (go_at_call 35; (refine (HR.out _).mono ?_); rintro e w1 ⟨rfl, rfl⟩))
  refine bodyPost_ret (results_cell_row rfl _ _ w.heap.size 44 #[.int .u32 (h : Int), .int .u32 ((rot17 h : Nat) : Int)] (0, 0) _ rfl ?hg Try.underlying44 rfl (by kernel_rfl)) rfl ?_
  case hg => exact heap_alloc_new w _
  exact ⟨rfl, (Below.refl _ _).alloc (Nat.le_refl _) _⟩

theorem two_u8 (x : Nat) : IntKind.u8.wrap ((2 : Int) ^ ((x : Int) % 8).toNat) = 2 ^ (x % 8) := by
  rw [show ((x : Int) % 8).toNat = x % 8 by omega]
  have h : x % 8 < 8 := Nat.mod_lt _ (by omega)
  generalize x % 8 = t at *
  rw [IntKind.wrap_u8]
  have : ∀ t : Fin 8, ((2 : Int) ^ t.val) % 256 = 2 ^ t.val := by decide
  exact this ⟨t, h⟩

set_option maxRecDepth 100000 in
theorem spot_any {h m j : Nat} (hh : h < 4294967296) (hj : j ≤ 12) (hm1 : 0 < m) (hm2 : m ≤ 10000000) (w : World) : Calls Try.prog 25 #[wayV h, .int .i64 (j : Int), .int .i64 (m : Int)] w fun e w' => e = .returned (.tuple #[.int .i64 ((bitX h m j / 8 : Nat) : Int), .int .u8 ((2 ^ (bitX h m j % 8) : Nat) : Int)]) ∧ Below w.heap.size w w' := by
  have hx := bitX_int h m j
  have hxl := bitX_lt (h := h) (m := m) (j := j) (by omega)
  have hrl := rot17_lt hh
  unfold wayV
  generalize rot17 h = d at *
  generalize bitX h m j = x at *
  go_enter Try.func25, Try.ntmps25
  go_wp2
  refine wp_region_plan [(true, 0), (true, 1), (true, 2), (true, 3), (true, 4), (true, 5), (true, 6)] (by kernel_rfl) (by kernel_rfl) (by kernel_rfl) (by kernel_rfl) (by kernel_rfl) ?_
  simp only [planO, List.drop_succ_cons, List.drop_zero]
  refine PlanO.take (v := ?v0) (by kernel_rfl) ?y0 ?r0
  case y0 => (intro wz hz; go_simp; try with_reducible rfl)
  (try simp only [Act.put, List.setIfInBounds_toArray, List.set_cons_zero, List.set_cons_succ])
  refine PlanO.take (v := .int .i64 ((x / 8 : Nat) : Int)) (by kernel_rfl) ?y1 ?r1
  case y1 => (intro wz hz; go_simp; exact IntWalk.i64_in _ (by omega))
  (try simp only [Act.put, List.setIfInBounds_toArray, List.set_cons_zero, List.set_cons_succ])
  refine PlanO.take (v := ?v2) (by kernel_rfl) ?y2 ?r2
  case y2 => (intro wz hz; go_simp; try with_reducible rfl)
  (try simp only [Act.put, List.setIfInBounds_toArray, List.set_cons_zero, List.set_cons_succ])
  refine PlanO.take (v := .int .i64 ((x % 8 : Nat) : Int)) (by kernel_rfl) ?y3 ?r3
  case y3 => (intro wz hz; go_simp; exact Int.tmod_eq_emod_of_nonneg (by omega))
  (try simp only [Act.put, List.setIfInBounds_toArray, List.set_cons_zero, List.set_cons_succ])
  refine PlanO.take (v := .int .u8 ((2 ^ (x % 8) : Nat) : Int)) (by kernel_rfl) ?y4 ?r4
  case y4 => (intro wz hz; go_simp; exact two_u8 x)
  (try simp only [Act.put, List.setIfInBounds_toArray, List.set_cons_zero, List.set_cons_succ])
  refine PlanO.take (v := ?v5) (by kernel_rfl) ?y5 ?r5
  case y5 => (intro wz hz; go_simp; try with_reducible rfl)
  (try simp only [Act.put, List.setIfInBounds_toArray, List.set_cons_zero, List.set_cons_succ])
  refine PlanO.take (v := ?v6) (by kernel_rfl) ?y6 ?r6
  case y6 => (intro wz hz; go_simp; try with_reducible rfl)
  (try simp only [Act.put, List.setIfInBounds_toArray, List.set_cons_zero, List.set_cons_succ])
  refine PlanO.done (NoPanic.normal ?_)
  go_wp2
  go_ret2
  exact ⟨by simp, ((Below.refl _ _).alloc (Nat.le_refl _) _).drew⟩
end Go.Proofs.Ytlgfodlimehppaa
