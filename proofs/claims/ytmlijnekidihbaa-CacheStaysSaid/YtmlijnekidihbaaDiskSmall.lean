/-
  The disk's small functions: shut, part, isName, begin, New, Down, Calls.
-/
import Derived.Test.YtmlijnekidihbaaDiskHeap
import Derived.Test.YtmlijnekidihbaaTwo
namespace Go.Proofs.Ytmlijnekidihbaa
open Go.RowKit

set_option maxRecDepth 100000 in
theorem shut_any (w : World) (p : Nat) (down : Bool) (h : w.cell? ⟨p, 4, none⟩ = some (.bool down)) :
    Calls Try.prog 47 #[.pointer (some ⟨p, 0, none⟩)] w fun e w' => e = .returned (.int .i64 (if down then 7 else 0)) ∧ w = w' := by
  cases down
  all_goals
    go_enter Try.func47, Try.ntmps47
    go_wp2
    go_ret
    exact ⟨rfl, rfl⟩

set_option maxRecDepth 100000 in
theorem shut_nil (w : World) :
    Calls Try.prog 47 #[.pointer none] w fun e w' => e = .returned (.int .i64 2) ∧ w = w' := by
  go_enter Try.func47, Try.ntmps47
  go_wp2
  go_ret
  exact ⟨rfl, rfl⟩

/-- How many of all are kept by a number of a plan. -/
theorem part_any (w : World) (n : Int) (all : Nat) (hn : (Lit.int .i64 n).wf = true) (ha : all < 1000000000) :
    Calls Try.prog 31 #[.int .i64 n, .int .i64 (all : Int)] w fun e w' => e = .returned (.int .i64 (rest n all : Int)) ∧ w = w' := by
  by_cases h : n < 0
  · go_enter Try.func31, Try.ntmps31
    go_wp2
    go_ret
    refine ⟨?_, rfl⟩
    have : rest n all = 0 := by unfold rest; rw [show (max 0 n).toNat = 0 by omega]; simp
    rw [this]; rfl
  · obtain ⟨m, rfl⟩ := Int.eq_ofNat_of_zero_le (show 0 ≤ n by omega)
    go_enter Try.func31, Try.ntmps31
    go_wp2
    go_ret
    refine ⟨?_, rfl⟩
    have : (m : Int) % ((all : Int) + 1) = (rest (m : Int) all : Nat) := by
      unfold rest
      rw [show (max 0 (m : Int)).toNat = m by omega]
      push_cast
      rfl
    exact congrArg (fun z => Ending.returned (.int .i64 z)) this
/-! ### begin -/

set_option maxRecDepth 100000 in
set_option maxHeartbeats 2000000 in
set_option linter.unusedSimpArgs false in
theorem begin_any (w : World) (p : Nat) (c0 c1 c2 c3 c4 c5 c6 c7 c8 : Value) (room crash names : Int) (done : Bool) (kv : Value) (h : w.heap[p]? = some (.cells #[c0, c1, c2, c3, c4, c5, c6, c7, c8] 60 (0, 0))) :
    Calls Try.prog 19 #[.pointer (some ⟨p, 0, none⟩), .agg #[.int .i64 room, .int .i64 crash, .bool done, kv, .int .i64 names]] w fun e w' => e = .returned (.tuple #[]) ∧
      w'.heap[p]? = some (.cells #[.int .i64 room, .int .i64 crash, .bool done, .int .i64 0, .bool false, c5, c6, c7, c8] 60 (0, 0)) ∧ Kept (fun k => k < w.heap.size ∧ k ≠ p) w w' := by
  have hp := blk_lt h
  obtain ⟨B, hB⟩ : ∃ B, w.heap.size = B := ⟨_, rfl⟩
  have hpB : p < B := by omega
  have hne : B ≠ p := by omega
  have hne' : p ≠ B := by omega
  obtain ⟨w1, hw1⟩ : ∃ w1, w1 = (w.alloc (.cells #[.int .i64 room, .int .i64 crash, .bool done, kv, .int .i64 names] 30)).drew := ⟨_, rfl⟩
  have hbx : w1.heap[B]? = some (.cells #[.int .i64 room, .int .i64 crash, .bool done, kv, .int .i64 names] 30 (0, 0)) := by
    subst hB; subst hw1
    exact heap_alloc_new w _
  have h1 : w1.heap[p]? = some (.cells #[c0, c1, c2, c3, c4, c5, c6, c7, c8] 60 (0, 0)) := by
    subst hw1
    exact (Below.heap_alloc _ _ _ hp).trans h
  have hk : Kept (fun k => k < w.heap.size ∧ k ≠ p) w w1 := by
    subst hw1
    exact ((Kept.refl _ _).alloc (fun k hk => hk.1) _).drew
  have d0 : w1.cell? ⟨p, 0, none⟩ = some c0 := blk_cell h1
  have d1 : w1.cell? ⟨p, 1, none⟩ = some c1 := blk_cell h1
  have d2 : w1.cell? ⟨p, 2, none⟩ = some c2 := blk_cell h1
  have d3 : w1.cell? ⟨p, 3, none⟩ = some c3 := blk_cell h1
  have d4 : w1.cell? ⟨p, 4, none⟩ = some c4 := blk_cell h1
  have f0 : w1.frozen? ⟨p, 0, none⟩ = false := blk_free h1
  have f1 : w1.frozen? ⟨p, 1, none⟩ = false := blk_free h1
  have f2 : w1.frozen? ⟨p, 2, none⟩ = false := blk_free h1
  have f3 : w1.frozen? ⟨p, 3, none⟩ = false := blk_free h1
  have f4 : w1.frozen? ⟨p, 4, none⟩ = false := blk_free h1
  have hw2 := Lib.hid hw1
  clear hw1
  have hB2 := Lib.hid hB
  clear hB
  go_enter Try.func19, Try.ntmps19
  go_wp2
  refine wp_region_two (fun wz => wz.heap[B]? = some (.cells #[.int .i64 room, .int .i64 crash, .bool done, kv, .int .i64 names] 30 (0, 0))) (fun wz => wz.heap[B]? = some (.cells #[.int .i64 room, .int .i64 crash, .bool done, kv, .int .i64 names] 30 (0, 0))) [(0, 0), (0, 1), (0, 2), (0, 3), (0, 4), (0, 5), (0, 6), (0, 7), (0, 8), (0, 9), (0, 10), (2, 11), (0, 12), (0, 13), (2, 14), (0, 15), (0, 16), (2, 17)] [] (by kernel_rfl) (by kernel_rfl) (by kernel_rfl) (by kernel_rfl) (by kernel_rfl) (by rw [← hw2.out]; exact hbx) (by rw [← hw2.out]; exact hbx) ?_
  simp only [planT, List.drop_succ_cons, List.drop_zero]
  rw [hB2.out, ← hw2.out]
  refine PlanT.take0 (v := ?v0) (by kernel_rfl) ?y0 ?r0
  case y0 => (intro wz hz; have q0 : wz.cell? ⟨B, 0, none⟩ = some (.int .i64 room) := blk_cell hz; have q1 : wz.cell? ⟨B, 1, none⟩ = some (.int .i64 crash) := blk_cell hz; have q2 : wz.cell? ⟨B, 2, none⟩ = some (.bool done) := blk_cell hz; go_simp; try with_reducible rfl)
  (try simp only [Act.put, List.setIfInBounds_toArray, List.set_cons_zero, List.set_cons_succ])
  refine PlanT.take0 (v := ?v1) (by kernel_rfl) ?y1 ?r1
  case y1 => (intro wz hz; have q0 : wz.cell? ⟨B, 0, none⟩ = some (.int .i64 room) := blk_cell hz; have q1 : wz.cell? ⟨B, 1, none⟩ = some (.int .i64 crash) := blk_cell hz; have q2 : wz.cell? ⟨B, 2, none⟩ = some (.bool done) := blk_cell hz; go_simp; try with_reducible rfl)
  (try simp only [Act.put, List.setIfInBounds_toArray, List.set_cons_zero, List.set_cons_succ])
  refine PlanT.take0 (v := ?v2) (by kernel_rfl) ?y2 ?r2
  case y2 => (intro wz hz; have q0 : wz.cell? ⟨B, 0, none⟩ = some (.int .i64 room) := blk_cell hz; have q1 : wz.cell? ⟨B, 1, none⟩ = some (.int .i64 crash) := blk_cell hz; have q2 : wz.cell? ⟨B, 2, none⟩ = some (.bool done) := blk_cell hz; go_simp; try with_reducible rfl)
  (try simp only [Act.put, List.setIfInBounds_toArray, List.set_cons_zero, List.set_cons_succ])
  refine PlanT.take0 (v := ?v3) (by kernel_rfl) ?y3 ?r3
  case y3 => (intro wz hz; have q0 : wz.cell? ⟨B, 0, none⟩ = some (.int .i64 room) := blk_cell hz; have q1 : wz.cell? ⟨B, 1, none⟩ = some (.int .i64 crash) := blk_cell hz; have q2 : wz.cell? ⟨B, 2, none⟩ = some (.bool done) := blk_cell hz; go_simp; try with_reducible rfl)
  (try simp only [Act.put, List.setIfInBounds_toArray, List.set_cons_zero, List.set_cons_succ])
  refine PlanT.take0 (v := ?v4) (by kernel_rfl) ?y4 ?r4
  case y4 => (intro wz hz; have q0 : wz.cell? ⟨B, 0, none⟩ = some (.int .i64 room) := blk_cell hz; have q1 : wz.cell? ⟨B, 1, none⟩ = some (.int .i64 crash) := blk_cell hz; have q2 : wz.cell? ⟨B, 2, none⟩ = some (.bool done) := blk_cell hz; go_simp; try with_reducible rfl)
  (try simp only [Act.put, List.setIfInBounds_toArray, List.set_cons_zero, List.set_cons_succ])
  refine PlanT.take0 (v := ?v5) (by kernel_rfl) ?y5 ?r5
  case y5 => (intro wz hz; have q0 : wz.cell? ⟨B, 0, none⟩ = some (.int .i64 room) := blk_cell hz; have q1 : wz.cell? ⟨B, 1, none⟩ = some (.int .i64 crash) := blk_cell hz; have q2 : wz.cell? ⟨B, 2, none⟩ = some (.bool done) := blk_cell hz; go_simp; try with_reducible rfl)
  (try simp only [Act.put, List.setIfInBounds_toArray, List.set_cons_zero, List.set_cons_succ])
  refine PlanT.take0 (v := ?v6) (by kernel_rfl) ?y6 ?r6
  case y6 => (intro wz hz; have q0 : wz.cell? ⟨B, 0, none⟩ = some (.int .i64 room) := blk_cell hz; have q1 : wz.cell? ⟨B, 1, none⟩ = some (.int .i64 crash) := blk_cell hz; have q2 : wz.cell? ⟨B, 2, none⟩ = some (.bool done) := blk_cell hz; go_simp; try with_reducible rfl)
  (try simp only [Act.put, List.setIfInBounds_toArray, List.set_cons_zero, List.set_cons_succ])
  refine PlanT.take0 (v := ?v7) (by kernel_rfl) ?y7 ?r7
  case y7 => (intro wz hz; have q0 : wz.cell? ⟨B, 0, none⟩ = some (.int .i64 room) := blk_cell hz; have q1 : wz.cell? ⟨B, 1, none⟩ = some (.int .i64 crash) := blk_cell hz; have q2 : wz.cell? ⟨B, 2, none⟩ = some (.bool done) := blk_cell hz; go_simp; try with_reducible rfl)
  (try simp only [Act.put, List.setIfInBounds_toArray, List.set_cons_zero, List.set_cons_succ])
  refine PlanT.take0 (v := ?v8) (by kernel_rfl) ?y8 ?r8
  case y8 => (intro wz hz; have q0 : wz.cell? ⟨B, 0, none⟩ = some (.int .i64 room) := blk_cell hz; have q1 : wz.cell? ⟨B, 1, none⟩ = some (.int .i64 crash) := blk_cell hz; have q2 : wz.cell? ⟨B, 2, none⟩ = some (.bool done) := blk_cell hz; go_simp; try with_reducible rfl)
  (try simp only [Act.put, List.setIfInBounds_toArray, List.set_cons_zero, List.set_cons_succ])
  refine PlanT.take0 (v := ?v9) (by kernel_rfl) ?y9 ?r9
  case y9 => (intro wz hz; have q0 : wz.cell? ⟨B, 0, none⟩ = some (.int .i64 room) := blk_cell hz; have q1 : wz.cell? ⟨B, 1, none⟩ = some (.int .i64 crash) := blk_cell hz; have q2 : wz.cell? ⟨B, 2, none⟩ = some (.bool done) := blk_cell hz; go_simp; try with_reducible rfl)
  (try simp only [Act.put, List.setIfInBounds_toArray, List.set_cons_zero, List.set_cons_succ])
  refine PlanT.take0 (v := ?v10) (by kernel_rfl) ?y10 ?r10
  case y10 => (intro wz hz; have q0 : wz.cell? ⟨B, 0, none⟩ = some (.int .i64 room) := blk_cell hz; have q1 : wz.cell? ⟨B, 1, none⟩ = some (.int .i64 crash) := blk_cell hz; have q2 : wz.cell? ⟨B, 2, none⟩ = some (.bool done) := blk_cell hz; go_simp; try with_reducible rfl)
  (try simp only [Act.put, List.setIfInBounds_toArray, List.set_cons_zero, List.set_cons_succ])
  refine PlanT.exec2 (fun K hK => ⟨by kernel_rfl, ?_⟩)
  go_simp
  have hK1 := (Below.heap_setCell _ ⟨p, 0, none⟩ (.int .i64 room) _ hne).trans hbx
  refine hK.out _ _ hK1 hK1 ?_
  clear hK K
  (try simp only [Act.put, List.setIfInBounds_toArray, List.set_cons_zero, List.set_cons_succ])
  refine PlanT.take0 (v := ?v12) (by kernel_rfl) ?y12 ?r12
  case y12 => (intro wz hz; have q0 : wz.cell? ⟨B, 0, none⟩ = some (.int .i64 room) := blk_cell hz; have q1 : wz.cell? ⟨B, 1, none⟩ = some (.int .i64 crash) := blk_cell hz; have q2 : wz.cell? ⟨B, 2, none⟩ = some (.bool done) := blk_cell hz; go_simp; try with_reducible rfl)
  (try simp only [Act.put, List.setIfInBounds_toArray, List.set_cons_zero, List.set_cons_succ])
  refine PlanT.take0 (v := ?v13) (by kernel_rfl) ?y13 ?r13
  case y13 => (intro wz hz; have q0 : wz.cell? ⟨B, 0, none⟩ = some (.int .i64 room) := blk_cell hz; have q1 : wz.cell? ⟨B, 1, none⟩ = some (.int .i64 crash) := blk_cell hz; have q2 : wz.cell? ⟨B, 2, none⟩ = some (.bool done) := blk_cell hz; go_simp; try with_reducible rfl)
  (try simp only [Act.put, List.setIfInBounds_toArray, List.set_cons_zero, List.set_cons_succ])
  refine PlanT.exec2 (fun K hK => ⟨by kernel_rfl, ?_⟩)
  go_simp
  have hK2 := (Below.heap_setCell _ ⟨p, 1, none⟩ (.int .i64 crash) _ hne).trans hK1
  refine hK.out _ _ hK2 hK2 ?_
  clear hK K
  (try simp only [Act.put, List.setIfInBounds_toArray, List.set_cons_zero, List.set_cons_succ])
  refine PlanT.take0 (v := ?v15) (by kernel_rfl) ?y15 ?r15
  case y15 => (intro wz hz; have q0 : wz.cell? ⟨B, 0, none⟩ = some (.int .i64 room) := blk_cell hz; have q1 : wz.cell? ⟨B, 1, none⟩ = some (.int .i64 crash) := blk_cell hz; have q2 : wz.cell? ⟨B, 2, none⟩ = some (.bool done) := blk_cell hz; go_simp; try with_reducible rfl)
  (try simp only [Act.put, List.setIfInBounds_toArray, List.set_cons_zero, List.set_cons_succ])
  refine PlanT.take0 (v := ?v16) (by kernel_rfl) ?y16 ?r16
  case y16 => (intro wz hz; have q0 : wz.cell? ⟨B, 0, none⟩ = some (.int .i64 room) := blk_cell hz; have q1 : wz.cell? ⟨B, 1, none⟩ = some (.int .i64 crash) := blk_cell hz; have q2 : wz.cell? ⟨B, 2, none⟩ = some (.bool done) := blk_cell hz; go_simp; try with_reducible rfl)
  (try simp only [Act.put, List.setIfInBounds_toArray, List.set_cons_zero, List.set_cons_succ])
  refine PlanT.exec2 (fun K hK => ⟨by kernel_rfl, ?_⟩)
  go_simp
  have hK3 := (Below.heap_setCell _ ⟨p, 2, none⟩ (.bool done) _ hne).trans hK2
  refine hK.out _ _ hK3 hK3 ?_
  clear hK K
  (try simp only [Act.put, List.setIfInBounds_toArray, List.set_cons_zero, List.set_cons_succ])
  refine PlanT.done (NoPanic.normal ?_)
  go_wp2
  go_end0
  refine ⟨rfl, ?_, ((((hk.setCell (fun h => h.2 rfl) _).setCell (fun h => h.2 rfl) _).setCell (fun h => h.2 rfl) _).setCell (fun h => h.2 rfl) _).setCell (fun h => h.2 rfl) _⟩
  simpa using blk_set (i := 4) (blk_set (i := 3) (blk_set (i := 2) (blk_set (i := 1) (blk_set (i := 0) h1 (.int .i64 room)) (.int .i64 crash)) (.bool done)) (.int .i64 0)) (.bool false)

theorem down_any (w : World) (p : Nat) (down : Bool) (h : w.cell? ⟨p, 4, none⟩ = some (.bool down)) :
    Calls Try.prog 20 #[.pointer (some ⟨p, 0, none⟩)] w fun e w' => e = .returned (.bool down) ∧ w = w' := by
  go_enter Try.func20, Try.ntmps20
  go_wp2
  go_ret
  exact ⟨rfl, rfl⟩

theorem down_nil (w : World) :
    Calls Try.prog 20 #[.pointer none] w fun e w' => e = .returned (.bool false) ∧ w = w' := by
  go_enter Try.func20, Try.ntmps20
  go_wp2
  go_ret
  exact ⟨rfl, rfl⟩

/-- New: a disk of nothing, in memory of its own. -/
def PD.new (room crash : Int) (done : Bool) : PD := ⟨room, crash, done, 0, false, [], [], [], []⟩

def Gh.new (p : Nat) : Gh := ⟨fun k => if k = p then .disk else .out, [], 0, .slice none 0 0, .map none, .map none, .slice none 0 0⟩

theorem diskAt_new {w : World} {p : Nat} {room crash : Int} {done : Bool} (h : w.heap[p]? = some (.cells #[.int .i64 room, .int .i64 crash, .bool done, .int .i64 0, .bool false, .slice none 0 0, .map none, .map none, .slice none 0 0] 60 (0, 0))) :
    DiskAt (Gh.new p) w p (PD.new room crash done) where
  blk := h
  rol := by simp [Gh.new]
  fl := rfl
  fa x hx := by cases hx
  nod := List.nodup_nil
  lt x hx := by cases hx
  otop k t hk := by simp only [Gh.new] at hk; split at hk <;> simp at hk
  fr := World.ownsRow_nil _ _ _ _
  of k hk := by cases hk
  nr := .inl ⟨rfl, rfl⟩
  onm k hk := by cases hk
  sr := .inl ⟨rfl, rfl⟩
  osf k hk := by cases hk
  lr := World.ownsRow_nil _ _ _ _
  ol k hk := by cases hk
  olt k hk := by
    have : k = p := by
      by_cases e : k = p
      · exact e
      · simp [Gh.new, e] at hk
    subst this
    exact blk_lt h

set_option maxRecDepth 100000 in
set_option maxHeartbeats 400000 in
theorem new_any (w : World) (room crash names : Int) (done : Bool) (kv : Value) :
    Calls Try.prog 10 #[.agg #[.int .i64 room, .int .i64 crash, .bool done, kv, .int .i64 names]] w fun e w' => ∃ p, e = .returned (.pointer (some ⟨p, 0, none⟩)) ∧
      w.heap.size ≤ p ∧ DiskAt (Gh.new p) w' p (PD.new room crash done) ∧ Below w.heap.size w w' := by
  go_enter Try.func10, Try.ntmps10
  go_wp2_with (go_at_call 19; (with_reducible refine (begin_any _ _ (.int .i64 0) (.int .i64 0) (.bool false) (.int .i64 0) (.bool false) (.slice none 0 0) (.map none) (.map none) (.slice none 0 0) _ _ _ _ _ (heap_new2 _ _ _)).mono ?_); rintro e w1 ⟨rfl, h1, h2⟩)
  go_ret
  refine ⟨_, rfl, by omega, diskAt_new h1, ?_⟩
  exact (((Below.refl _ _).alloc (Nat.le_refl _) _).alloc (by simp) _).trans (h2.below fun k hk => ⟨by simp; omega, by omega⟩)
end Go.Proofs.Ytmlijnekidihbaa
