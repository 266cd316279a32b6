import Derived.Test.YtfeogoihkpclcaaMg03
import Derived.Maps.RangeWalk
import Derived.StringKeys
import Derived.Test.YtfeogoihkpclcaaMg01
import Derived.Maps.AppendAt
import Derived.Laws.CopyOwn
import Derived.Laws.CopyRow

/-
  The disk's small functions: shut, part, isName, begin, New, Down, Calls.
-/
namespace Go.Proofs.Ytfeogoihkpclcaa
open Go.RowKit

set_option maxRecDepth 100000 in
theorem shut_any (w : World) (p : Nat) (down : Bool) (h : w.cell? ⟨p, 4, none⟩ = some (.bool down)) :
    Calls Try.prog 46 #[.pointer (some ⟨p, 0, none⟩)] w fun e w' => e = .returned (.int .i64 (if down then 7 else 0)) ∧ w = w' := by
  cases down
  all_goals
    go_enter Try.func46, Try.ntmps46
    go_wp2
    go_ret
    exact ⟨rfl, rfl⟩

set_option maxRecDepth 100000 in
theorem shut_nil (w : World) :
    Calls Try.prog 46 #[.pointer none] w fun e w' => e = .returned (.int .i64 2) ∧ w = w' := by
  go_enter Try.func46, Try.ntmps46
  go_wp2
  go_ret
  exact ⟨rfl, rfl⟩

/-- How many of all are kept by a number of a plan. -/
theorem part_any (w : World) (n : Int) (all : Nat) (hn : (Lit.int .i64 n).wf = true) (ha : all < 1000000000) :
    Calls Try.prog 56 #[.int .i64 n, .int .i64 (all : Int)] w fun e w' => e = .returned (.int .i64 (rest n all : Int)) ∧ w = w' := by
  by_cases h : n < 0
  · go_enter Try.func56, Try.ntmps56
    go_wp2
    go_ret
    refine ⟨?_, rfl⟩
    have : rest n all = 0 := by unfold rest; rw [show (max 0 n).toNat = 0 by omega]; simp
    rw [this]; rfl
  · obtain ⟨m, rfl⟩ := Int.eq_ofNat_of_zero_le (show 0 ≤ n by omega)
    go_enter Try.func56, Try.ntmps56
    go_wp2
    go_ret
    refine ⟨?_, rfl⟩
    have : (m : Int) % ((all : Int) + 1) = (rest (m : Int) all : Nat) := by
      unfold rest
      rw [show (max 0 (m : Int)).toNat = m by omega]
      push_cast
      rfl
    exact congrArg (fun z => Ending.returned (.int .i64 z)) this
/-! ### begin -/

set_option maxRecDepth 100000 in
set_option maxHeartbeats 2000000 in
set_option linter.unusedSimpArgs false in
theorem begin_any (w : World) (p : Nat) (c0 c1 c2 c3 c4 c5 c6 c7 c8 : Value) (room crash names : Int) (done : Bool) (kv : Value) (h : w.heap[p]? = some (.cells #[c0, c1, c2, c3, c4, c5, c6, c7, c8] 51 (0, 0))) :
    Calls Try.prog 22 #[.pointer (some ⟨p, 0, none⟩), .agg #[.int .i64 room, .int .i64 crash, .bool done, kv, .int .i64 names]] w fun e w' => e = .returned (.tuple #[]) ∧
      w'.heap[p]? = some (.cells #[.int .i64 room, .int .i64 crash, .bool done, .int .i64 0, .bool false, c5, c6, c7, c8] 51 (0, 0)) ∧ Kept (fun k => k < w.heap.size ∧ k ≠ p) w w' := by
  have hp := blk_lt h
  obtain ⟨B, hB⟩ : ∃ B, w.heap.size = B := ⟨_, rfl⟩
  have hpB : p < B := by omega
  have hne : B ≠ p := by omega
  have hne' : p ≠ B := by omega
  obtain ⟨w1, hw1⟩ : ∃ w1, w1 = (w.alloc (.cells #[.int .i64 room, .int .i64 crash, .bool done, kv, .int .i64 names] 24)).drew := ⟨_, rfl⟩
  have hbx : w1.heap[B]? = some (.cells #[.int .i64 room, .int .i64 crash, .bool done, kv, .int .i64 names] 24 (0, 0)) := by
    subst hB; subst hw1
    exact heap_alloc_new w _
  have h1 : w1.heap[p]? = some (.cells #[c0, c1, c2, c3, c4, c5, c6, c7, c8] 51 (0, 0)) := by
    subst hw1
    exact (Below.heap_alloc _ _ _ hp).trans h
  have hk : Kept (fun k => k < w.heap.size ∧ k ≠ p) w w1 := by
    subst hw1
    exact ((Kept.refl _ _).alloc (fun k hk => hk.1) _).drew
  have d0 : w1.cell? ⟨p, 0, none⟩ = some c0 := blk_cell h1
  have d1 : w1.cell? ⟨p, 1, none⟩ = some c1 := blk_cell h1
  have d2 : w1.cell? ⟨p, 2, none⟩ = some c2 := blk_cell h1
  have d3 : w1.cell? ⟨p, 3, none⟩ = some c3 := blk_cell h1
  have d4 : w1.cell? ⟨p, 4, none⟩ = some c4 := blk_cell h1
  have f0 : w1.frozen? ⟨p, 0, none⟩ = false := blk_free h1
  have f1 : w1.frozen? ⟨p, 1, none⟩ = false := blk_free h1
  have f2 : w1.frozen? ⟨p, 2, none⟩ = false := blk_free h1
  have f3 : w1.frozen? ⟨p, 3, none⟩ = false := blk_free h1
  have f4 : w1.frozen? ⟨p, 4, none⟩ = false := blk_free h1
  have hw2 := Lib.hid hw1
  clear hw1
  have hB2 := Lib.hid hB
  clear hB
  go_enter Try.func22, Try.ntmps22
  go_wp2
  refine wp_region_two (fun wz => wz.heap[B]? = some (.cells #[.int .i64 room, .int .i64 crash, .bool done, kv, .int .i64 names] 24 (0, 0))) (fun wz => wz.heap[B]? = some (.cells #[.int .i64 room, .int .i64 crash, .bool done, kv, .int .i64 names] 24 (0, 0))) [(0, 0), (0, 1), (0, 2), (0, 3), (0, 4), (0, 5), (0, 6), (0, 7), (0, 8), (0, 9), (0, 10), (2, 11), (0, 12), (0, 13), (2, 14), (0, 15), (0, 16), (2, 17)] [] (by kernel_rfl) (by kernel_rfl) (by kernel_rfl) (by kernel_rfl) (by kernel_rfl) (by rw [← hw2.out]; exact hbx) (by rw [← hw2.out]; exact hbx) ?_
  simp only [planT, List.drop_succ_cons, List.drop_zero]
  rw [hB2.out, ← hw2.out]
  refine PlanT.take0 (v := ?v0) (by kernel_rfl) ?y0 ?r0
  case y0 => (intro wz hz; have q0 : wz.cell? ⟨B, 0, none⟩ = some (.int .i64 room) := blk_cell hz; have q1 : wz.cell? ⟨B, 1, none⟩ = some (.int .i64 crash) := blk_cell hz; have q2 : wz.cell? ⟨B, 2, none⟩ = some (.bool done) := blk_cell hz; go_simp; try with_reducible rfl)
  (try simp only [Act.put, List.setIfInBounds_toArray, List.set_cons_zero, List.set_cons_succ])
  refine PlanT.take0 (v := ?v1) (by kernel_rfl) ?y1 ?r1
  case y1 => (intro wz hz; have q0 : wz.cell? ⟨B, 0, none⟩ = some (.int .i64 room) := blk_cell hz; have q1 : wz.cell? ⟨B, 1, none⟩ = some (.int .i64 crash) := blk_cell hz; have q2 : wz.cell? ⟨B, 2, none⟩ = some (.bool done) := blk_cell hz; go_simp; try with_reducible rfl)
  (try simp only [Act.put, List.setIfInBounds_toArray, List.set_cons_zero, List.set_cons_succ])
  refine PlanT.take0 (v := ?v2) (by kernel_rfl) ?y2 ?r2
  case y2 => (intro wz hz; have q0 : wz.cell? ⟨B, 0, none⟩ = some (.int .i64 room) := blk_cell hz; have q1 : wz.cell? ⟨B, 1, none⟩ = some (.int .i64 crash) := blk_cell hz; have q2 : wz.cell? ⟨B, 2, none⟩ = some (.bool done) := blk_cell hz; go_simp; try with_reducible rfl)
  (try simp only [Act.put, List.setIfInBounds_toArray, List.set_cons_zero, List.set_cons_succ])
  refine PlanT.take0 (v := ?v3) (by kernel_rfl) ?y3 ?r3
  case y3 => (intro wz hz; have q0 : wz.cell? ⟨B, 0, none⟩ = some (.int .i64 room) := blk_cell hz; have q1 : wz.cell? ⟨B, 1, none⟩ = some (.int .i64 crash) := blk_cell hz; have q2 : wz.cell? ⟨B, 2, none⟩ = some (.bool done) := blk_cell hz; go_simp; try with_reducible rfl)
  (try simp only [Act.put, List.setIfInBounds_toArray, List.set_cons_zero, List.set_cons_succ])
  refine PlanT.take0 (v := ?v4) (by kernel_rfl) ?y4 ?r4
  case y4 => (intro wz hz; have q0 : wz.cell? ⟨B, 0, none⟩ = some (.int .i64 room) := blk_cell hz; have q1 : wz.cell? ⟨B, 1, none⟩ = some (.int .i64 crash) := blk_cell hz; have q2 : wz.cell? ⟨B, 2, none⟩ = some (.bool done) := blk_cell hz; go_simp; try with_reducible rfl)
  (try simp only [Act.put, List.setIfInBounds_toArray, List.set_cons_zero, List.set_cons_succ])
  refine PlanT.take0 (v := ?v5) (by kernel_rfl) ?y5 ?r5
  case y5 => (intro wz hz; have q0 : wz.cell? ⟨B, 0, none⟩ = some (.int .i64 room) := blk_cell hz; have q1 : wz.cell? ⟨B, 1, none⟩ = some (.int .i64 crash) := blk_cell hz; have q2 : wz.cell? ⟨B, 2, none⟩ = some (.bool done) := blk_cell hz; go_simp; try with_reducible rfl)
  (try simp only [Act.put, List.setIfInBounds_toArray, List.set_cons_zero, List.set_cons_succ])
  refine PlanT.take0 (v := ?v6) (by kernel_rfl) ?y6 ?r6
  case y6 => (intro wz hz; have q0 : wz.cell? ⟨B, 0, none⟩ = some (.int .i64 room) := blk_cell hz; have q1 : wz.cell? ⟨B, 1, none⟩ = some (.int .i64 crash) := blk_cell hz; have q2 : wz.cell? ⟨B, 2, none⟩ = some (.bool done) := blk_cell hz; go_simp; try with_reducible rfl)
  (try simp only [Act.put, List.setIfInBounds_toArray, List.set_cons_zero, List.set_cons_succ])
  refine PlanT.take0 (v := ?v7) (by kernel_rfl) ?y7 ?r7
  case y7 => (intro wz hz; have q0 : wz.cell? ⟨B, 0, none⟩ = some (.int .i64 room) := blk_cell hz; have q1 : wz.cell? ⟨B, 1, none⟩ = some (.int .i64 crash) := blk_cell hz; have q2 : wz.cell? ⟨B, 2, none⟩ = some (.bool done) := blk_cell hz; go_simp; try with_reducible rfl)
  (try simp only [Act.put, List.setIfInBounds_toArray, List.set_cons_zero, List.set_cons_succ])
  refine PlanT.take0 (v := ?v8) (by kernel_rfl) ?y8 ?r8
  case y8 => (intro wz hz; have q0 : wz.cell? ⟨B, 0, none⟩ = some (.int .i64 room) := blk_cell hz; have q1 : wz.cell? ⟨B, 1, none⟩ = some (.int .i64 crash) := blk_cell hz; have q2 : wz.cell? ⟨B, 2, none⟩ = some (.bool done) := blk_cell hz; go_simp; try with_reducible rfl)
  (try simp only [Act.put, List.setIfInBounds_toArray, List.set_cons_zero, List.set_cons_succ])
  refine PlanT.take0 (v := ?v9) (by kernel_rfl) ?y9 ?r9
  case y9 => (intro wz hz; have q0 : wz.cell? ⟨B, 0, none⟩ = some (.int .i64 room) := blk_cell hz; have q1 : wz.cell? ⟨B, 1, none⟩ = some (.int .i64 crash) := blk_cell hz; have q2 : wz.cell? ⟨B, 2, none⟩ = some (.bool done) := blk_cell hz; go_simp; try with_reducible rfl)
  (try simp only [Act.put, List.setIfInBounds_toArray, List.set_cons_zero, List.set_cons_succ])
  refine PlanT.take0 (v := ?v10) (by kernel_rfl) ?y10 ?r10
  case y10 => (intro wz hz; have q0 : wz.cell? ⟨B, 0, none⟩ = some (.int .i64 room) := blk_cell hz; have q1 : wz.cell? ⟨B, 1, none⟩ = some (.int .i64 crash) := blk_cell hz; have q2 : wz.cell? ⟨B, 2, none⟩ = some (.bool done) := blk_cell hz; go_simp; try with_reducible rfl)
  (try simp only [Act.put, List.setIfInBounds_toArray, List.set_cons_zero, List.set_cons_succ])
  refine PlanT.exec2 (fun K hK => ⟨by kernel_rfl, ?_⟩)
  go_simp
  have hK1 := (Below.heap_setCell _ ⟨p, 0, none⟩ (.int .i64 room) _ hne).trans hbx
  refine hK.out _ _ hK1 hK1 ?_
  clear hK K
  (try simp only [Act.put, List.setIfInBounds_toArray, List.set_cons_zero, List.set_cons_succ])
  refine PlanT.take0 (v := ?v12) (by kernel_rfl) ?y12 ?r12
  case y12 => (intro wz hz; have q0 : wz.cell? ⟨B, 0, none⟩ = some (.int .i64 room) := blk_cell hz; have q1 : wz.cell? ⟨B, 1, none⟩ = some (.int .i64 crash) := blk_cell hz; have q2 : wz.cell? ⟨B, 2, none⟩ = some (.bool done) := blk_cell hz; go_simp; try with_reducible rfl)
  (try simp only [Act.put, List.setIfInBounds_toArray, List.set_cons_zero, List.set_cons_succ])
  refine PlanT.take0 (v := ?v13) (by kernel_rfl) ?y13 ?r13
  case y13 => (intro wz hz; have q0 : wz.cell? ⟨B, 0, none⟩ = some (.int .i64 room) := blk_cell hz; have q1 : wz.cell? ⟨B, 1, none⟩ = some (.int .i64 crash) := blk_cell hz; have q2 : wz.cell? ⟨B, 2, none⟩ = some (.bool done) := blk_cell hz; go_simp; try with_reducible rfl)
  (try simp only [Act.put, List.setIfInBounds_toArray, List.set_cons_zero, List.set_cons_succ])
  refine PlanT.exec2 (fun K hK => ⟨by kernel_rfl, ?_⟩)
  go_simp
  have hK2 := (Below.heap_setCell _ ⟨p, 1, none⟩ (.int .i64 crash) _ hne).trans hK1
  refine hK.out _ _ hK2 hK2 ?_
  clear hK K
  (try simp only [Act.put, List.setIfInBounds_toArray, List.set_cons_zero, List.set_cons_succ])
  refine PlanT.take0 (v := ?v15) (by kernel_rfl) ?y15 ?r15
  case y15 => (intro wz hz; have q0 : wz.cell? ⟨B, 0, none⟩ = some (.int .i64 room) := blk_cell hz; have q1 : wz.cell? ⟨B, 1, none⟩ = some (.int .i64 crash) := blk_cell hz; have q2 : wz.cell? ⟨B, 2, none⟩ = some (.bool done) := blk_cell hz; go_simp; try with_reducible rfl)
  (try simp only [Act.put, List.setIfInBounds_toArray, List.set_cons_zero, List.set_cons_succ])
  refine PlanT.take0 (v := ?v16) (by kernel_rfl) ?y16 ?r16
  case y16 => (intro wz hz; have q0 : wz.cell? ⟨B, 0, none⟩ = some (.int .i64 room) := blk_cell hz; have q1 : wz.cell? ⟨B, 1, none⟩ = some (.int .i64 crash) := blk_cell hz; have q2 : wz.cell? ⟨B, 2, none⟩ = some (.bool done) := blk_cell hz; go_simp; try with_reducible rfl)
  (try simp only [Act.put, List.setIfInBounds_toArray, List.set_cons_zero, List.set_cons_succ])
  refine PlanT.exec2 (fun K hK => ⟨by kernel_rfl, ?_⟩)
  go_simp
  have hK3 := (Below.heap_setCell _ ⟨p, 2, none⟩ (.bool done) _ hne).trans hK2
  refine hK.out _ _ hK3 hK3 ?_
  clear hK K
  (try simp only [Act.put, List.setIfInBounds_toArray, List.set_cons_zero, List.set_cons_succ])
  refine PlanT.done (NoPanic.normal ?_)
  go_wp2
  go_end0
  refine ⟨rfl, ?_, ((((hk.setCell (fun h => h.2 rfl) _).setCell (fun h => h.2 rfl) _).setCell (fun h => h.2 rfl) _).setCell (fun h => h.2 rfl) _).setCell (fun h => h.2 rfl) _⟩
  simpa using blk_set (i := 4) (blk_set (i := 3) (blk_set (i := 2) (blk_set (i := 1) (blk_set (i := 0) h1 (.int .i64 room)) (.int .i64 crash)) (.bool done)) (.int .i64 0)) (.bool false)

theorem down_any (w : World) (p : Nat) (down : Bool) (h : w.cell? ⟨p, 4, none⟩ = some (.bool down)) :
    Calls Try.prog 13 #[.pointer (some ⟨p, 0, none⟩)] w fun e w' => e = .returned (.bool down) ∧ w = w' := by
  go_enter Try.func13, Try.ntmps13
  go_wp2
  go_ret
  exact ⟨rfl, rfl⟩

theorem down_nil (w : World) :
    Calls Try.prog 13 #[.pointer none] w fun e w' => e = .returned (.bool false) ∧ w = w' := by
  go_enter Try.func13, Try.ntmps13
  go_wp2
  go_ret
  exact ⟨rfl, rfl⟩

theorem calls_any (w : World) (p : Nat) (n : Int) (h : w.cell? ⟨p, 3, none⟩ = some (.int .i64 n)) :
    Calls Try.prog 15 #[.pointer (some ⟨p, 0, none⟩)] w fun e w' => e = .returned (.int .i64 n) ∧ w = w' := by
  go_enter Try.func15, Try.ntmps15
  go_wp2
  go_ret
  exact ⟨rfl, rfl⟩

theorem calls_nil (w : World) :
    Calls Try.prog 15 #[.pointer none] w fun e w' => e = .returned (.int .i64 0) ∧ w = w' := by
  go_enter Try.func15, Try.ntmps15
  go_wp2
  go_ret
  exact ⟨rfl, rfl⟩

/-- New: a disk of nothing, in memory of its own. -/
def PD.new (room crash : Int) (done : Bool) : PD := ⟨room, crash, done, 0, false, [], [], [], []⟩

def Gh.new (p : Nat) : Gh := ⟨fun k => if k = p then .disk else .out, [], 0, .slice none 0 0, .map none, .map none, .slice none 0 0⟩

theorem diskAt_new {w : World} {p : Nat} {room crash : Int} {done : Bool} (h : w.heap[p]? = some (.cells #[.int .i64 room, .int .i64 crash, .bool done, .int .i64 0, .bool false, .slice none 0 0, .map none, .map none, .slice none 0 0] 51 (0, 0))) :
    DiskAt (Gh.new p) w p (PD.new room crash done) where
  blk := h
  rol := by simp [Gh.new]
  fl := rfl
  fa x hx := by cases hx
  nod := List.nodup_nil
  lt x hx := by cases hx
  otop k t hk := by simp only [Gh.new] at hk; split at hk <;> simp at hk
  fr := World.ownsRow_nil _ _ _ _
  of k hk := by cases hk
  nr := .inl ⟨rfl, rfl⟩
  onm k hk := by cases hk
  sr := .inl ⟨rfl, rfl⟩
  osf k hk := by cases hk
  lr := World.ownsRow_nil _ _ _ _
  ol k hk := by cases hk
  olt k hk := by
    have : k = p := by
      by_cases e : k = p
      · exact e
      · simp [Gh.new, e] at hk
    subst this
    exact blk_lt h

set_option maxRecDepth 100000 in
set_option maxHeartbeats 400000 in
theorem new_any (w : World) (room crash names : Int) (done : Bool) (kv : Value) :
    Calls Try.prog 6 #[.agg #[.int .i64 room, .int .i64 crash, .bool done, kv, .int .i64 names]] w fun e w' => ∃ p, e = .returned (.pointer (some ⟨p, 0, none⟩)) ∧
      w.heap.size ≤ p ∧ DiskAt (Gh.new p) w' p (PD.new room crash done) ∧ Below w.heap.size w w' := by
  go_enter Try.func6, Try.ntmps6
  go_wp2_with (go_at_call 22; (with_reducible refine (begin_any _ _ (.int .i64 0) (.int .i64 0) (.bool false) (.int .i64 0) (.bool false) (.slice none 0 0) (.map none) (.map none) (.slice none 0 0) _ _ _ _ _ (heap_new2 _ _ _)).mono ?_); rintro e w1 ⟨rfl, h1, h2⟩)
  go_ret
  refine ⟨_, rfl, by omega, diskAt_new h1, ?_⟩
  exact (((Below.refl _ _).alloc (Nat.le_refl _) _).alloc (by simp) _).trans (h2.below fun k hk => ⟨by simp; omega, by omega⟩)
end Go.Proofs.Ytfeogoihkpclcaa

/-
  The disk's looks: is it a name, which file has it, all names in order, how many bytes.
-/
namespace Go.Proofs.Ytfeogoihkpclcaa
open Go.RowKit

theorem zero_int (w : World) : (zeroValue 3).run Try.prog w = .ok (.int .i64 0) w := by kernel_rfl

theorem name_key (s : ByteArray) (hs : s.size ≤ maxLen) : keyOf Try.prog 9 (.string s) = some (.string s.data.toList) := WideMaps.keyOf_string_mk Try.underlying9 hs

/-- What a map of names tells. -/
theorem nm_look {w : World} {v : Value} {l : DB} (h : Nm w v l) (s : ByteArray) (hs : s.size ≤ maxLen) :
    (Instr.lookup 48 v (.string s) true).run Try.prog w = .ok (.tuple #[.int .i64 (match dfind l s.data.toList with | some id => (id : Int) | none => 0), .bool (dfind l s.data.toList).isSome]) w := by
  rcases h with ⟨rfl, rfl⟩ | ⟨b, rfl, hm⟩
  · have := Maps.look_nil (P := Try.prog) (w := w) (t := 48) (k := 9) (e := 3) true (Maps.string_keyed Try.underlying9) Try.underlying48 (zero_int w) (name_key s hs)
    simpa [dfind] using this
  · obtain ⟨u, ps, hrun, hv⟩ := hm.look_ok (t := 48) (Maps.string_keyed Try.underlying9) Try.underlying48 (zero_int w) (plainElem_int Try.underlying3 (by decide)) (name_key s hs)
    obtain ⟨c, rfl, hc, _⟩ := plainElem_int_inv Try.underlying3 hv
    rw [hrun, mapD_has]
    rw [mapD_at] at hc
    have := congrArg Prod.fst hc
    simp only [DataW.lit.injEq, Lit.int.injEq, true_and] at this
    rw [← this]
    rfl

theorem nm_look_some {w : World} {v : Value} {l : DB} (h : Nm w v l) (s : ByteArray) (hs : s.size ≤ maxLen) {id : Nat} (hf : dfind l s.data.toList = some id) :
    (Instr.lookup 48 v (.string s) true).run Try.prog w = .ok (.tuple #[.int .i64 (id : Int), .bool true]) w := by
  have := nm_look h s hs
  rw [hf] at this
  exact this

theorem nm_look_none {w : World} {v : Value} {l : DB} (h : Nm w v l) (s : ByteArray) (hs : s.size ≤ maxLen) (hf : dfind l s.data.toList = none) :
    (Instr.lookup 48 v (.string s) true).run Try.prog w = .ok (.tuple #[.int .i64 0, .bool false]) w := by
  have := nm_look h s hs
  rw [hf] at this
  exact this

set_option maxRecDepth 100000 in
set_option maxHeartbeats 400000 in
theorem find_none (w : World) (p : Nat) (nv : Value) (l : DB) (s : ByteArray) (hs : s.size ≤ maxLen) (hc : w.cell? ⟨p, 6, none⟩ = some nv) (hn : Nm w nv l) (hf : dfind l s.data.toList = none) :
    Calls Try.prog 42 #[.pointer (some ⟨p, 0, none⟩), .string s] w fun e w' => e = .returned (.pointer none) ∧ w = w' := by
  have hl := nm_look_none hn s hs hf
  clear hn hf
  go_enter Try.func42, Try.ntmps42
  go_wp2
  go_ret
  exact ⟨rfl, rfl⟩

set_option maxRecDepth 100000 in
set_option maxHeartbeats 400000 in
theorem find_some (w : World) (p : Nat) (nv : Value) (l : DB) (s : ByteArray) (hs : s.size ≤ maxLen) (hc : w.cell? ⟨p, 6, none⟩ = some nv) (hn : Nm w nv l) (id : Nat) (hf : dfind l s.data.toList = some id)
    (fb n cap : Nat) (hd : w.cell? ⟨p, 5, none⟩ = some (.slice (some ⟨fb, 0, none⟩) n cap)) (hid : id < n) :
    Calls Try.prog 42 #[.pointer (some ⟨p, 0, none⟩), .string s] w fun e w' => e = .returned (.pointer (some ⟨fb, id * 3, none⟩)) ∧ w = w' := by
  have hl := nm_look_some hn s hs hf
  have h0 : (0 : Int) ≤ (id : Int) := by omega
  have h1 : (id : Int) < (n : Int) := by omega
  clear hn hf
  go_enter Try.func42, Try.ntmps42
  go_wp2
  go_ret
  exact ⟨rfl, rfl⟩


set_option maxRecDepth 100000 in
set_option maxHeartbeats 1000000 in
theorem isName_any (w : World) (s : ByteArray) (hs : s.size ≤ maxLen) :
    Calls Try.prog 47 #[.string s] w fun e w' => e = .returned (.bool (nmOk s.data.toList)) ∧ w = w' := by
  unfold maxLen at hs
  have hlen := size_list s
  by_cases h1 : s.size < 1
  · have hr : nmOk s.data.toList = false := by unfold nmOk; rw [hlen]; simp; omega
    rw [hr]
    go_enter Try.func47, Try.ntmps47
    go_wp2
    go_ret
    exact ⟨rfl, rfl⟩
  by_cases h2 : (40 : Int) < (s.size : Int)
  · have hr : nmOk s.data.toList = false := by unfold nmOk; rw [hlen]; simp; omega
    rw [hr]
    go_enter Try.func47, Try.ntmps47
    go_wp2
    go_ret
    exact ⟨rfl, rfl⟩
  have hok : nmOk s.data.toList = s.data.toList.all nmC := by
    unfold nmOk
    rw [hlen]
    have a1 : decide (1 ≤ s.size) = true := by simp; omega
    have a2 : decide (s.size ≤ 40) = true := by simp; omega
    rw [a1, a2]
    simp
  have hb1 : decide ((s.size : Int) < 1) = false := by simp; omega
  have HL := Lib.hid hlen
  clear hlen
  have HO := Lib.hid hok
  clear hok
  go_enter Try.func47, Try.ntmps47
  go_wp2
  go_loop [15] (fun i => ∃ k : Nat, k ≤ s.size ∧ i = .int .i64 k ∧ (s.data.toList.take k).all nmC = true) (fun i => s.size - (intOf i).toNat)
  case atStart => exact ⟨0, Nat.zero_le _, rfl, rfl⟩
  case round =>
    obtain ⟨k, hk, rfl, hall⟩ := hrel
    have HA := Lib.hid hall
    clear hall
    by_cases hlt : k < s.size
    · have hg := getD_list s k hlt
      have hl : k < s.data.toList.length := by rw [HL.out]; exact hlt
      have hst := all_take_succ s.data.toList k hl
      have hno := all_of_not (l := s.data.toList) (k := k) hl
      rw [hg] at hst hno
      have HS := Lib.hid hst
      have HN := Lib.hid hno
      clear hst hno hg
      obtain ⟨c, hcc⟩ : ∃ c : UInt8, s[k] = c := ⟨_, rfl⟩
      rw [hcc] at HS HN
      have hr : ∀ h : k < s.size, s[k] = c := fun _ => hcc
      clear hcc
      have hb := byte_le c
      rcases nm_ways c with ⟨hn, hw⟩ | ⟨hn, hw⟩
      · have hno := HN.out hn
        have HX : Hid (nmOk s.data.toList = false) := by rw [HO.out]; exact hno
        clear hno
        have HN2 := Lib.hid hn
        clear hn
        rcases hw with ⟨a1, a2, a3, a4⟩ | ⟨a1, a2⟩ | a1
        all_goals
          go_wp2
          go_ret
          exact ⟨congrArg (fun b => Ending.returned (.bool b)) HX.out.symm, rfl⟩
      · have HX : Hid ((s.data.toList.take (k + 1)).all nmC = true) := by rw [HS.out, HA.out, hn]; rfl
        have HN2 := Lib.hid hn
        clear hn
        rcases hw with ⟨a1, a2⟩ | ⟨a1, a2⟩ | a1 | a1
        all_goals
          go_wp2
          go_round
          case rel => exact ⟨k + 1, by omega, by go_num, HX.out⟩
          case measure => simp [intOf]; omega
    · have hall2 : s.data.toList.all nmC = true := by
        have := HA.out
        rwa [List.take_of_length_le (by rw [HL.out]; omega)] at this
      have HX : Hid (nmOk s.data.toList = true) := by rw [HO.out]; exact hall2
      clear hall2
      go_wp2
      go_ret
      exact ⟨congrArg (fun b => Ending.returned (.bool b)) HX.out.symm, rfl⟩

end Go.Proofs.Ytfeogoihkpclcaa

/-
  append onto slices of the call's own or of an object's, with the word on where the new slice lies; a row that is owned.
-/
namespace Go.Proofs.Ytfeogoihkpclcaa
open Go.RowKit

/-- A row that is owned: where it lies. -/
theorem own_form {w : World} {B e size n : Nat} {v : Value} {cs : List Value} (h : w.ownsRow B e size v n cs) (hn : 0 < n) : ∃ g cap cur, v = .slice (some ⟨g, 0, none⟩) n cap ∧ n ≤ cap ∧ cap ≤ maxLen ∧ w.heap[g]? = some (.cells cur e (0, 0)) ∧
    (∀ j u, cs[j]? = some u → w.cell? ⟨g, j, none⟩ = some u) ∧ (∀ j, w.frozen? ⟨g, j, none⟩ = false) := by
  obtain ⟨h0, h1⟩ := h
  rcases h1 with ⟨rfl, rfl⟩ | ⟨g, cap, cur, rfl, _, hg, hn', hm, hs, htake⟩
  · omega
  · refine ⟨g, cap, cur, rfl, hn', hm, hg, fun j u hj => ?_, fun j => blk_free hg⟩
    rw [blk_cell hg]
    rw [← htake, List.getElem?_take] at hj
    split at hj
    · simpa using hj
    · cases hj

/-- The slice 'v' has become 'v'': its block was written, or a new one is there; nothing else has turned. -/
structure Moves (w w' : World) (v v' : Value) : Prop where
  grown : w.grownBy w' v.ownBlock
  at_ : ∀ k, v'.ownBlock = some k → v.ownBlock = some k ∨ (w.heap.size ≤ k ∧ k < w'.heap.size)

theorem Moves.refl (w : World) (v : Value) : Moves w w v v := ⟨⟨rfl, rfl, rfl, Nat.le_refl _, fun _ _ _ => rfl⟩, fun _ h => .inl h⟩

theorem Moves.trans {a b c : World} {u v t : Value} (h : Moves a b u v) (k : Moves b c v t) : Moves a c u t where
  grown := ⟨k.grown.os.trans h.grown.os, k.grown.tape.trans h.grown.tape, k.grown.output.trans h.grown.output, Nat.le_trans h.grown.size k.grown.size, fun i hi hne => by
    refine (k.grown.block i (Nat.lt_of_lt_of_le hi h.grown.size) fun e => ?_).trans (h.grown.block i hi hne)
    rcases h.at_ i e.symm with h1 | h1
    · exact hne h1.symm
    · omega⟩
  at_ i hi := by
    rcases k.at_ i hi with h1 | h1
    · rcases h.at_ i h1 with h2 | h2
      · exact .inl h2
      · exact .inr ⟨h2.1, Nat.lt_of_lt_of_le h2.2 k.grown.size⟩
    · exact .inr ⟨Nat.le_trans h.grown.size h1.1, h1.2⟩

/-- New memory ahead of it makes no odds. -/
theorem Moves.after {a b c : World} {v t : Value} (h : Below a.heap.size a b) (k : Moves b c v t) : Moves a c v t where
  grown := ⟨k.grown.os.trans h.os, k.grown.tape.trans h.tape, k.grown.output.trans h.output, Nat.le_trans h.size k.grown.size, fun i hi hne =>
    (k.grown.block i (Nat.lt_of_lt_of_le hi h.size) hne).trans (h.block i hi)⟩
  at_ i hi := by
    rcases k.at_ i hi with h1 | h1
    · exact .inl h1
    · exact .inr ⟨Nat.le_trans h.size h1.1, h1.2⟩

theorem Moves.then {a b c : World} {v t : Value} (h : Moves a b v t) (k : Below b.heap.size b c) : Moves a c v t where
  grown := ⟨k.os.trans h.grown.os, k.tape.trans h.grown.tape, k.output.trans h.grown.output, Nat.le_trans h.grown.size k.size, fun i hi hne =>
    (k.block i (Nat.lt_of_lt_of_le hi h.grown.size)).trans (h.grown.block i hi hne)⟩
  at_ i hi := by
    rcases h.at_ i hi with h1 | h1
    · exact .inl h1
    · exact .inr ⟨h1.1, Nat.lt_of_lt_of_le h1.2 k.size⟩

theorem Moves.kept {w w' : World} {v v' : Value} {R : Nat → Prop} (h : Moves w w' v v') (hR : ∀ k, R k → k < w.heap.size ∧ v.ownBlock ≠ some k) : Kept R w w' :=
  ⟨h.grown.os, h.grown.tape, h.grown.output, h.grown.size, fun k hk => h.grown.block k (hR k hk).1 (fun e => (hR k hk).2 e.symm)⟩

theorem own_lt {w : World} {B e size n : Nat} {v : Value} {cs : List Value} (h : w.ownsRow B e size v n cs) : ∀ k, v.ownBlock = some k → k < w.heap.size := fun k hk => (World.ownsRow.lt h k hk).2

section
variable {P : Program} {w : World} {ops : Array Oper} {o : Oper} {a : Act} {K : Act → World → Prop} {Q : Exit → Act → World → Prop}

/-- 'append(s, x...)'. -/
theorem wp_append_at (s x : Operand) (t : TypeId) (hop : o.op = Op.call { callee := Callee.builtin Builtin.append, args := #[s, x], argTypes := #[t, t] })
    (e size bytes : Nat) (z : Value) (h1 : P.underlying t = some (.slice e)) (h2 : (P.info? e).map (fun i => (i.zero, i.size, i.bytes)) = some (some z, size, bytes)) (hz : z.cells.size = size) (hsz : 0 < size)
    (v xv : Value) (n m : Nat) (xs news : List Value) (hs : a.eval s = v) (hx : a.eval x = xv) (hown : w.ownsRow 0 e size v n xs) (hrd : Rd w size xv m news) (hone : ∀ u ∈ news, u.oneCell' = true)
    (hl : (n + m) * bytes ≤ 140737488355328) (hl' : n + m ≤ maxLen)
    (hK : ∀ v' w', w'.ownsRow 0 e size v' (n + m) (xs ++ news) → Moves w w' v v' → K (a.put o.dst v') w') : Oper.wp P o a w K Q := by
  obtain ⟨i0, hi, hz0, hz1, hz2⟩ := info_parts h2
  obtain ⟨ad, cap, rfl, _, _, hlen, h3⟩ := hrd
  cases ad with
  | none =>
    rcases h3 with ⟨rfl, hc⟩ | ⟨b, off, hno, _⟩
    · obtain rfl := hc rfl
      have : news = [] := List.eq_nil_of_length_eq_zero (by simpa using hlen)
      subst this
      have hrun := run_append_owned_none (P := P) (w := w) 0 t o.type e i0 size h1 hi v n xs hown
      unfold Oper.wp
      simp [execOp, hop, resolve, invoke, builtin, hs, hx, hrun, Result.andThen]
      exact hK v w (by simpa using hown) (Moves.refl _ _)
    · cases hno
  | some ad =>
    have hn : ∀ j u, news[j]? = some u → w.cell? (ad.add j) = some u := by
      intro j u hj
      rcases h3 with ⟨rfl, _⟩ | ⟨b, off, hb, _, h5⟩
      · have : news = [] := List.eq_nil_of_length_eq_zero (by simpa using hlen)
        subst this
        simp at hj
      · cases hb
        have hadd : (⟨b, off, none⟩ : Addr).add j = ⟨b, off + j, none⟩ := by unfold Addr.add; split <;> simp_all
        rw [hadd]
        exact h5 j u hj
    obtain ⟨v', w', hr, r2, r3, _, r5⟩ := run_append_own_at (P := P) w 0 t o.type e i0 z size bytes h1 hi hz0 hz1 hz2 hz hsz v n xs hown ad m cap news hlen hn hone hl' hl (Nat.zero_le _)
    unfold Oper.wp execOp
    simp only [hop, resolve, invoke, builtin, Sem.run_bind, Sem.run_pure, Result.andThen_ok, List.map_toArray, List.map_cons, List.map_nil, hs, hx, hr]
    refine hK _ _ r2 ⟨r3, fun k hk => ?_⟩
    rcases r5 with r5 | r5
    · exact .inl (by rw [← r5]; exact hk)
    · rw [r5] at hk; cases hk
      exact .inr ⟨Nat.le_refl _, own_lt r2 _ r5⟩
end
end Go.Proofs.Ytfeogoihkpclcaa

/-
  A file of the disk: where its slices lie; how many bytes are loose; a write laid over bytes.
-/
namespace Go.Proofs.Ytfeogoihkpclcaa
open Go.RowKit

theorem flat_at {α β : Type} (f : α → List β) (k : Nat) (hf : ∀ a, (f a).length = k) : ∀ (l : List α) (i j : Nat), j < k → (l.flatMap f)[i * k + j]? = (l[i]?).bind fun a => (f a)[j]?
  | [], i, j, _ => by simp
  | a :: r, 0, j, hj => by
    rw [List.flatMap_cons, Nat.zero_mul, Nat.zero_add, List.getElem?_append_left (by rw [hf]; exact hj)]
    rfl
  | a :: r, i + 1, j, hj => by
    rw [List.flatMap_cons, List.getElem?_append_right (by rw [hf, Nat.succ_mul]; omega), hf]
    have e : (i + 1) * k + j - k = i * k + j := by rw [Nat.succ_mul]; omega
    rw [e, flat_at f k hf r i j hj]
    simp

theorem flat_length {α β : Type} (f : α → List β) (k : Nat) (hf : ∀ a, (f a).length = k) (l : List α) : (l.flatMap f).length = l.length * k := by
  induction l with
  | nil => simp
  | cons a r ih => rw [List.flatMap_cons, List.length_append, ih, hf, List.length_cons, Nat.succ_mul]; omega

/-- The file of that number. -/
theorem DiskAt.file {g : Gh} {w : World} {p : Nat} {d : PD} (h : DiskAt g w p d) {i : Nat} {f : PF} (hi : d.files[i]? = some f) : ∃ fb cap x, g.fv = .slice (some ⟨fb, 0, none⟩) g.l.length cap ∧ i < g.l.length ∧ g.l[i]? = some (x, f) ∧ FileAt g.o w x f ∧ g.o fb = .files ∧ fb < w.heap.size ∧
    w.cell? ⟨fb, i * 3, none⟩ = some x.vs ∧ w.cell? ⟨fb, i * 3 + 1, none⟩ = some x.vn ∧ w.cell? ⟨fb, i * 3 + 2, none⟩ = some x.vl ∧ (∀ j, w.frozen? ⟨fb, j, none⟩ = false) := by
  rw [h.fl, List.getElem?_map] at hi
  cases hx : g.l[i]? with
  | none => rw [hx] at hi; cases hi
  | some xf =>
    rw [hx] at hi
    obtain ⟨x, f'⟩ := xf
    cases hi
    have hlt : i < g.l.length := (List.getElem?_eq_some_iff.1 hx).1
    obtain ⟨fb, cap, cur, hv, _, _, hb, hc, hf⟩ := own_form h.fr (by omega)
    have hat := fun j hj => flat_at (fun x : GF × PF => [x.1.vs, x.1.vn, x.1.vl]) 3 (fun _ => rfl) g.l i j hj
    rw [hx] at hat
    refine ⟨fb, cap, x, hv, hlt, rfl, h.fa _ (List.mem_of_getElem? hx), h.of fb (by rw [hv]; rfl), blk_lt hb, ?_, ?_, ?_, hf⟩
    · exact hc _ _ (hat 0 (by omega))
    · exact hc _ _ (hat 1 (by omega))
    · exact hc _ _ (hat 2 (by omega))

/-! ### How many bytes are loose. -/

def PF.many (f : PF) : Nat := (f.loose.map fun p => p.2.length).sum

theorem many_take (l : List (Nat × List UInt8)) (k : Nat) (p : Nat × List UInt8) (h : l[k]? = some p) : ((l.take (k + 1)).map fun p => p.2.length).sum = ((l.take k).map fun p => p.2.length).sum + p.2.length := by
  obtain ⟨hk, rfl⟩ := List.getElem?_eq_some_iff.1 h
  rw [List.take_succ_eq_append_getElem hk, List.map_append, List.sum_append]
  simp

theorem many_le (l : List (Nat × List UInt8)) (k : Nat) : ((l.take k).map fun p => p.2.length).sum ≤ (l.map fun p => p.2.length).sum := by
  conv => rhs; rw [← List.take_append_drop k l]
  rw [List.map_append, List.sum_append]
  omega

theorem put_at (l : List (Nat × List UInt8)) (k : Nat) (p : Nat × List UInt8) (h : l[k]? = some p) : (putCells l)[k * 2]? = some (.int .i64 (p.1 : Int)) ∧ (putCells l)[k * 2 + 1]? = some (.string (strB p.2)) := by
  have hat := fun j hj => flat_at (fun p : Nat × List UInt8 => [Value.int .i64 (p.1 : Int), .string (strB p.2)]) 2 (fun _ => rfl) l k j hj
  rw [h] at hat
  exact ⟨hat 0 (by omega), hat 1 (by omega)⟩

set_option maxRecDepth 100000 in
set_option maxHeartbeats 1000000 in
theorem pending_any (w : World) (b off : Nat) (lv : Value) (l : List (Nat × List UInt8)) (hc : w.cell? ⟨b, off + 2, none⟩ = some lv) (hl : w.ownsRow 0 63 2 lv l.length (putCells l)) (hm : (l.map fun p => p.2.length).sum < 1000000000000) (hn : l.length < 1000000000000) :
    Calls Try.prog 43 #[.pointer (some ⟨b, off, none⟩)] w fun e w' => e = .returned (.int .i64 ((l.map fun p => p.2.length).sum : Nat)) ∧ Below w.heap.size w w' := by
  have hrd := rd_of_own hl
  obtain ⟨a, cap, rfl, _, _, _, _⟩ := hrd
  have hl0 := Lib.hid hl
  clear hl
  go_enter Try.func43, Try.ntmps43
  go_wp2
  go_loopw [3, 11] (fun n i wr => ∃ k : Nat, k ≤ l.length ∧ i = .int .i64 k ∧ n = .int .i64 (((l.take k).map fun p => p.2.length).sum : Nat) ∧ Below w.heap.size w wr) (fun _ i _ => l.length - (intOf i).toNat)
  case atStart => exact ⟨0, Nat.zero_le _, rfl, rfl, Below.refl _ _⟩
  case round =>
    obtain ⟨k, hk, rfl, rfl, hB⟩ := hrel
    by_cases hlt : k < l.length
    · obtain ⟨q, hq⟩ : ∃ q, l[k]? = some q := ⟨_, List.getElem?_eq_getElem hlt⟩
      obtain ⟨g, cap', cur, hv, _, _, hg, hcc, hff⟩ := own_form hl0.out (by omega)
      cases hv
      obtain ⟨q1, q2⟩ := put_at l k q hq
      have hglt := blk_lt hg
      have e1 : wr.cell? ⟨g, k * 2, none⟩ = some (.int .i64 (q.1 : Int)) := (hB.cell (p := ⟨g, k * 2, none⟩) hglt).trans (hcc _ _ q1)
      have e2 : wr.cell? ⟨g, k * 2 + 1, none⟩ = some (.string (strB q.2)) := (hB.cell (p := ⟨g, k * 2 + 1, none⟩) hglt).trans (hcc _ _ q2)
      have hs := strB_size q.2
      have hst := many_take l k q hq
      have hle := many_le l (k + 1)
      rw [hst] at hle
      have HS := Lib.hid hst
      clear hst
      generalize ((l.take k).map fun p => p.2.length).sum = m at *
      have H1 := Lib.hid q1
      have H2 := Lib.hid q2
      have H3 := Lib.hid hcc
      have H4 := Lib.hid hff
      have H5 := Lib.hid hq
      have H6 := Lib.hid hg
      clear q1 q2 hcc hff hq hg
      go_wp2
      go_roundw
      case rel => exact ⟨k + 1, by omega, by go_num, by rw [HS.out]; go_num, hB.alloc (by have := hB.size; omega) _⟩
      case measure => simp [intOf]; omega
    · have HX : Hid ((((l.take k).map fun p => p.2.length).sum : Nat) = (l.map fun p => p.2.length).sum) := by rw [List.take_of_length_le (by omega)]; exact rfl
      go_wp2
      go_ret
      exact ⟨congrArg (fun n : Nat => Ending.returned (.int .i64 (n : Int))) HX.out, hB⟩

end Go.Proofs.Ytfeogoihkpclcaa

/-
  append and copy onto slices of the call's own or of an object's, with the word on where the new slice lies.
-/
namespace Go.Proofs.Ytfeogoihkpclcaa
open Go.RowKit

section
variable {P : Program} {w : World} {ops : Array Oper} {o : Oper} {a : Act} {K : Act → World → Prop} {Q : Exit → Act → World → Prop}

/-- 'append(b, s...)' of a string's bytes. -/
theorem wp_append_str (s x : Operand) (t u : TypeId) (hop : o.op = Op.call { callee := Callee.builtin Builtin.append, args := #[s, x], argTypes := #[t, u] })
    (e : Nat) (h1 : P.underlying t = some (.slice e)) (hu : P.underlying u = some .string) (h2 : (P.info? e).map (fun i => (i.zero, i.size, i.bytes)) = some (some (.int .u8 0), 1, 1))
    (v : Value) (l r : List UInt8) (hs : a.eval s = v) (hx : a.eval x = .string (strB r)) (hown : OwnB w 0 e v l)
    (hl : l.length + r.length ≤ 140737488355328)
    (hK : ∀ v' w', OwnB w' 0 e v' (l ++ r) → Moves w w' v v' → K (a.put o.dst v') w') : Oper.wp P o a w K Q := by
  obtain ⟨i0, hi, hz0, hz1, hz2⟩ := info_parts h2
  have hsz := strB_size r
  have hc : Lib.strCells (strB r) = r.map bv := rfl
  obtain ⟨v', w', hr, r2, r3, r4⟩ := Lib.run_append_own_string (P := P) w 0 t u o.type e i0 h1 hu hi hz0 hz1 hz2 v l.length (l.map bv) hown (strB r) (by rw [hsz]; unfold maxLen; omega) (by rw [hsz]; exact hl) (Nat.zero_le _)
  have hown' : OwnB w' 0 e v' (l ++ r) := by
    unfold OwnB
    rw [List.length_append, List.map_append, ← hc, ← hsz]
    exact r2
  have hat : ∀ k, v'.ownBlock = some k → v.ownBlock = some k ∨ (w.heap.size ≤ k ∧ k < w'.heap.size) := by
    intro k hk
    have hlt := own_lt r2 k hk
    rcases hown.2 with ⟨rfl, h0⟩ | ⟨g, cap, cur, rfl, _, hg, hn, hm, hcs, htake⟩
    · have hl0 : l = [] := List.eq_nil_of_length_eq_zero h0
      subst hl0
      by_cases hr0 : (strB r).size = 0
      · have : v' = .slice none 0 0 := r4.2 ⟨rfl, hr0⟩
        subst this
        cases hk
      · have hr' := run_append_nil_string (P := P) w t u o.type e i0 (.int .u8 0) h1 hu hi hz0 (strB r) (by omega) (by rw [hsz]; simp at hl; omega) (by rw [hz2, hsz]; simp at hl; omega)
        rw [hr] at hr'
        injection hr' with e1 e2
        rw [e1] at hk
        cases hk
        exact .inr ⟨Nat.le_refl _, hlt⟩
    · by_cases hroom : l.length + (strB r).size ≤ cap
      · have hr' := Lib.run_append_room_string (P := P) w t u o.type e i0 h1 hu hi hz1 g l.length cap cur hg (strB r) hroom (by omega)
        rw [hr] at hr'
        injection hr' with e1 e2
        rw [e1] at hk
        exact .inl hk
      · have holds : ∀ j u, (l.map bv)[j]? = some u → w.cell? ((⟨g, 0, none⟩ : Addr).add j) = some u := World.ownsRow.cells (g := g) hown rfl
        have hr' := Lib.run_append_grow_string (P := P) w t u o.type e i0 (.int .u8 0) h1 hu hi hz0 ⟨g, 0, none⟩ l.length cap (l.map bv) (by rw [hz1]; simp) holds (strB r) (by omega) (by rw [hsz]; omega) (by rw [hz2, hsz]; exact growslice_fits (by omega) (by omega))
        rw [hr] at hr'
        injection hr' with e1 e2
        rw [e1] at hk
        cases hk
        exact .inr ⟨Nat.le_refl _, hlt⟩
  unfold Oper.wp execOp
  simp only [hop, resolve, invoke, builtin, Sem.run_bind, Sem.run_pure, Result.andThen_ok, List.map_toArray, List.map_cons, List.map_nil, hs, hx, hr]
  exact hK _ _ hown' ⟨r3, hat⟩

/-- 'copy(b[at:], s)' of a string's bytes into a slice that is owned. -/
theorem wp_copy_str (d s : Operand) (dT sT : TypeId) (hop : o.op = Op.call { callee := Callee.builtin Builtin.copy, args := #[d, s], argTypes := #[dT, sT] })
    (e : Nat) (h1 : P.underlying dT = some (.slice e)) (h2 : (P.info? e).map (fun i => (i.zero, i.size, i.bytes)) = some (some (.int .u8 0), 1, 1))
    (v : Value) (l p : List UInt8) (hown : OwnB w 0 e v l) (dp : Option Addr) (at_ dCap : Nat) (hd : a.eval d = .slice dp (l.length - at_) dCap) (hs : a.eval s = .string (strB p)) (hat : at_ ≤ l.length)
    (hdp : ∀ g, at_ < l.length → v.ownBlock = some g → dp = some ⟨g, at_, none⟩) (n : Nat) (hn : n = min p.length (l.length - at_))
    (hK : ∀ w', OwnB w' 0 e v (wr l at_ (p.take (l.length - at_))) → Moves w w' v v → w'.heap.size = w.heap.size → K (a.put o.dst (.int .i64 (n : Int))) w') : Oper.wp P o a w K Q := by
  obtain ⟨i0, hi, hz0, hz1, hz2⟩ := info_parts h2
  have hsz := strB_size p
  have htk : p.take n = p.take (l.length - at_) := by
    rw [hn]
    by_cases h : p.length ≤ l.length - at_
    · rw [Nat.min_eq_left h, List.take_length, List.take_of_length_le h]
    · rw [Nat.min_eq_right (by omega)]
  have hex : (Builtin.firstCells 1 n (.string (strB p))).run P w = .ok ((p.take (l.length - at_)).map bv).toArray w := by
    rw [← htk]
    simp [Builtin.firstCells]
  by_cases h0 : n = 0
  · have hw : wr l at_ (p.take (l.length - at_)) = l := by
      have : p.take (l.length - at_) = [] := by
        apply List.eq_nil_of_length_eq_zero
        rw [List.length_take]; omega
      rw [this, wr_nil]
    have hnm : Nat.min p.length (l.length - at_) = n := hn.symm
    have hrun : (Builtin.copy_ #[dT, sT] o.type #[.slice dp (l.length - at_) dCap, .string (strB p)]).run P w = .ok (goInt n) w := by
      have hl : ((p.take (l.length - at_)).map bv) = [] := by
        have : p.take (l.length - at_) = [] := by
          apply List.eq_nil_of_length_eq_zero
          rw [List.length_take]; omega
        rw [this]; rfl
      rw [hl] at hex
      cases dp <;> simp [Builtin.copy_, run_underlying h1, Builtin.lenOf, sizeOf, typeInfo, hi, hz1, hsz, hnm, hex, storeCells]
    unfold Oper.wp execOp
    simp only [hop, resolve, invoke, builtin, Sem.run_bind, Sem.run_pure, Result.andThen_ok, List.map_toArray, List.map_cons, List.map_nil, hd, hs, hrun]
    exact hK w (by rw [hw]; exact hown) (Moves.refl _ _) rfl
  · have hlt : at_ < l.length := by omega
    obtain ⟨g, cap, cur, rfl, hnc, hcm, hg, hcell, hfree⟩ := own_form hown (by omega)
    obtain rfl := hdp g hlt rfl
    have hcur : cur.size = cap ∧ cur.toList.take l.length = l.map bv := by
      rcases hown.2 with ⟨h, _⟩ | ⟨g', cap', cur', hv, _, hg', _, _, hcs, htake⟩
      · cases h
      · cases hv
        rw [hg] at hg'
        cases hg'
        exact ⟨by simpa using hcs, by simpa using htake⟩
    have hnm : Nat.min p.length (l.length - at_) = n := hn.symm
    have hlen : ((p.take (l.length - at_)).map bv).length = n := by rw [List.length_map, List.length_take]; omega
    have hst := run_storeCells_at P g at_ e ((p.take (l.length - at_)).map bv) 0 cur w hg (by rw [hlen]; omega) (bv_oneCell _)
    rw [hlen, Nat.add_zero] at hst
    have hrun : (Builtin.copy_ #[dT, sT] o.type #[.slice (some ⟨g, at_, none⟩) (l.length - at_) dCap, .string (strB p)]).run P w = .ok (goInt n) (w.setRow g (cur.toList.take at_ ++ (p.take (l.length - at_)).map bv ++ cur.toList.drop (at_ + n)).toArray) := by
      simp [Builtin.copy_, run_underlying h1, Builtin.lenOf, sizeOf, typeInfo, hi, hz1, hsz, hnm, hex]
      simp at hst
      simp [hst]
    unfold Oper.wp execOp
    simp only [hop, resolve, invoke, builtin, Sem.run_bind, Sem.run_pure, Result.andThen_ok, List.map_toArray, List.map_cons, List.map_nil, hd, hs, hrun]
    have hwl : (wr l at_ (p.take (l.length - at_))).length = l.length := by
      rw [wr_length _ _ _ (by omega), List.length_take]
      omega
    have := hK (w.setRow g (cur.toList.take at_ ++ (p.take (l.length - at_)).map bv ++ cur.toList.drop (at_ + n)).toArray) ?_ ⟨⟨rfl, rfl, rfl, by simp [World.setRow], fun k _ hk => setRow_other w g k _ (fun e => hk (by simp [Value.ownBlock, e]))⟩, fun k hk => .inl hk⟩ (by simp [World.setRow])
    · exact this
    · unfold OwnB
      rw [hwl]
      refine ⟨by simp [hwl], .inr ⟨g, cap, _, rfl, Nat.zero_le _, setRow_heap w g cur _ e _ hg, hnc, hcm, ?_, ?_⟩⟩
      · simp only [List.size_toArray, List.length_append, List.length_take, List.length_drop, Array.length_toList, List.length_map]
        omega
      · have e1 : l.length * 1 = l.length := Nat.mul_one _
        rw [e1]
        obtain ⟨hcs, htake⟩ := hcur
        have hq : (p.take (l.length - at_)).length = n := by simpa using hlen
        generalize p.take (l.length - at_) = q at *
        have hA : cur.toList.take at_ = (l.map bv).take at_ := by rw [← htake, List.take_take, Nat.min_eq_left (by omega)]
        have hD : (cur.toList.drop (at_ + n)).take (l.length - (at_ + n)) = (l.map bv).drop (at_ + n) := by rw [← htake, List.drop_take]
        have hal : (cur.toList.take at_ ++ q.map bv).length = at_ + n := by
          rw [hA, List.length_append, List.length_take, List.length_map, List.length_map, hq]
          omega
        show (cur.toList.take at_ ++ q.map bv ++ cur.toList.drop (at_ + n)).take l.length = _
        rw [List.take_append, hal, List.take_of_length_le (by rw [hal]; omega), hD, hA]
        unfold wr
        rw [hq, List.map_append, List.map_append, List.map_take, List.map_drop]
end
end Go.Proofs.Ytfeogoihkpclcaa
