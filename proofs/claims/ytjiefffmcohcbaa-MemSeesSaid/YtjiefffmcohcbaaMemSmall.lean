/-
  The list with towers: a new one, a link's place, a node's entry, how many there are, how many bytes.
-/
import Derived.Test.YtjiefffmcohcbaaMemHeap
import Derived.Laws.Rows
namespace Go.Proofs.Ytjiefffmcohcbaa
open Go.RowKit

def gm0 (p : Nat) : GM := ⟨fun k => if k = p then .mem else .out, fun _ => 0, .slice none 0 0⟩

set_option maxRecDepth 100000 in
theorem memNew_at (w : World) : Calls Try.prog 8 #[] w fun e w' => ∃ p, e = .returned (.pointer (some ⟨p, 0, none⟩)) ∧ w.heap.size ≤ p ∧ MemAt (gm0 p) w' p MS.new ∧ Below w.heap.size w w' := by
  go_enter Try.func8, Try.ntmps8
  go_wp2
  go_ret
  refine ⟨w.heap.size, rfl, Nat.le_refl _, ?_, (Below.refl _ _).alloc (Nat.le_refl _) _⟩
  exact {
    blk := heap_alloc_new w _
    rol := by show (if w.heap.size = w.heap.size then _ else _) = _; rw [if_pos rfl]
    nr := World.ownsRow_nil _ _ _ _
    onv := fun k hk => by cases hk
    tw := fun a h1 h2 => by simp [MS.new] at h2; omega
    olt := fun k hk => by
      by_cases h : k = w.heap.size
      · subst h; simp
      · exact absurd (show (if k = w.heap.size then MRole.mem else MRole.out) = .out by rw [if_neg h]) hk }

set_option maxRecDepth 100000 in
set_option maxHeartbeats 1000000 in
theorem link_at {g : GM} {w : World} {p : Nat} {m : MS} (hm : MemAt g w p m) {a h : Nat} (hl : LinkIn m a h) (ht : ∀ b, 1 ≤ b → b ≤ m.es.length → m.ht b ≤ 12) :
    Calls Try.prog 22 #[.pointer (some ⟨p, 0, none⟩), .int .i64 (a : Int), .int .i64 (h : Int)] w fun e w' => e = .returned (.pointer (some (laddr g p a h))) ∧ w = w' := by
  rcases hl with ⟨rfl, hh⟩ | ⟨h1, h2, h3⟩
  · have e1 : laddr g p 0 h = ⟨p, h, none⟩ := by unfold laddr; rw [if_pos rfl]
    rw [e1]
    clear e1 hm ht
    have hh' : (h : Int) < 12 := by omega
    go_enter Try.func22, Try.ntmps22
    go_wp2
    go_ret
    exact ⟨by simp, rfl⟩
  · obtain ⟨b, cap, hv, hn, hcm, _, _, _, _, _, c4⟩ := hm.node h1 h2
    obtain ⟨f1, _, _, _⟩ := hm.fields
    rw [hv] at f1
    have ht' := ht a h1 h2
    have e1 : laddr g p a h = ⟨g.tb a, h, none⟩ := by unfold laddr; rw [if_neg (by omega)]
    rw [e1]
    unfold maxLen at hcm
    obtain ⟨j, rfl⟩ : ∃ j, a = j + 1 := ⟨a - 1, by omega⟩
    rw [Nat.add_sub_cancel] at c4
    generalize m.es.length = n at *
    generalize m.ht (j + 1) = t at *
    generalize g.tb (j + 1) = tb at *
    clear hv e1 hm ht
    have d1 : ((j + 1 : Nat) : Int) ≠ 0 := by omega
    have d2 : IntKind.i64.wrap (((j + 1 : Nat) : Int) - 1) = (j : Int) := by rw [IntWalk.i64_in _ (by omega)]; omega
    have d3 : (j : Int) < (n : Int) := by omega
    have d4 : (h : Int) < (t : Int) := by omega
    go_enter Try.func22, Try.ntmps22
    go_wp2
    go_ret
    exact ⟨by simp, rfl⟩

set_option maxRecDepth 100000 in
set_option maxHeartbeats 1000000 in
theorem entry_at {g : GM} {w : World} {p : Nat} {m : MS} (hm : MemAt g w p m) {a : Nat} (h1 : 1 ≤ a) (h2 : a ≤ m.es.length) (e : Ent) (he : m.ent a = e) :
    Calls Try.prog 23 #[.pointer (some ⟨p, 0, none⟩), .int .i64 (a : Int)] w fun r w' => r = .returned (.agg #[.string e.u, .int .i64 e.s, .int .i64 e.k, .string e.v]) ∧ Below w.heap.size w w' := by
  subst he
  obtain ⟨b, cap, hv, hn, hcm, hob, c0, c1, c2, c3, _⟩ := hm.node h1 h2
  obtain ⟨f1, _, _, _⟩ := hm.fields
  have hbw : b < w.heap.size := hm.olt b (by rw [hob]; decide)
  have hpw : p < w.heap.size := blk_lt hm.blk
  rw [hv] at f1
  unfold maxLen at hcm
  obtain ⟨j, rfl⟩ : ∃ j, a = j + 1 := ⟨a - 1, by omega⟩
  rw [Nat.add_sub_cancel] at c0 c1 c2 c3
  generalize m.es.length = n at *
  generalize m.ent (j + 1) = en at *
  obtain ⟨eu, es, ek, ev⟩ := en
  simp only at c0 c1 c2 c3
  clear hv hm
  have d2 : IntKind.i64.wrap (((j + 1 : Nat) : Int) - 1) = (j : Int) := by rw [IntWalk.i64_in _ (by omega)]; omega
  have d3 : (j : Int) < (n : Int) := by omega
  go_enter Try.func23, Try.ntmps23
  go_wp2
  refine bodyPost_ret (results_cell_row rfl _ _ w.heap.size 34 #[.string eu, .int .i64 es, .int .i64 ek, .string ev] (0, 0) _ rfl (heap_alloc_new w _) Try.underlying34 rfl (by kernel_rfl)) rfl ?_
  exact ⟨rfl, (Below.refl _ _).alloc (Nat.le_refl _) _⟩

set_option maxRecDepth 100000 in
theorem memLen_at {g : GM} {w : World} {p : Nat} {m : MS} (hm : MemAt g w p m) : Calls Try.prog 11 #[.pointer (some ⟨p, 0, none⟩)] w fun e w' => e = .returned (.int .i64 (m.es.length : Int)) ∧ w = w' := by
  obtain ⟨f1, _, _, _⟩ := hm.fields
  obtain ⟨a, cap, hv, _, _⟩ := rd_of_own hm.nr
  rw [hv] at f1
  clear hm hv
  go_enter Try.func11, Try.ntmps11
  go_wp2
  go_ret
  exact ⟨rfl, rfl⟩

set_option maxRecDepth 100000 in
theorem memSize_at {g : GM} {w : World} {p : Nat} {m : MS} (hm : MemAt g w p m) : Calls Try.prog 12 #[.pointer (some ⟨p, 0, none⟩)] w fun e w' => e = .returned (.int .i64 (m.sz : Int)) ∧ w = w' := by
  obtain ⟨_, f1, _, _⟩ := hm.fields
  clear hm
  go_enter Try.func12, Try.ntmps12
  go_wp2
  go_ret
  exact ⟨rfl, rfl⟩
end Go.Proofs.Ytjiefffmcohcbaa
