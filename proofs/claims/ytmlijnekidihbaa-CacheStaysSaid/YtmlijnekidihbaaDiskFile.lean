/-
  A file of the disk: where its slices lie; how many bytes are loose; a write laid over bytes.
-/
import Derived.Test.YtmlijnekidihbaaDiskFind
import Derived.Test.YtmlijnekidihbaaMoves
import Derived.Laws.CopyOwn
namespace Go.Proofs.Ytmlijnekidihbaa
open Go.RowKit

theorem flat_at {α β : Type} (f : α → List β) (k : Nat) (hf : ∀ a, (f a).length = k) : ∀ (l : List α) (i j : Nat), j < k → (l.flatMap f)[i * k + j]? = (l[i]?).bind fun a => (f a)[j]?
  | [], i, j, _ => by simp
  | a :: r, 0, j, hj => by
    rw [List.flatMap_cons, Nat.zero_mul, Nat.zero_add, List.getElem?_append_left (by rw [hf]; exact hj)]
    rfl
  | a :: r, i + 1, j, hj => by
    rw [List.flatMap_cons, List.getElem?_append_right (by rw [hf, Nat.succ_mul]; omega), hf]
    have e : (i + 1) * k + j - k = i * k + j := by rw [Nat.succ_mul]; omega
    rw [e, flat_at f k hf r i j hj]
    simp

theorem flat_length {α β : Type} (f : α → List β) (k : Nat) (hf : ∀ a, (f a).length = k) (l : List α) : (l.flatMap f).length = l.length * k := by
  induction l with
  | nil => simp
  | cons a r ih => rw [List.flatMap_cons, List.length_append, ih, hf, List.length_cons, Nat.succ_mul]; omega

/-- The file of that number. -/
theorem DiskAt.file {g : Gh} {w : World} {p : Nat} {d : PD} (h : DiskAt g w p d) {i : Nat} {f : PF} (hi : d.files[i]? = some f) : ∃ fb cap x, g.fv = .slice (some ⟨fb, 0, none⟩) g.l.length cap ∧ i < g.l.length ∧ g.l[i]? = some (x, f) ∧ FileAt g.o w x f ∧ g.o fb = .files ∧ fb < w.heap.size ∧
    w.cell? ⟨fb, i * 3, none⟩ = some x.vs ∧ w.cell? ⟨fb, i * 3 + 1, none⟩ = some x.vn ∧ w.cell? ⟨fb, i * 3 + 2, none⟩ = some x.vl ∧ (∀ j, w.frozen? ⟨fb, j, none⟩ = false) := by
  rw [h.fl, List.getElem?_map] at hi
  cases hx : g.l[i]? with
  | none => rw [hx] at hi; cases hi
  | some xf =>
    rw [hx] at hi
    obtain ⟨x, f'⟩ := xf
    cases hi
    have hlt : i < g.l.length := (List.getElem?_eq_some_iff.1 hx).1
    obtain ⟨fb, cap, cur, hv, _, _, hb, hc, hf⟩ := own_form h.fr (by omega)
    have hat := fun j hj => flat_at (fun x : GF × PF => [x.1.vs, x.1.vn, x.1.vl]) 3 (fun _ => rfl) g.l i j hj
    rw [hx] at hat
    refine ⟨fb, cap, x, hv, hlt, rfl, h.fa _ (List.mem_of_getElem? hx), h.of fb (by rw [hv]; rfl), blk_lt hb, ?_, ?_, ?_, hf⟩
    · exact hc _ _ (hat 0 (by omega))
    · exact hc _ _ (hat 1 (by omega))
    · exact hc _ _ (hat 2 (by omega))

/-! ### How many bytes are loose. -/

def PF.many (f : PF) : Nat := (f.loose.map fun p => p.2.length).sum

theorem many_take (l : List (Nat × List UInt8)) (k : Nat) (p : Nat × List UInt8) (h : l[k]? = some p) : ((l.take (k + 1)).map fun p => p.2.length).sum = ((l.take k).map fun p => p.2.length).sum + p.2.length := by
  obtain ⟨hk, rfl⟩ := List.getElem?_eq_some_iff.1 h
  rw [List.take_succ_eq_append_getElem hk, List.map_append, List.sum_append]
  simp

theorem many_le (l : List (Nat × List UInt8)) (k : Nat) : ((l.take k).map fun p => p.2.length).sum ≤ (l.map fun p => p.2.length).sum := by
  conv => rhs; rw [← List.take_append_drop k l]
  rw [List.map_append, List.sum_append]
  omega

theorem put_at (l : List (Nat × List UInt8)) (k : Nat) (p : Nat × List UInt8) (h : l[k]? = some p) : (putCells l)[k * 2]? = some (.int .i64 (p.1 : Int)) ∧ (putCells l)[k * 2 + 1]? = some (.string (strB p.2)) := by
  have hat := fun j hj => flat_at (fun p : Nat × List UInt8 => [Value.int .i64 (p.1 : Int), .string (strB p.2)]) 2 (fun _ => rfl) l k j hj
  rw [h] at hat
  exact ⟨hat 0 (by omega), hat 1 (by omega)⟩

set_option maxRecDepth 100000 in
set_option maxHeartbeats 1000000 in
theorem pending_any (w : World) (b off : Nat) (lv : Value) (l : List (Nat × List UInt8)) (hc : w.cell? ⟨b, off + 2, none⟩ = some lv) (hl : w.ownsRow 0 96 2 lv l.length (putCells l)) (hm : (l.map fun p => p.2.length).sum < 1000000000000) (hn : l.length < 1000000000000) :
    Calls Try.prog 60 #[.pointer (some ⟨b, off, none⟩)] w fun e w' => e = .returned (.int .i64 ((l.map fun p => p.2.length).sum : Nat)) ∧ Below w.heap.size w w' := by
  have hrd := rd_of_own hl
  obtain ⟨a, cap, rfl, _, _, _, _⟩ := hrd
  have hl0 := Lib.hid hl
  clear hl
  go_enter Try.func60, Try.ntmps60
  go_wp2
  go_loopw [3, 11] (fun n i wr => ∃ k : Nat, k ≤ l.length ∧ i = .int .i64 k ∧ n = .int .i64 (((l.take k).map fun p => p.2.length).sum : Nat) ∧ Below w.heap.size w wr) (fun _ i _ => l.length - (intOf i).toNat)
  case atStart => exact ⟨0, Nat.zero_le _, rfl, rfl, Below.refl _ _⟩
  case round =>
    obtain ⟨k, hk, rfl, rfl, hB⟩ := hrel
    by_cases hlt : k < l.length
    · obtain ⟨q, hq⟩ : ∃ q, l[k]? = some q := ⟨_, List.getElem?_eq_getElem hlt⟩
      obtain ⟨g, cap', cur, hv, _, _, hg, hcc, hff⟩ := own_form hl0.out (by omega)
      cases hv
      obtain ⟨q1, q2⟩ := put_at l k q hq
      have hglt := blk_lt hg
      have e1 : wr.cell? ⟨g, k * 2, none⟩ = some (.int .i64 (q.1 : Int)) := (hB.cell (p := ⟨g, k * 2, none⟩) hglt).trans (hcc _ _ q1)
      have e2 : wr.cell? ⟨g, k * 2 + 1, none⟩ = some (.string (strB q.2)) := (hB.cell (p := ⟨g, k * 2 + 1, none⟩) hglt).trans (hcc _ _ q2)
      have hs := strB_size q.2
      have hst := many_take l k q hq
      have hle := many_le l (k + 1)
      rw [hst] at hle
      have HS := Lib.hid hst
      clear hst
      generalize ((l.take k).map fun p => p.2.length).sum = m at *
      have H1 := Lib.hid q1
      have H2 := Lib.hid q2
      have H3 := Lib.hid hcc
      have H4 := Lib.hid hff
      have H5 := Lib.hid hq
      have H6 := Lib.hid hg
      clear q1 q2 hcc hff hq hg
      go_wp2
      go_roundw
      case rel => exact ⟨k + 1, by omega, by go_num, by rw [HS.out]; go_num, hB.alloc (by have := hB.size; omega) _⟩
      case measure => simp [intOf]; omega
    · have HX : Hid ((((l.take k).map fun p => p.2.length).sum : Nat) = (l.map fun p => p.2.length).sum) := by rw [List.take_of_length_le (by omega)]; exact rfl
      go_wp2
      go_ret
      exact ⟨congrArg (fun n : Nat => Ending.returned (.int .i64 (n : Int))) HX.out, hB⟩

end Go.Proofs.Ytmlijnekidihbaa
