/-
  Batches in memory: a slice that reads as a list of batches; one of the call's own.
-/
import Derived.Test.YtpbmacbogmnokaaOps
import Derived.Test.YtpbmacbogmnokaaMoves
namespace Go.Proofs.Ytpbmacbogmnokaa
open Go.RowKit

/-- A batch: its Seq, its operations. -/
structure Bat where
  s : Int
  ops : List Ope

instance : Inhabited Bat := ⟨⟨0, []⟩⟩

/-- A batch and the slice of its operations. -/
abbrev BV := Bat × Value

def BV.none_ : BV := (⟨0, []⟩, .slice none 0 0)

def cellsB (x : BV) : List Value := [.int .i64 x.1.s, x.2]

/-- The slice 'v' reads as these batches in world 'w'. -/
def RdBs (w : World) (v : Value) (xs : List BV) : Prop := Rd w 2 v xs.length (xs.flatMap cellsB) ∧ ∀ x ∈ xs, RdO w x.2 x.1.ops ∧ (Lit.int .i64 x.1.s).wf = true

theorem RdBs.below {w w' : World} {v : Value} {xs : List BV} (h : RdBs w v xs) {B : Nat} (hb : Below B w w') (hB : w.heap.size ≤ B) : RdBs w' v xs :=
  ⟨Rd.below h.1 hb hB, fun x hx => ⟨(h.2 x hx).1.below hb hB, (h.2 x hx).2⟩⟩

theorem RdBs.form {w : World} {v : Value} {xs : List BV} (h : RdBs w v xs) : ∃ a cap, v = .slice a xs.length cap ∧ xs.length ≤ cap ∧ cap ≤ maxLen := by
  obtain ⟨⟨a, cap, rfl, h1, h2, _⟩, _⟩ := h
  exact ⟨a, cap, rfl, h1, h2⟩

theorem RdBs.nil (w : World) : RdBs w (.slice none 0 0) [] := ⟨Rd.nil _ _, fun x hx => by cases hx⟩

theorem batFlat_length : ∀ l : List BV, (l.flatMap cellsB).length = l.length * 2
  | [] => rfl
  | o :: r => by
    rw [List.flatMap_cons, List.length_append, batFlat_length r, List.length_cons]
    simp only [cellsB, List.length_cons, List.length_nil]
    omega

theorem batFlat_at : ∀ (l : List BV) (i t : Nat), i < l.length → t < 2 → (l.flatMap cellsB)[i * 2 + t]? = (cellsB (l.getD i BV.none_))[t]?
  | [], i, t, h, _ => by simp at h
  | o :: r, 0, t, _, ht => by
    rw [List.flatMap_cons, Nat.zero_mul, Nat.zero_add, List.getElem?_append_left (by simp [cellsB]; omega)]
    rfl
  | o :: r, i + 1, t, h, ht => by
    rw [List.flatMap_cons, List.getElem?_append_right (by simp [cellsB]; omega)]
    have : (i + 1) * 2 + t - (cellsB o).length = i * 2 + t := by simp [cellsB]; omega
    rw [this, batFlat_at r i t (by simpa using h) ht]
    simp [List.getD]

theorem bvGet {l : List BV} {i : Nat} (hi : i < l.length) : l.getD i BV.none_ ∈ l := by
  simp only [List.getD, List.getElem?_eq_getElem hi, Option.getD_some]
  exact List.getElem_mem hi

/-- Where the 'i'-th batch lies. -/
theorem RdBs.at_ {w : World} {a : Option Addr} {cap : Nat} {xs : List BV} (h : RdBs w (.slice a xs.length cap) xs) {i : Nat} (hi : i < xs.length) :
    ∃ b off pa pc, a = some ⟨b, off, none⟩ ∧ b < w.heap.size ∧ (xs.getD i BV.none_).2 = .slice pa (xs.getD i BV.none_).1.ops.length pc ∧
      w.cell? ⟨b, off + i * 2, none⟩ = some (.int .i64 (xs.getD i BV.none_).1.s) ∧ w.cell? ⟨b, off + i * 2 + 1, none⟩ = some (.slice pa (xs.getD i BV.none_).1.ops.length pc) ∧
      RdO w (.slice pa (xs.getD i BV.none_).1.ops.length pc) (xs.getD i BV.none_).1.ops ∧ (Lit.int .i64 (xs.getD i BV.none_).1.s).wf = true := by
  obtain ⟨⟨a', cap', hv, h1, h2, h0, h3 | ⟨b, off, rfl, h4, h5⟩⟩, h6⟩ := h
  · omega
  · cases hv
    obtain ⟨hr, hwf⟩ := h6 _ (bvGet hi)
    obtain ⟨pa, pc, hp, _, _⟩ := hr.form
    refine ⟨b, off, pa, pc, rfl, h4, hp, ?_, ?_, hp ▸ hr, hwf⟩
    · exact h5 (i * 2) _ (batFlat_at xs i 0 hi (by omega))
    · rw [Nat.add_assoc, ← hp]
      exact h5 (i * 2 + 1) _ (batFlat_at xs i 1 hi (by omega))

theorem batFlat_drop : ∀ (l : List BV) (m : Nat), (l.drop m).flatMap cellsB = (l.flatMap cellsB).drop (m * 2)
  | l, 0 => by simp
  | [], m + 1 => by simp
  | o :: r, m + 1 => by
    rw [List.drop_succ_cons, batFlat_drop r m, List.flatMap_cons, show (m + 1) * 2 = (cellsB o).length + m * 2 from by simp [cellsB]; omega, ← List.drop_drop, List.drop_left' rfl]

theorem batFlat_take : ∀ (l : List BV) (m : Nat), (l.take m).flatMap cellsB = (l.flatMap cellsB).take (m * 2)
  | l, 0 => by simp
  | [], m + 1 => by simp
  | o :: r, m + 1 => by
    rw [List.take_succ_cons, List.flatMap_cons, batFlat_take r m, List.flatMap_cons, show (m + 1) * 2 = (cellsB o).length + m * 2 from by simp [cellsB]; omega, List.take_append_of_le_length_add]
where
  List.take_append_of_le_length_add {a b : List Value} {n : Nat} : (a ++ b).take (a.length + n) = a ++ b.take n := by
    rw [List.take_append, List.take_of_length_le (by omega)]
    congr 2
    omega

/-- The slice 'v' of batches lies in memory of the call's own, from block 'B' on, and so do the operations of each, in other blocks. -/
def OwnBs (w : World) (B : Nat) (v : Value) (xs : List BV) : Prop := w.ownsRow B 24 2 v xs.length (xs.flatMap cellsB) ∧
  ∀ x ∈ xs, OwnO w B 43 x.2 x.1.ops ∧ (∀ o ∈ x.1.ops, o.fits) ∧ (Lit.int .i64 x.1.s).wf = true ∧ ∀ k, x.2.ownBlock = some k → v.ownBlock ≠ some k

/-- Its blocks. -/
def inBs (v : Value) (xs : List BV) (k : Nat) : Prop := v.ownBlock = some k ∨ ∃ x ∈ xs, x.2.ownBlock = some k

theorem OwnBs.nil (w : World) (B : Nat) : OwnBs w B (.slice none 0 0) [] := ⟨World.ownsRow_nil _ _ _ _, fun x h => by cases h⟩

theorem inBs_nil {k : Nat} : ¬ inBs (.slice none 0 0) [] k := by
  rintro (h | ⟨x, hx, _⟩)
  · cases h
  · cases hx

theorem OwnBs.read {w : World} {B : Nat} {v : Value} {xs : List BV} (h : OwnBs w B v xs) : RdBs w v xs :=
  ⟨rd_of_own h.1, fun x hx => ⟨(h.2 x hx).1.read (h.2 x hx).2.1, (h.2 x hx).2.2.1⟩⟩

theorem OwnBs.lt {w : World} {B : Nat} {v : Value} {xs : List BV} (h : OwnBs w B v xs) {k : Nat} (hk : inBs v xs k) : B ≤ k ∧ k < w.heap.size := by
  rcases hk with hk | ⟨x, hx, hk⟩
  · exact World.ownsRow.lt h.1 k hk
  · exact World.ownsRow.lt (h.2 x hx).1 k hk

theorem OwnBs.kept {R : Nat → Prop} {w w' : World} {B : Nat} {v : Value} {xs : List BV} (h : OwnBs w B v xs) (hk : Kept R w w') (hR : ∀ k, inBs v xs k → R k) : OwnBs w' B v xs :=
  ⟨own_kept h.1 hk fun k e => hR k (.inl e), fun x hx => ⟨own_kept (h.2 x hx).1 hk fun k e => hR k (.inr ⟨x, hx, e⟩), (h.2 x hx).2⟩⟩

theorem OwnBs.below {w w' : World} {B : Nat} {v : Value} {xs : List BV} (h : OwnBs w B v xs) {B' : Nat} (hb : Below B' w w') (hB : w.heap.size ≤ B') : OwnBs w' B v xs :=
  h.kept (R := fun k => k < B') (Kept.of hb fun _ h => h) fun k hk => by have := (h.lt hk).2; omega

theorem OwnBs.base {w : World} {B B' : Nat} {v : Value} {xs : List BV} (h : OwnBs w B v xs) (hB : B' ≤ B) : OwnBs w B' v xs :=
  ⟨own_base h.1 fun _ e => Nat.le_trans hB (h.lt (.inl e)).1, fun x hx => ⟨own_base (h.2 x hx).1 fun _ e => Nat.le_trans hB (h.lt (.inr ⟨x, hx, e⟩)).1, (h.2 x hx).2⟩⟩

theorem OwnBs.form {w : World} {B : Nat} {v : Value} {xs : List BV} (h : OwnBs w B v xs) : ∃ a cap, v = .slice a xs.length cap ∧ xs.length ≤ cap ∧ cap ≤ maxLen := h.read.form

/-- What is put behind. -/
def ElemB (w : World) (B : Nat) (v : Value) (x : BV) : Prop := OwnO w B 43 x.2 x.1.ops ∧ (∀ o ∈ x.1.ops, o.fits) ∧ (Lit.int .i64 x.1.s).wf = true ∧ ∀ k, x.2.ownBlock = some k → v.ownBlock ≠ some k

/-- One more: 'append(l, x)'. -/
theorem OwnBs.push {w0 w1 : World} {B : Nat} {v : Value} {xs : List BV} {x : BV} (h : OwnBs w0 B v xs) (hb : Below w0.heap.size w0 w1) (hB : B ≤ w0.heap.size) (hx : ElemB w1 B v x) :
    w1.ownsRow 0 24 2 v xs.length (xs.flatMap cellsB) ∧
      ∀ v' w', w'.ownsRow 0 24 2 v' (xs.length + 1) (xs.flatMap cellsB ++ cellsB x) → Moves w1 w' v v' → OwnBs w' B v' (xs ++ [x]) ∧ Below B w0 w' := by
  have h1 := h.below hb (Nat.le_refl _)
  refine ⟨own_base h1.1 fun _ _ => Nat.zero_le _, fun v' w' hown hm => ⟨⟨?_, ?_⟩, ?_⟩⟩
  · rw [List.length_append, List.flatMap_append, List.flatMap_cons, List.flatMap_nil, List.append_nil]
    exact own_base hown fun k hk => by
      rcases hm.at_ k hk with e | e
      · exact (h1.lt (.inl e)).1
      · have := hb.size; omega
  · have keep : ∀ y : BV, ElemB w1 B v y → ElemB w' B v' y := by
      intro y ⟨y1, y2, y3, y4⟩
      refine ⟨own_kept y1 (hm.kept (R := fun k => k < w1.heap.size ∧ v.ownBlock ≠ some k) fun _ h => h) fun k hk => ⟨(World.ownsRow.lt y1 k hk).2, y4 k hk⟩, y2, y3, fun k hk e => ?_⟩
      rcases hm.at_ k e with e | e
      · exact y4 k hk e
      · have := (World.ownsRow.lt y1 k hk).2
        omega
    intro y hy
    rw [List.mem_append, List.mem_singleton] at hy
    rcases hy with hy | rfl
    · exact keep y (h1.2 y hy)
    · exact keep y hx
  · exact (hb.mono hB).grown hm.grown (Nat.le_trans hB hb.size) fun k hk => (h1.lt (.inl hk)).1

/-- Another list of batches, none of whose blocks is that of the slice that has grown, stays, apart from it. -/
theorem OwnBs.stays {w w' : World} {B : Nat} {u v v' : Value} {xs : List BV} (h : OwnBs w B u xs) (ha : ∀ k, inBs u xs k → v.ownBlock ≠ some k) (hm : Moves w w' v v') :
    OwnBs w' B u xs ∧ ∀ k, inBs u xs k → v'.ownBlock ≠ some k := by
  refine ⟨h.kept (hm.kept (R := fun k => k < w.heap.size ∧ v.ownBlock ≠ some k) fun _ h => h) fun k hk => ⟨(h.lt hk).2, ha k hk⟩, fun k hk e => ?_⟩
  rcases hm.at_ k e with e | e
  · exact ha k hk e
  · have := (h.lt hk).2
    omega

theorem info_bats : (Try.prog.info? 24).map (fun i => (i.zero, i.size, i.bytes)) = some (some (.agg #[.int .i64 0, .slice none 0 0]), 2, 32) := by kernel_rfl

/-- The slice of one batch that was built. -/
theorem one_bat (w : World) (s : Int) (c : Value) : Rd (w.alloc (.cells #[.int .i64 s, c] 24)) 2 (.slice (some ⟨w.heap.size, 0, none⟩) 1 1) 1 [.int .i64 s, c] := by
  refine ⟨_, 1, rfl, Nat.le_refl _, by unfold maxLen; omega, rfl, .inr ⟨w.heap.size, 0, rfl, by simp, fun j u hj => ?_⟩⟩
  rw [Nat.zero_add, blk_cell (heap_alloc_new w _)]
  simpa using hj

/-- A part of a slice of batches: from 'm' on; the first 'n'. -/
theorem RdBs.from_ {w : World} {b off cap : Nat} {xs : List BV} (h : RdBs w (.slice (some ⟨b, off, none⟩) xs.length cap) xs) (m : Nat) (hm : m ≤ xs.length) :
    RdBs w (.slice (some ⟨b, off + m * 2, none⟩) (xs.length - m) (cap - m)) (xs.drop m) := by
  obtain ⟨⟨a', cap', hv, h1, h2, h0, h3⟩, h6⟩ := h
  cases hv
  refine ⟨⟨_, _, by rw [List.length_drop], by rw [List.length_drop]; omega, by omega, batFlat_length _, ?_⟩, fun x hx => h6 x (List.mem_of_mem_drop hx)⟩
  by_cases h0' : xs.length - m = 0
  · exact .inl ⟨by rw [List.length_drop]; exact h0', fun e => by cases e⟩
  · rcases h3 with ⟨h3, _⟩ | ⟨b', off', hb, h4, h5⟩
    · omega
    · cases hb
      refine .inr ⟨b, off + m * 2, rfl, h4, fun j u hj => ?_⟩
      rw [batFlat_drop, List.getElem?_drop] at hj
      rw [Nat.add_assoc]
      exact h5 _ u hj

theorem RdBs.front {w : World} {a : Option Addr} {cap : Nat} {xs : List BV} (h : RdBs w (.slice a xs.length cap) xs) (n : Nat) (hn : n ≤ xs.length) : RdBs w (.slice a n cap) (xs.take n) := by
  obtain ⟨⟨a', cap', hv, h1, h2, h0, h3⟩, h6⟩ := h
  cases hv
  have hlen : (xs.take n).length = n := by rw [List.length_take]; omega
  refine ⟨⟨_, _, by rw [hlen], by rw [hlen]; omega, by omega, batFlat_length _, ?_⟩, fun x hx => h6 x (List.mem_of_mem_take hx)⟩
  rcases h3 with ⟨h3, h4⟩ | ⟨b, off, hb, h4, h5⟩
  · exact .inl ⟨by rw [hlen]; omega, h4⟩
  · refine .inr ⟨b, off, hb, h4, fun j u hj => ?_⟩
    rw [batFlat_take, List.getElem?_take] at hj
    split at hj
    · exact h5 _ u hj
    · cases hj
end Go.Proofs.Ytpbmacbogmnokaa
