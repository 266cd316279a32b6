/-
  The program's list with towers in memory: whose block is whose; what stays while others write.
-/
import Derived.Test.YtjiefffmcohcbaaMemMath
import Derived.Test.YtjiefffmcohcbaaCells
import Derived.Test.YtjiefffmcohcbaaProg
namespace Go.Proofs.Ytjiefffmcohcbaa
open Go.RowKit

inductive MRole where
  | out | mem | nodes | tow (a : Nat)
  deriving DecidableEq

/-- What is not told by the plain list: where it lies: whose block is whose, each node's tower, the slice of nodes. -/
structure GM where
  o : Nat → MRole
  tb : Nat → Nat
  nv : Value

def lkCells (f : Nat → Nat → Nat) (a n : Nat) : List Value := (List.range n).map fun h => .int .i64 (f a h : Int)
def nodeC (tb ht : Nat → Nat) (es : List Ent) (i : Nat) : List Value := (es.getD i Ent.none_).cells ++ [.slice (some ⟨tb (i + 1), 0, none⟩) (ht (i + 1)) (ht (i + 1))]
def nodeCells (tb ht : Nat → Nat) (es : List Ent) : List Value := ((List.range es.length).map (nodeC tb ht es)).flatten
def memCells (g : GM) (m : MS) : Array Value := (lkCells m.lk 0 12 ++ [g.nv, .int .i64 (m.sz : Int)]).toArray

structure MemAt (g : GM) (w : World) (p : Nat) (m : MS) : Prop where
  blk : w.heap[p]? = some (.cells (memCells g m) 53 (0, 0))
  rol : g.o p = .mem
  nr : w.ownsRow 0 59 5 g.nv m.es.length (nodeCells g.tb m.ht m.es)
  onv : ∀ k, g.nv.ownBlock = some k → g.o k = .nodes
  tw : ∀ a, 1 ≤ a → a ≤ m.es.length → w.heap[g.tb a]? = some (.cells (lkCells m.lk a (m.ht a)).toArray 3 (0, 0)) ∧ g.o (g.tb a) = .tow a
  olt : ∀ k, g.o k ≠ .out → k < w.heap.size

/-- The blocks of it. -/
def GM.F (g : GM) (k : Nat) : Prop := g.o k ≠ .out

theorem MemAt.kept {g : GM} {w w' : World} {p : Nat} {m : MS} {R : Nat → Prop} (h : MemAt g w p m) (hk : Kept R w w') (hR : ∀ k, g.F k → R k) : MemAt g w' p m where
  blk := (hk.block p (hR p (by unfold GM.F; rw [h.rol]; decide))).trans h.blk
  rol := h.rol
  nr := own_kept h.nr hk fun k e => hR k (by unfold GM.F; rw [h.onv k e]; decide)
  onv := h.onv
  tw a h1 h2 := ⟨(hk.block _ (hR _ (by unfold GM.F; rw [(h.tw a h1 h2).2]; simp))).trans (h.tw a h1 h2).1, (h.tw a h1 h2).2⟩
  olt k hk' := Nat.lt_of_lt_of_le (h.olt k hk') hk.size

theorem MemAt.touch {g : GM} {w w' : World} {p : Nat} {m : MS} {F : Nat → Prop} (h : MemAt g w p m) (hk : Touch F w w') (hF : ∀ k, g.F k → ¬ F k) : MemAt g w' p m :=
  h.kept (R := g.F) (Kept.mono hk fun k hk' => ⟨h.olt k hk', hF k hk'⟩) fun _ h => h
theorem MemAt.below {g : GM} {w w' : World} {p : Nat} {m : MS} (h : MemAt g w p m) (hb : Below w.heap.size w w') : MemAt g w' p m :=
  h.kept (R := g.F) (Kept.of hb fun k hk => h.olt k hk) fun _ h => h
theorem MemAt.drew {g : GM} {w : World} {p : Nat} {m : MS} (h : MemAt g w p m) : MemAt g w.drew p m := h.below (Below.refl _ _).drew

theorem flat5 : ∀ (L : List (List Value)) (i t : Nat), (∀ x ∈ L, x.length = 5) → i < L.length → t < 5 → L.flatten[i * 5 + t]? = (L.getD i [])[t]?
  | [], i, t, _, h, _ => by simp at h
  | x :: r, 0, t, h, _, ht => by
    rw [List.flatten_cons, Nat.zero_mul, Nat.zero_add, List.getElem?_append_left (by rw [h x (by simp)]; omega)]
    rfl
  | x :: r, i + 1, t, h, hi, ht => by
    rw [List.flatten_cons, List.getElem?_append_right (by rw [h x (by simp)]; omega)]
    have : (i + 1) * 5 + t - x.length = i * 5 + t := by rw [h x (by simp)]; omega
    rw [this, flat5 r i t (fun y hy => h y (by simp [hy])) (by simpa using hi) ht]
    simp [List.getD]

theorem nodeC_len (tb ht : Nat → Nat) (es : List Ent) (i : Nat) : (nodeC tb ht es i).length = 5 := rfl

theorem node_at (tb ht : Nat → Nat) (es : List Ent) {i t : Nat} (hi : i < es.length) (h5 : t < 5) : (nodeCells tb ht es)[i * 5 + t]? = (nodeC tb ht es i)[t]? := by
  unfold nodeCells
  rw [flat5 _ i t (fun x hx => by obtain ⟨j, _, rfl⟩ := List.mem_map.1 hx; rfl) (by simpa using hi) h5]
  simp [List.getD, hi]

theorem node_one (tb ht : Nat → Nat) (es : List Ent) : ∀ u ∈ nodeCells tb ht es, u.oneCell' = true := by
  intro u hu
  obtain ⟨x, hx, hux⟩ := List.mem_flatten.1 hu
  obtain ⟨j, _, rfl⟩ := List.mem_map.1 hx
  simp only [nodeC, Ent.cells, List.cons_append, List.nil_append, List.mem_cons, List.not_mem_nil, or_false] at hux
  rcases hux with rfl | rfl | rfl | rfl | rfl <;> rfl

theorem node_snoc (tb ht : Nat → Nat) (es : List Ent) (e : Ent) : nodeCells tb ht (es ++ [e]) = nodeCells tb ht es ++ (e.cells ++ [.slice (some ⟨tb (es.length + 1), 0, none⟩) (ht (es.length + 1)) (ht (es.length + 1))]) := by
  unfold nodeCells
  rw [List.length_append, List.length_singleton, List.range_succ, List.map_append, List.flatten_append]
  congr 1
  · congr 1
    refine List.map_congr_left fun i hi => ?_
    have : i < es.length := by simpa using hi
    unfold nodeC
    simp only [List.getD, List.getElem?_append_left this]
  · simp [nodeC, List.getD]

theorem node_congr {tb tb' ht ht' : Nat → Nat} {es : List Ent} (h : ∀ a, 1 ≤ a → a ≤ es.length → tb a = tb' a ∧ ht a = ht' a) : nodeCells tb ht es = nodeCells tb' ht' es := by
  unfold nodeCells
  congr 1
  refine List.map_congr_left fun i hi => ?_
  have hi' : i < es.length := by simpa using hi
  obtain ⟨h1, h2⟩ := h (i + 1) (by omega) (by omega)
  unfold nodeC
  rw [h1, h2]

/-- Where the nodes lie. -/
theorem MemAt.node {g : GM} {w : World} {p : Nat} {m : MS} (h : MemAt g w p m) {a : Nat} (h1 : 1 ≤ a) (h2 : a ≤ m.es.length) : ∃ b cap, g.nv = .slice (some ⟨b, 0, none⟩) m.es.length cap ∧ m.es.length ≤ cap ∧ cap ≤ maxLen ∧ g.o b = .nodes ∧
    w.cell? ⟨b, (a - 1) * 5, none⟩ = some (.string (m.ent a).u) ∧ w.cell? ⟨b, (a - 1) * 5 + 1, none⟩ = some (.int .i64 (m.ent a).s) ∧ w.cell? ⟨b, (a - 1) * 5 + 2, none⟩ = some (.int .i64 (m.ent a).k) ∧
    w.cell? ⟨b, (a - 1) * 5 + 3, none⟩ = some (.string (m.ent a).v) ∧ w.cell? ⟨b, (a - 1) * 5 + 4, none⟩ = some (.slice (some ⟨g.tb a, 0, none⟩) (m.ht a) (m.ht a)) := by
  rcases h.nr.2 with ⟨_, h0⟩ | ⟨b, cap, cur, hv, _, hg, hn, hm, hcs, htake⟩
  · omega
  · refine ⟨b, cap, hv, hn, hm, h.onv b (by rw [hv]; rfl), ?_⟩
    have hat : ∀ t, t < 5 → w.cell? ⟨b, (a - 1) * 5 + t, none⟩ = (nodeC g.tb m.ht m.es (a - 1))[t]? := by
      intro t ht
      rw [blk_cell hg, ← node_at g.tb m.ht m.es (by omega) ht, ← htake, List.getElem?_take, if_pos (by omega)]
      simp
    have e1 : a - 1 + 1 = a := by omega
    refine ⟨hat 0 (by omega), hat 1 (by omega), hat 2 (by omega), hat 3 (by omega), ?_⟩
    rw [hat 4 (by omega)]
    unfold nodeC
    rw [e1]; rfl

/-- The place of a link. -/
def laddr (g : GM) (p a h : Nat) : Addr := if a = 0 then ⟨p, h, none⟩ else ⟨g.tb a, h, none⟩

theorem lkCells_at (f : Nat → Nat → Nat) (a : Nat) {n h : Nat} (hh : h < n) : (lkCells f a n)[h]? = some (.int .i64 (f a h : Int)) := by
  unfold lkCells
  rw [List.getElem?_map, List.getElem?_range hh]; rfl
theorem lkCells_len (f : Nat → Nat → Nat) (a n : Nat) : (lkCells f a n).length = n := by simp [lkCells]

/-- A link that there is. -/
def LinkIn (m : MS) (a h : Nat) : Prop := (a = 0 ∧ h < 12) ∨ (1 ≤ a ∧ a ≤ m.es.length ∧ h < m.ht a)

theorem MemAt.cell {g : GM} {w : World} {p : Nat} {m : MS} (hm : MemAt g w p m) {a h : Nat} (hl : LinkIn m a h) : w.cell? (laddr g p a h) = some (.int .i64 (m.lk a h : Int)) ∧ w.frozen? (laddr g p a h) = false := by
  unfold laddr
  rcases hl with ⟨rfl, hh⟩ | ⟨h1, h2, h3⟩
  · rw [if_pos rfl]
    refine ⟨?_, blk_free hm.blk⟩
    rw [blk_cell hm.blk]
    unfold memCells
    rw [List.getElem?_toArray, List.getElem?_append_left (by rw [lkCells_len]; exact hh), lkCells_at _ _ hh]
  · rw [if_neg (by omega)]
    have ht := (hm.tw a h1 h2).1
    refine ⟨?_, blk_free ht⟩
    rw [blk_cell ht, List.getElem?_toArray, lkCells_at _ _ h3]

theorem lkCells_upd (f : Nat → Nat → Nat) (a n h x : Nat) : (lkCells f a n).toArray.setIfInBounds h (.int .i64 (x : Int)) = (lkCells (upd f a h x) a n).toArray := by
  apply Array.toList_inj.1
  rw [Array.toList_setIfInBounds]
  show (lkCells f a n).set h _ = lkCells (upd f a h x) a n
  refine List.ext_getElem? fun i => ?_
  rw [List.getElem?_set]
  by_cases h1 : i < n
  · rw [lkCells_at _ _ h1, lkCells_at _ _ h1]
    unfold upd
    by_cases h2 : h = i
    · subst h2
      simp [lkCells_len, h1]
    · rw [if_neg h2, if_neg (fun e => h2 e.2.symm)]
  · have e1 : (lkCells (upd f a h x) a n)[i]? = none := List.getElem?_eq_none (by rw [lkCells_len]; omega)
    have e2 : (lkCells f a n)[i]? = none := List.getElem?_eq_none (by rw [lkCells_len]; omega)
    rw [e1, e2]
    by_cases h2 : h = i
    · subst h2
      simp [lkCells_len, h1]
    · rw [if_neg h2]
theorem lkCells_other (f : Nat → Nat → Nat) {a a' : Nat} (n h x : Nat) (hne : a ≠ a') : lkCells (upd f a' h x) a n = lkCells f a n := by
  unfold lkCells upd
  refine List.map_congr_left fun i _ => ?_
  rw [if_neg (fun e => hne e.1)]

/-- A link is set. -/
theorem MemAt.set {g : GM} {w : World} {p : Nat} {m : MS} (hm : MemAt g w p m) {a h : Nat} (hl : LinkIn m a h) (x : Nat) : MemAt g (w.setCell (laddr g p a h) (.int .i64 (x : Int))) p { m with lk := upd m.lk a h x } := by
  have htp : ∀ b, 1 ≤ b → b ≤ m.es.length → g.tb b ≠ p := fun b h1 h2 e => by have := (hm.tw b h1 h2).2; rw [e, hm.rol] at this; cases this
  have hnp : ∀ k, g.nv.ownBlock = some k → k ≠ p := fun k hk e => by have := hm.onv k hk; rw [e, hm.rol] at this; cases this
  have hnt : ∀ k, g.nv.ownBlock = some k → ∀ b, 1 ≤ b → b ≤ m.es.length → k ≠ g.tb b := fun k hk b h1 h2 e => by have := hm.onv k hk; rw [e, (hm.tw b h1 h2).2] at this; cases this
  have htt : ∀ b c, 1 ≤ b → b ≤ m.es.length → 1 ≤ c → c ≤ m.es.length → b ≠ c → g.tb b ≠ g.tb c := fun b c h1 h2 h3 h4 hne e => by
    have e1 := (hm.tw b h1 h2).2
    rw [e, (hm.tw c h3 h4).2] at e1
    cases e1
    exact hne rfl
  unfold laddr
  rcases hl with ⟨rfl, hh⟩ | ⟨h1, h2, h3⟩
  · rw [if_pos rfl]
    exact {
      blk := by
        rw [blk_set hm.blk]
        have : (memCells g m).setIfInBounds h (.int .i64 (x : Int)) = memCells g { m with lk := upd m.lk 0 h x } := by
          unfold memCells
          have e := congrArg Array.toList (lkCells_upd m.lk 0 12 h x)
          rw [Array.toList_setIfInBounds] at e
          apply Array.toList_inj.1
          rw [Array.toList_setIfInBounds]
          show (lkCells m.lk 0 12 ++ _).set h _ = lkCells (upd m.lk 0 h x) 0 12 ++ _
          rw [List.set_append_left _ _ (by rw [lkCells_len]; exact hh)]
          rw [show (lkCells m.lk 0 12).set h (.int .i64 (x : Int)) = lkCells (upd m.lk 0 h x) 0 12 from e]
        rw [this]
      rol := hm.rol
      nr := own_kept hm.nr (R := fun k => k ≠ p) ((Kept.refl _ w).setCell (fun h => h rfl) _) hnp
      onv := hm.onv
      tw := fun b h1 h2 => by
        refine ⟨?_, (hm.tw b h1 h2).2⟩
        rw [Below.heap_setCell _ _ _ _ (fun e => htp b h1 h2 e), (hm.tw b h1 h2).1]
        show some (Obj.cells (lkCells m.lk b (m.ht b)).toArray _ _) = some (Obj.cells (lkCells (upd m.lk 0 h x) b (m.ht b)).toArray _ _)
        rw [lkCells_other _ _ _ _ (by omega)]
      olt := fun k hk => by simpa [World.setCell] using hm.olt k hk }
  · rw [if_neg (by omega)]
    exact {
      blk := by
        rw [Below.heap_setCell _ _ _ _ (fun e => htp a h1 h2 e.symm), hm.blk]
        show some (Obj.cells (memCells g m) _ _) = some (Obj.cells (memCells g { m with lk := upd m.lk a h x }) _ _)
        unfold memCells
        show some (Obj.cells (lkCells m.lk 0 12 ++ _).toArray _ _) = some (Obj.cells (lkCells (upd m.lk a h x) 0 12 ++ _).toArray _ _)
        rw [lkCells_other _ _ _ _ (by omega)]
      rol := hm.rol
      nr := own_kept hm.nr (R := fun k => k ≠ g.tb a) ((Kept.refl _ w).setCell (fun h => h rfl) _) fun k hk => hnt k hk a h1 h2
      onv := hm.onv
      tw := fun b h4 h5 => by
        refine ⟨?_, (hm.tw b h4 h5).2⟩
        by_cases hb : b = a
        · subst hb
          rw [blk_set (hm.tw b h4 h5).1, lkCells_upd]
        · rw [Below.heap_setCell _ _ _ _ (fun e => htt b a h4 h5 h1 h2 hb e), (hm.tw b h4 h5).1]
          show some (Obj.cells (lkCells m.lk b (m.ht b)).toArray _ _) = some (Obj.cells (lkCells (upd m.lk a h x) b (m.ht b)).toArray _ _)
          rw [lkCells_other _ _ _ _ hb]
      olt := fun k hk => by simpa [World.setCell] using hm.olt k hk }

/-- The block of a link is the list's own. -/
theorem MemAt.laddr_F {g : GM} {w : World} {p : Nat} {m : MS} (hm : MemAt g w p m) {a h : Nat} (hl : LinkIn m a h) : g.F (laddr g p a h).block := by
  unfold laddr GM.F
  rcases hl with ⟨rfl, hh⟩ | ⟨h1, h2, h3⟩
  · rw [if_pos rfl]; show g.o p ≠ _; rw [hm.rol]; decide
  · rw [if_neg (by omega)]; show g.o (g.tb a) ≠ _; rw [(hm.tw a h1 h2).2]; simp

/-- The fields of the object itself. -/
theorem MemAt.fields {g : GM} {w : World} {p : Nat} {m : MS} (hm : MemAt g w p m) : w.cell? ⟨p, 12, none⟩ = some g.nv ∧ w.cell? ⟨p, 13, none⟩ = some (.int .i64 (m.sz : Int)) ∧ w.frozen? ⟨p, 12, none⟩ = false ∧ w.frozen? ⟨p, 13, none⟩ = false := by
  refine ⟨?_, ?_, blk_free hm.blk, blk_free hm.blk⟩
  · rw [blk_cell hm.blk]
    unfold memCells
    rw [List.getElem?_toArray, List.getElem?_append_right (by rw [lkCells_len]; omega), lkCells_len]; rfl
  · rw [blk_cell hm.blk]
    unfold memCells
    rw [List.getElem?_toArray, List.getElem?_append_right (by rw [lkCells_len]; omega), lkCells_len]; rfl

theorem info_node : (Try.prog.info? 59).map (fun i => (i.zero, i.size, i.bytes)) = some (some (.agg #[.string ⟨#[]⟩, .int .i64 0, .int .i64 0, .string ⟨#[]⟩, .slice none 0 0]), 5, 72) := by kernel_rfl
theorem info_int10 : (Try.prog.info? 3).map (fun i => (i.zero, i.size, i.bytes)) = some (some (.int .i64 0), 1, 8) := by kernel_rfl
theorem info_ent : (Try.prog.info? 34).map (fun i => (i.zero, i.size, i.bytes)) = some (some (.agg #[.string ⟨#[]⟩, .int .i64 0, .int .i64 0, .string ⟨#[]⟩]), 4, 48) := by kernel_rfl
end Go.Proofs.Ytjiefffmcohcbaa
