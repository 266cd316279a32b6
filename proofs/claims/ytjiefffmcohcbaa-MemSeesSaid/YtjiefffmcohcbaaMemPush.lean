/-
  The list with towers in memory: a node more, of which no link is set yet; its size.
-/
import Derived.Test.YtjiefffmcohcbaaMemEnter
import Derived.Test.YtjiefffmcohcbaaMoves
namespace Go.Proofs.Ytjiefffmcohcbaa
open Go.RowKit

def zeroC (t : Nat) : Array Value := (lkCells (fun _ _ => 0) 0 t).toArray
theorem zeroC_made (t : Nat) : madeCells #[.int .i64 0] (t * 1) = zeroC t := by
  apply Array.toList_inj.1
  have e : (zeroC t).toList = List.replicate t (.int .i64 0) := by
    show lkCells (fun _ _ => 0) 0 t = _
    unfold lkCells
    refine List.ext_getElem (by simp) fun i h1 h2 => ?_
    simp
  rw [e]
  refine List.ext_getElem (by simp [size_madeCells]) fun i h1 h2 => ?_
  simp only [List.getElem_replicate]
  unfold madeCells
  simp [Nat.mod_one]

theorem run_make_ints (t : Nat) (ht : t ≤ 12) (w : World) : (Instr.makeSlice 23 (.int .i64 (t : Int)) (.int .i64 (t : Int))).run Try.prog w = .ok (.slice (some ⟨w.heap.size, 0, none⟩) t t) (w.alloc (.cells (zeroC t) 3)) := by
  obtain ⟨i0, hi, hz0, hz1, hz2⟩ := info_parts info_int10
  have h := run_make (P := Try.prog) w 23 3 i0 _ Try.underlying23 hi hz0 .i64 .i64 (t : Int) (t : Int) (by omega) (Int.le_refl _) (by rw [hz2]; omega) (by omega)
  rw [hz1, Int.toNat_natCast] at h
  rw [← zeroC_made]
  exact h

/-- A node's cells. -/
def newC (e : Ent) (T t : Nat) : List Value := e.cells ++ [.slice (some ⟨T, 0, none⟩) t t]

theorem newC_one (e : Ent) (T t : Nat) : ∀ u ∈ newC e T t, u.oneCell' = true := by
  intro u hu
  simp only [newC, Ent.cells, List.cons_append, List.nil_append, List.mem_cons, List.not_mem_nil, or_false] at hu
  rcases hu with rfl | rfl | rfl | rfl | rfl <;> rfl

/-- Where it lies, with a node more. -/
def GM.more (g : GM) (n T : Nat) (v : Value) : GM := ⟨fun k => if k = T then .tow (n + 1) else if v.ownBlock = some k then .nodes else g.o k, fun a => if a = n + 1 then T else g.tb a, v⟩

theorem MemAt.push {g : GM} {w w8 : World} {p : Nat} {m : MS} (hm : MemAt g w p m) (hok : m.Ok) (e : Ent) {t : Nat} {a2 : Option Addr} {n2 c2 : Nat}
    (ho : w8.ownsRow 0 59 5 (.slice a2 n2 c2) (m.es.length + 1) (nodeCells g.tb m.ht m.es ++ newC e w.heap.size t))
    (hmv : Moves ((w.alloc (.cells (zeroC t) 3)).alloc (.cells (newC e w.heap.size t).toArray 59)) w8 g.nv (.slice a2 n2 c2)) :
    MemAt (g.more m.es.length w.heap.size (.slice a2 n2 c2)) (w8.setCell ⟨p, 12, none⟩ (.slice a2 n2 c2)) p (m.mid e t 0) ∧ Touch g.F w (w8.setCell ⟨p, 12, none⟩ (.slice a2 n2 c2)) ∧ Grows g.F (g.more m.es.length w.heap.size (.slice a2 n2 c2)).F w (w8.setCell ⟨p, 12, none⟩ (.slice a2 n2 c2)) := by
  obtain ⟨w7, hw7⟩ : ∃ w7, w7 = (w.alloc (.cells (zeroC t) 3)).alloc (.cells (newC e w.heap.size t).toArray 59) := ⟨_, rfl⟩
  obtain ⟨v2, hv2⟩ : ∃ v2, v2 = Value.slice a2 n2 c2 := ⟨_, rfl⟩
  rw [← hw7] at hmv
  rw [← hv2] at hmv ho ⊢
  have hb7 : Below w.heap.size w w7 := by rw [hw7]; exact ((Below.refl _ _).alloc (Nat.le_refl _) _).alloc (by simp) _
  have hs7 : w7.heap.size = w.heap.size + 2 := by rw [hw7]; simp
  have hT7 : w7.heap[w.heap.size]? = some (.cells (zeroC t) 3 (0, 0)) := by rw [hw7]; exact (Below.heap_alloc _ _ _ (by simp)).trans (heap_alloc_new w _)
  have hp := blk_lt hm.blk
  have hnvw : ∀ k, g.nv.ownBlock = some k → k < w.heap.size := fun k hk => hm.olt k (by rw [hm.onv k hk]; decide)
  have hnp : ∀ k, g.nv.ownBlock = some k → k ≠ p := fun k hk e => by have := hm.onv k hk; rw [e, hm.rol] at this; cases this
  have h2at : ∀ k, v2.ownBlock = some k → g.nv.ownBlock = some k ∨ w.heap.size + 2 ≤ k := fun k hk => by
    rcases hmv.at_ k hk with h | h
    · exact .inl h
    · exact .inr (by omega)
  have h2p : ∀ k, v2.ownBlock = some k → k ≠ p := fun k hk e => by
    rcases h2at k hk with h | h
    · exact hnp k h e
    · omega
  have h2T : ∀ k, v2.ownBlock = some k → k ≠ w.heap.size := fun k hk e => by
    rcases h2at k hk with h | h
    · have := hnvw k h; omega
    · omega
  have hs8 := hmv.grown.size
  -- a block that is not the nodes'
  have hold : ∀ k, k < w7.heap.size → g.nv.ownBlock ≠ some k → w8.heap[k]? = w7.heap[k]? := fun k h1 h2 => hmv.grown.block k h1 (fun e => h2 e.symm)
  have hblk : ∀ k, k < w.heap.size → g.nv.ownBlock ≠ some k → w8.heap[k]? = w.heap[k]? := fun k h1 h2 => (hold k (by omega) h2).trans (hb7.block k h1)
  have hpn : g.nv.ownBlock ≠ some p := fun h => hnp p h rfl
  have htb : ∀ a, 1 ≤ a → a ≤ m.es.length → g.tb a < w.heap.size ∧ g.nv.ownBlock ≠ some (g.tb a) ∧ g.tb a ≠ p ∧ v2.ownBlock ≠ some (g.tb a) := by
    intro a h1 h2
    have hr := (hm.tw a h1 h2).2
    have hlt := hm.olt (g.tb a) (by rw [hr]; simp)
    refine ⟨hlt, fun h => ?_, fun h => ?_, fun h => ?_⟩
    · have := hm.onv _ h; rw [hr] at this; cases this
    · rw [h, hm.rol] at hr; cases hr
    · rcases h2at _ h with h' | h'
      · have := hm.onv _ h'; rw [hr] at this; cases this
      · omega
  have hset : ∀ k, k ≠ p → (w8.setCell ⟨p, 12, none⟩ v2).heap[k]? = w8.heap[k]? := fun k hk => Below.heap_setCell _ _ _ _ hk
  have hsz : (w8.setCell ⟨p, 12, none⟩ v2).heap.size = w8.heap.size := by simp [World.setCell]
  refine ⟨{ blk := ?_, rol := ?_, nr := ?_, onv := ?_, tw := ?_, olt := ?_ }, ?_, ?_⟩
  · have h1 := blk_set (i := 12) ((hblk p hp hpn).trans hm.blk) v2
    rw [h1]
    congr 2
  · show (if p = w.heap.size then _ else if v2.ownBlock = some p then _ else g.o p) = _
    rw [if_neg (by omega), if_neg (fun h => h2p p h rfl)]
    exact hm.rol
  · have hl : (m.mid e t 0).es.length = m.es.length + 1 := by show (m.es ++ [e]).length = _; rw [List.length_append]; rfl
    have hc : nodeCells (g.more m.es.length w.heap.size v2).tb (m.mid e t 0).ht (m.mid e t 0).es = nodeCells g.tb m.ht m.es ++ newC e w.heap.size t := by
      show nodeCells (fun a => if a = m.es.length + 1 then w.heap.size else g.tb a) (fun a => if a = m.es.length + 1 then t else m.ht a) (m.es ++ [e]) = _
      rw [node_snoc, if_pos rfl, if_pos rfl]
      congr 1
      exact node_congr fun a h1 h2 => ⟨if_neg (by omega), if_neg (by omega)⟩
    rw [hl, hc]
    exact own_kept ho (R := fun k => k ≠ p) ((Kept.refl _ w8).setCell (fun h => h rfl) _) h2p
  · intro k hk
    show (if k = w.heap.size then _ else if v2.ownBlock = some k then MRole.nodes else g.o k) = _
    have hk' : v2.ownBlock = some k := hk
    rw [if_neg (h2T k hk'), if_pos hk']
  · intro a h1 h2
    have h2' : a ≤ m.es.length + 1 := by
      have : a ≤ (m.es ++ [e]).length := h2
      rw [List.length_append] at this; exact this
    show (w8.setCell ⟨p, 12, none⟩ v2).heap[if a = m.es.length + 1 then w.heap.size else g.tb a]? = some (.cells (lkCells (m.linked e (m.es.length + 1) 0) a (if a = m.es.length + 1 then t else m.ht a)).toArray _ _) ∧
      (if (if a = m.es.length + 1 then w.heap.size else g.tb a) = w.heap.size then MRole.tow (m.es.length + 1) else if v2.ownBlock = some (if a = m.es.length + 1 then w.heap.size else g.tb a) then _ else g.o (if a = m.es.length + 1 then w.heap.size else g.tb a)) = .tow a
    rw [MS.linked_zero]
    by_cases ha : a = m.es.length + 1
    · rw [if_pos ha, if_pos ha, if_pos rfl, ha]
      refine ⟨?_, rfl⟩
      rw [hset _ (by omega), hold _ (by omega) (fun h => by have := hnvw _ h; omega), hT7]
      have : lkCells m.lk (m.es.length + 1) t = lkCells (fun _ _ => 0) 0 t := by
        unfold lkCells
        refine List.map_congr_left fun i _ => ?_
        rw [hok.none _ (by omega)]
      rw [this]; rfl
    · rw [if_neg ha, if_neg ha]
      obtain ⟨q1, q2, q3, q4⟩ := htb a h1 (by omega)
      rw [if_neg (by omega : ¬ g.tb a = w.heap.size), if_neg q4]
      exact ⟨((hset _ q3).trans (hblk _ q1 q2)).trans (hm.tw a h1 (by omega)).1, (hm.tw a h1 (by omega)).2⟩
  · intro k hk
    rw [hsz]
    by_cases h1 : k = w.heap.size
    · omega
    · by_cases h2 : v2.ownBlock = some k
      · exact (World.ownsRow.lt ho k h2).2
      · have hk' : (if k = w.heap.size then MRole.tow (m.es.length + 1) else if v2.ownBlock = some k then .nodes else g.o k) ≠ .out := hk
        rw [if_neg h1, if_neg h2] at hk'
        have := hm.olt k hk'
        omega
  · have k7 : Kept (Apart g.F w) w w7 := Kept.of hb7 fun k hk => hk.1
    have k8 := k7.grown hmv.grown (fun k hk => by have := hk.1; omega) (fun k hk h => h.2 (by unfold GM.F; rw [hm.onv k hk]; decide))
    exact k8.setCell (fun h => h.2 (by unfold GM.F; show g.o p ≠ _; rw [hm.rol]; decide)) _
  · intro k hk
    by_cases h1 : k = w.heap.size
    · exact .inr ⟨by omega, by rw [hsz]; omega⟩
    · by_cases h2 : v2.ownBlock = some k
      · rcases h2at k h2 with h | h
        · exact .inl (by unfold GM.F; rw [hm.onv k h]; decide)
        · exact .inr ⟨by omega, by rw [hsz]; exact (World.ownsRow.lt ho k h2).2⟩
      · have hk' : (if k = w.heap.size then MRole.tow (m.es.length + 1) else if v2.ownBlock = some k then .nodes else g.o k) ≠ .out := hk
        rw [if_neg h1, if_neg h2] at hk'
        exact .inl hk'

/-- The size is set. -/
theorem MemAt.resize {g : GM} {w : World} {p : Nat} {m : MS} (hm : MemAt g w p m) (z : Nat) : MemAt g (w.setCell ⟨p, 13, none⟩ (.int .i64 (z : Int))) p { m with sz := z } ∧ Touch g.F w (w.setCell ⟨p, 13, none⟩ (.int .i64 (z : Int))) := by
  have hpF : g.F p := by unfold GM.F; rw [hm.rol]; decide
  refine ⟨{ blk := ?_, rol := hm.rol, nr := ?_, onv := hm.onv, tw := ?_, olt := ?_ }, (Kept.refl _ w).setCell (fun h => h.2 hpF) _⟩
  · rw [blk_set hm.blk]
    congr 2
  · exact own_kept hm.nr (R := fun k => k ≠ p) ((Kept.refl _ w).setCell (fun h => h rfl) _) fun k hk e => by have := hm.onv k hk; rw [e, hm.rol] at this; cases this
  · intro a h1 h2
    have hr := (hm.tw a h1 h2).2
    refine ⟨(Below.heap_setCell _ _ _ _ fun e => ?_).trans (hm.tw a h1 h2).1, hr⟩
    have e' : g.tb a = p := e
    rw [e', hm.rol] at hr; cases hr
  · exact fun k hk => by simpa [World.setCell] using hm.olt k hk

/-- What is linked, with its size, is the list with a node more. -/
theorem MemAt.done {g : GM} {w : World} {p : Nat} {m : MS} {e : Ent} {t : Nat} (h : MemAt g w p { m.mid e t t with sz := m.sz + sizeE e }) : MemAt g w p (m.add e t) :=
  { blk := h.blk, rol := h.rol, nr := h.nr, onv := h.onv, tw := h.tw, olt := h.olt }
end Go.Proofs.Ytjiefffmcohcbaa
