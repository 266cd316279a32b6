/-
  The list with towers: of each height the last node whose key is ahead of a key.
-/
import Derived.Test.YtjiefffmcohcbaaMemSmall
import Derived.Test.YtjiefffmcohcbaaKeyCmp
import Derived.Test.YtjiefffmcohcbaaRegion
namespace Go.Proofs.Ytjiefffmcohcbaa
open Go.RowKit

/-- The nodes told so far: those at the heights from 'H' on. -/
def pathC (m : MS) (K : Ent) (H : Nat) : List Value := lkCells (fun _ i => if i < H then 0 else m.path K i) 0 12
def keyB (K : Ent) : Array Value := #[.string K.u, .int .i64 K.s, .int .i64 K.k]

theorem pathC_set (m : MS) (K : Ent) (n : Nat) : (pathC m K (n + 1)).toArray.setIfInBounds n (.int .i64 (m.path K n : Int)) = (pathC m K n).toArray := by
  unfold pathC
  rw [lkCells_upd]
  congr 1
  unfold lkCells upd
  refine List.map_congr_left fun i _ => ?_
  by_cases h : i = n
  · subst h; simp
  · have : (i < n + 1) = (i < n) := by rw [eq_iff_iff]; omega
    simp [h, this]

theorem pathC_top (m : MS) (K : Ent) : (pathC m K 12).toArray = #[.int .i64 0, .int .i64 0, .int .i64 0, .int .i64 0, .int .i64 0, .int .i64 0, .int .i64 0, .int .i64 0, .int .i64 0, .int .i64 0, .int .i64 0, .int .i64 0] := by
  have : pathC m K 12 = (List.range 12).map fun _ => Value.int .i64 0 := by
    unfold pathC lkCells
    refine List.map_congr_left fun i hi => ?_
    have : i < 12 := by simpa using hi
    simp [this]
  rw [this]
  rfl
theorem pathC_zero (m : MS) (K : Ent) : (pathC m K 0).toArray = #[.int .i64 (m.path K 0 : Int), .int .i64 (m.path K 1 : Int), .int .i64 (m.path K 2 : Int), .int .i64 (m.path K 3 : Int), .int .i64 (m.path K 4 : Int), .int .i64 (m.path K 5 : Int), .int .i64 (m.path K 6 : Int), .int .i64 (m.path K 7 : Int), .int .i64 (m.path K 8 : Int), .int .i64 (m.path K 9 : Int), .int .i64 (m.path K 10 : Int), .int .i64 (m.path K 11 : Int)] := by
  have : pathC m K 0 = (List.range 12).map fun i => Value.int .i64 (m.path K i : Int) := by
    unfold pathC lkCells
    refine List.map_congr_left fun i _ => ?_
    simp
  rw [this]
  rfl

structure AheadW (m : MS) (K : Ent) (w wr : World) (H : Nat) : Prop where
  bel : Below w.heap.size w wr
  key : wr.heap[w.heap.size]? = some (.cells (keyB K) 32 (0, 0))
  res : wr.heap[w.heap.size + 1]? = some (.cells #[.int .i64 0, .int .i64 0, .int .i64 0, .int .i64 0, .int .i64 0, .int .i64 0, .int .i64 0, .int .i64 0, .int .i64 0, .int .i64 0, .int .i64 0, .int .i64 0] 50 (0, 0))
  row : wr.heap[w.heap.size + 1 + 1]? = some (.cells (pathC m K H).toArray 50 (0, 0))

theorem AheadW.ext {m : MS} {K : Ent} {w wr wq : World} {H : Nat} (h : AheadW m K w wr H) (hb : Below wr.heap.size wr wq) : AheadW m K w wq H where
  bel := h.bel.trans (hb.mono h.bel.size)
  key := (hb.block _ (blk_lt h.key)).trans h.key
  res := (hb.block _ (blk_lt h.res)).trans h.res
  row := (hb.block _ (blk_lt h.row)).trans h.row

theorem MS.Ok.linkIn {m : MS} (hm : m.Ok) (k : Ent) {h i : Nat} (hh : h < 12) (hi : i ≤ (m.lowAt k h ++ m.highAt k h).length) : LinkIn m (m.nth k h i) h := by
  cases i with
  | zero => exact .inl ⟨rfl, hh⟩
  | succ i =>
    have := hm.nth_at k (h := h) (i := i) (by omega)
    exact .inr ⟨this.1, this.2.1, this.2.2.1⟩

theorem laddr_form (g : GM) (p a h : Nat) : ∃ b, laddr g p a h = ⟨b, h, none⟩ := by
  unfold laddr
  split
  · exact ⟨_, rfl⟩
  · exact ⟨_, rfl⟩

/-- One step on: less is left. -/
theorem meas_next {m : MS} (hm : m.Ok) (K : Ent) (n i : Nat) (hi : i < (m.lowAt K n ++ m.highAt K n).length) :
    (m.lowAt K n ++ m.highAt K n).length + 1 - (0 :: (m.lowAt K n ++ m.highAt K n)).idxOf (intOf (.int .i64 (m.nth K n (i + 1) : Int))).toNat < (m.lowAt K n ++ m.highAt K n).length + 1 - (0 :: (m.lowAt K n ++ m.highAt K n)).idxOf (intOf (.int .i64 (m.nth K n i : Int))).toNat := by
  have h1 : (intOf (.int .i64 (m.nth K n (i + 1) : Int))).toNat = m.nth K n (i + 1) := rfl
  have h2 : (intOf (.int .i64 (m.nth K n i : Int))).toNat = m.nth K n i := rfl
  rw [h1, h2, hm.idx K n (show i + 1 ≤ _ from hi), hm.idx K n (show i ≤ _ by omega)]
  omega

/-- An entry's key. -/
theorem run_field_key (u : ByteArray) (s k : Int) (v : ByteArray) (w : World) : (Instr.field 34 (.agg #[.string u, .int .i64 s, .int .i64 k, .string v]) 0).run Try.prog w = .ok (.agg #[.string u, .int .i64 s, .int .i64 k]) w := by kernel_rfl

/-- A row is stored. -/
theorem set12 {w w1 w2 w3 w4 w5 w6 w7 w8 w9 w10 w11 w12 : World} {q t : Nat} {v0 v1 v2 v3 v4 v5 v6 v7 v8 v9 v10 v11 : Value} (h : w.heap[q]? = some (.cells #[.int .i64 0, .int .i64 0, .int .i64 0, .int .i64 0, .int .i64 0, .int .i64 0, .int .i64 0, .int .i64 0, .int .i64 0, .int .i64 0, .int .i64 0, .int .i64 0] t (0, 0))) (h1 : w1 = w.setCell ⟨q, 0, none⟩ v0) (h2 : w2 = w1.setCell ⟨q, 1, none⟩ v1) (h3 : w3 = w2.setCell ⟨q, 2, none⟩ v2) (h4 : w4 = w3.setCell ⟨q, 3, none⟩ v3) (h5 : w5 = w4.setCell ⟨q, 4, none⟩ v4) (h6 : w6 = w5.setCell ⟨q, 5, none⟩ v5) (h7 : w7 = w6.setCell ⟨q, 6, none⟩ v6) (h8 : w8 = w7.setCell ⟨q, 7, none⟩ v7) (h9 : w9 = w8.setCell ⟨q, 8, none⟩ v8) (h10 : w10 = w9.setCell ⟨q, 9, none⟩ v9) (h11 : w11 = w10.setCell ⟨q, 10, none⟩ v10) (h12 : w12 = w11.setCell ⟨q, 11, none⟩ v11) : w12.heap[q]? = some (.cells #[v0, v1, v2, v3, v4, v5, v6, v7, v8, v9, v10, v11] t (0, 0)) ∧ ∀ B, B ≤ q → ∀ a : World, Below B a w → Below B a w12 := by
  have r1 : w1.heap[q]? = some (.cells #[v0, .int .i64 0, .int .i64 0, .int .i64 0, .int .i64 0, .int .i64 0, .int .i64 0, .int .i64 0, .int .i64 0, .int .i64 0, .int .i64 0, .int .i64 0] t (0, 0)) := by rw [h1, blk_set h]; rfl
  have r2 : w2.heap[q]? = some (.cells #[v0, v1, .int .i64 0, .int .i64 0, .int .i64 0, .int .i64 0, .int .i64 0, .int .i64 0, .int .i64 0, .int .i64 0, .int .i64 0, .int .i64 0] t (0, 0)) := by rw [h2, blk_set r1]; rfl
  have r3 : w3.heap[q]? = some (.cells #[v0, v1, v2, .int .i64 0, .int .i64 0, .int .i64 0, .int .i64 0, .int .i64 0, .int .i64 0, .int .i64 0, .int .i64 0, .int .i64 0] t (0, 0)) := by rw [h3, blk_set r2]; rfl
  have r4 : w4.heap[q]? = some (.cells #[v0, v1, v2, v3, .int .i64 0, .int .i64 0, .int .i64 0, .int .i64 0, .int .i64 0, .int .i64 0, .int .i64 0, .int .i64 0] t (0, 0)) := by rw [h4, blk_set r3]; rfl
  have r5 : w5.heap[q]? = some (.cells #[v0, v1, v2, v3, v4, .int .i64 0, .int .i64 0, .int .i64 0, .int .i64 0, .int .i64 0, .int .i64 0, .int .i64 0] t (0, 0)) := by rw [h5, blk_set r4]; rfl
  have r6 : w6.heap[q]? = some (.cells #[v0, v1, v2, v3, v4, v5, .int .i64 0, .int .i64 0, .int .i64 0, .int .i64 0, .int .i64 0, .int .i64 0] t (0, 0)) := by rw [h6, blk_set r5]; rfl
  have r7 : w7.heap[q]? = some (.cells #[v0, v1, v2, v3, v4, v5, v6, .int .i64 0, .int .i64 0, .int .i64 0, .int .i64 0, .int .i64 0] t (0, 0)) := by rw [h7, blk_set r6]; rfl
  have r8 : w8.heap[q]? = some (.cells #[v0, v1, v2, v3, v4, v5, v6, v7, .int .i64 0, .int .i64 0, .int .i64 0, .int .i64 0] t (0, 0)) := by rw [h8, blk_set r7]; rfl
  have r9 : w9.heap[q]? = some (.cells #[v0, v1, v2, v3, v4, v5, v6, v7, v8, .int .i64 0, .int .i64 0, .int .i64 0] t (0, 0)) := by rw [h9, blk_set r8]; rfl
  have r10 : w10.heap[q]? = some (.cells #[v0, v1, v2, v3, v4, v5, v6, v7, v8, v9, .int .i64 0, .int .i64 0] t (0, 0)) := by rw [h10, blk_set r9]; rfl
  have r11 : w11.heap[q]? = some (.cells #[v0, v1, v2, v3, v4, v5, v6, v7, v8, v9, v10, .int .i64 0] t (0, 0)) := by rw [h11, blk_set r10]; rfl
  have r12 : w12.heap[q]? = some (.cells #[v0, v1, v2, v3, v4, v5, v6, v7, v8, v9, v10, v11] t (0, 0)) := by rw [h12, blk_set r11]; rfl
  refine ⟨r12, fun B hB a hb => ?_⟩
  have k0 := Kept.of hb (R := fun k => k < B) fun _ h => h
  have k1 : Kept (fun k => k < B) a w1 := by rw [h1]; exact k0.setCell (by show ¬ q < B; omega) _
  have k2 : Kept (fun k => k < B) a w2 := by rw [h2]; exact k1.setCell (by show ¬ q < B; omega) _
  have k3 : Kept (fun k => k < B) a w3 := by rw [h3]; exact k2.setCell (by show ¬ q < B; omega) _
  have k4 : Kept (fun k => k < B) a w4 := by rw [h4]; exact k3.setCell (by show ¬ q < B; omega) _
  have k5 : Kept (fun k => k < B) a w5 := by rw [h5]; exact k4.setCell (by show ¬ q < B; omega) _
  have k6 : Kept (fun k => k < B) a w6 := by rw [h6]; exact k5.setCell (by show ¬ q < B; omega) _
  have k7 : Kept (fun k => k < B) a w7 := by rw [h7]; exact k6.setCell (by show ¬ q < B; omega) _
  have k8 : Kept (fun k => k < B) a w8 := by rw [h8]; exact k7.setCell (by show ¬ q < B; omega) _
  have k9 : Kept (fun k => k < B) a w9 := by rw [h9]; exact k8.setCell (by show ¬ q < B; omega) _
  have k10 : Kept (fun k => k < B) a w10 := by rw [h10]; exact k9.setCell (by show ¬ q < B; omega) _
  have k11 : Kept (fun k => k < B) a w11 := by rw [h11]; exact k10.setCell (by show ¬ q < B; omega) _
  have k12 : Kept (fun k => k < B) a w12 := by rw [h12]; exact k11.setCell (by show ¬ q < B; omega) _
  exact Kept.below k12 fun _ h => h

/-- The call answers the last node of each height. -/
abbrev retPath (m : MS) (K : Ent) : Value := .agg #[.int .i64 (m.path K 0 : Int), .int .i64 (m.path K 1 : Int), .int .i64 (m.path K 2 : Int), .int .i64 (m.path K 3 : Int), .int .i64 (m.path K 4 : Int), .int .i64 (m.path K 5 : Int), .int .i64 (m.path K 6 : Int), .int .i64 (m.path K 7 : Int), .int .i64 (m.path K 8 : Int), .int .i64 (m.path K 9 : Int), .int .i64 (m.path K 10 : Int), .int .i64 (m.path K 11 : Int)]

/-- One link, wherever it lies, in every world that has grown. -/
theorem link_all {g : GM} {w : World} {p : Nat} {m : MS} (hm : MemAt g w p m) (hok : m.Ok) {a h x : Nat} (hl : LinkIn m a h) (hx : m.lk a h = x) :
    ∃ b, ∀ z, Below w.heap.size w z → z.cell? ⟨b, h, none⟩ = some (.int .i64 (x : Int)) ∧ Calls Try.prog 22 #[.pointer (some ⟨p, 0, none⟩), .int .i64 (a : Int), .int .i64 (h : Int)] z fun e w' => e = .returned (.pointer (some ⟨b, h, none⟩)) ∧ z = w' := by
  obtain ⟨b, hb⟩ := laddr_form g p a h
  refine ⟨b, fun z hz => ?_⟩
  have h1 := ((hm.below hz).cell hl).1
  have h2 := link_at (hm.below hz) hl fun c h1 h2 => (hok.ht c h1 h2).2
  rw [hb] at h1 h2
  rw [hx] at h1
  exact ⟨h1, h2⟩

/-- One more is told. -/
theorem AheadW.step {m : MS} {K : Ent} {w wr : World} {n : Nat} (h : AheadW m K w wr (n + 1)) : AheadW m K w (wr.setCell ⟨w.heap.size + 1 + 1, n, none⟩ (.int .i64 (m.path K n : Int))) n where
  bel := Kept.below ((Kept.of h.bel (R := fun k => k < w.heap.size) fun _ h => h).setCell (by show ¬ w.heap.size + 1 + 1 < w.heap.size; omega) _) fun _ h => h
  key := (Below.heap_setCell _ _ _ _ (by show w.heap.size ≠ w.heap.size + 1 + 1; omega)).trans h.key
  res := (Below.heap_setCell _ _ _ _ (by show w.heap.size + 1 ≠ w.heap.size + 1 + 1; omega)).trans h.res
  row := by rw [← pathC_set]; exact blk_set h.row _

set_option maxRecDepth 100000 in
set_option maxHeartbeats 8000000 in
theorem ahead_at {g : GM} {w : World} {p : Nat} {m : MS} (hm : MemAt g w p m) (hok : m.Ok) (K : Ent) (hK : K.fits) :
    Calls Try.prog 21 #[.pointer (some ⟨p, 0, none⟩), .agg #[.string K.u, .int .i64 K.s, .int .i64 K.k]] w fun e w' => e = .returned (retPath m K) ∧ Below w.heap.size w w' := by
  have HM := Lib.hid hm
  have HOK := Lib.hid hok
  have HK := Lib.hid hK
  have hpw : p < w.heap.size := blk_lt hm.blk
  clear hm hok hK
  go_enter Try.func21, Try.ntmps21
  go_wp2
  go_loopw [6, 7, 8] (fun a h _ wr => ∃ H : Nat, H ≤ 12 ∧ h = .int .i64 ((H : Int) - 1) ∧ a = .int .i64 (m.path K H : Int) ∧ Hid (AheadW m K w wr H)) (fun _ h _ _ => (intOf h + 1).toNat)
  case atStart =>
    refine ⟨12, Nat.le_refl _, rfl, by rw [MS.path_top m K HOK.out]; rfl, Lib.hid ?_⟩
    exact {
      bel := (((Below.refl _ _).alloc (Nat.le_refl _) _).alloc (by simp) _).alloc (by simp; omega) _
      key := ((Below.heap_alloc _ _ _ (by simp; omega)).trans (Below.heap_alloc _ _ _ (by simp))).trans (heap_alloc_new w _)
      res := (Below.heap_alloc _ _ _ (by simp)).trans (heap_new2 w _ _)
      row := by
        rw [pathC_top]
        have := heap_alloc_new ((w.alloc (.cells (keyB K) 32)).alloc (.cells #[.int .i64 0, .int .i64 0, .int .i64 0, .int .i64 0, .int .i64 0, .int .i64 0, .int .i64 0, .int .i64 0, .int .i64 0, .int .i64 0, .int .i64 0, .int .i64 0] 50)) (.cells #[.int .i64 0, .int .i64 0, .int .i64 0, .int .i64 0, .int .i64 0, .int .i64 0, .int .i64 0, .int .i64 0, .int .i64 0, .int .i64 0, .int .i64 0, .int .i64 0] 50)
        simpa [keyB] using this }
  case round =>
    obtain ⟨H, hH, rfl, rfl, HA⟩ := hrel
    obtain ⟨wa, hwa⟩ : ∃ wa, wa = wr := ⟨_, rfl⟩
    subst hwa
    cases H with
    | zero =>
      have hres := HA.out.res
      have hrow := HA.out.row
      have hbel := HA.out.bel
      rw [pathC_zero] at hrow
      have e0 : ((0 : Nat) : Int) - 1 = -1 := rfl
      rw [e0]
      have q0 : wa.cell? ⟨w.heap.size + 1 + 1, 0, none⟩ = some (.int .i64 (m.path K 0 : Int)) := blk_cell hrow
      have z0 : wa.cell? ⟨w.heap.size + 1, 0, none⟩ = some (.int .i64 0) := blk_cell hres
      have f0 : wa.frozen? ⟨w.heap.size + 1, 0, none⟩ = false := blk_free hres
      have q1 : wa.cell? ⟨w.heap.size + 1 + 1, 1, none⟩ = some (.int .i64 (m.path K 1 : Int)) := blk_cell hrow
      have z1 : wa.cell? ⟨w.heap.size + 1, 1, none⟩ = some (.int .i64 0) := blk_cell hres
      have f1 : wa.frozen? ⟨w.heap.size + 1, 1, none⟩ = false := blk_free hres
      have q2 : wa.cell? ⟨w.heap.size + 1 + 1, 2, none⟩ = some (.int .i64 (m.path K 2 : Int)) := blk_cell hrow
      have z2 : wa.cell? ⟨w.heap.size + 1, 2, none⟩ = some (.int .i64 0) := blk_cell hres
      have f2 : wa.frozen? ⟨w.heap.size + 1, 2, none⟩ = false := blk_free hres
      have q3 : wa.cell? ⟨w.heap.size + 1 + 1, 3, none⟩ = some (.int .i64 (m.path K 3 : Int)) := blk_cell hrow
      have z3 : wa.cell? ⟨w.heap.size + 1, 3, none⟩ = some (.int .i64 0) := blk_cell hres
      have f3 : wa.frozen? ⟨w.heap.size + 1, 3, none⟩ = false := blk_free hres
      have q4 : wa.cell? ⟨w.heap.size + 1 + 1, 4, none⟩ = some (.int .i64 (m.path K 4 : Int)) := blk_cell hrow
      have z4 : wa.cell? ⟨w.heap.size + 1, 4, none⟩ = some (.int .i64 0) := blk_cell hres
      have f4 : wa.frozen? ⟨w.heap.size + 1, 4, none⟩ = false := blk_free hres
      have q5 : wa.cell? ⟨w.heap.size + 1 + 1, 5, none⟩ = some (.int .i64 (m.path K 5 : Int)) := blk_cell hrow
      have z5 : wa.cell? ⟨w.heap.size + 1, 5, none⟩ = some (.int .i64 0) := blk_cell hres
      have f5 : wa.frozen? ⟨w.heap.size + 1, 5, none⟩ = false := blk_free hres
      have q6 : wa.cell? ⟨w.heap.size + 1 + 1, 6, none⟩ = some (.int .i64 (m.path K 6 : Int)) := blk_cell hrow
      have z6 : wa.cell? ⟨w.heap.size + 1, 6, none⟩ = some (.int .i64 0) := blk_cell hres
      have f6 : wa.frozen? ⟨w.heap.size + 1, 6, none⟩ = false := blk_free hres
      have q7 : wa.cell? ⟨w.heap.size + 1 + 1, 7, none⟩ = some (.int .i64 (m.path K 7 : Int)) := blk_cell hrow
      have z7 : wa.cell? ⟨w.heap.size + 1, 7, none⟩ = some (.int .i64 0) := blk_cell hres
      have f7 : wa.frozen? ⟨w.heap.size + 1, 7, none⟩ = false := blk_free hres
      have q8 : wa.cell? ⟨w.heap.size + 1 + 1, 8, none⟩ = some (.int .i64 (m.path K 8 : Int)) := blk_cell hrow
      have z8 : wa.cell? ⟨w.heap.size + 1, 8, none⟩ = some (.int .i64 0) := blk_cell hres
      have f8 : wa.frozen? ⟨w.heap.size + 1, 8, none⟩ = false := blk_free hres
      have q9 : wa.cell? ⟨w.heap.size + 1 + 1, 9, none⟩ = some (.int .i64 (m.path K 9 : Int)) := blk_cell hrow
      have z9 : wa.cell? ⟨w.heap.size + 1, 9, none⟩ = some (.int .i64 0) := blk_cell hres
      have f9 : wa.frozen? ⟨w.heap.size + 1, 9, none⟩ = false := blk_free hres
      have q10 : wa.cell? ⟨w.heap.size + 1 + 1, 10, none⟩ = some (.int .i64 (m.path K 10 : Int)) := blk_cell hrow
      have z10 : wa.cell? ⟨w.heap.size + 1, 10, none⟩ = some (.int .i64 0) := blk_cell hres
      have f10 : wa.frozen? ⟨w.heap.size + 1, 10, none⟩ = false := blk_free hres
      have q11 : wa.cell? ⟨w.heap.size + 1 + 1, 11, none⟩ = some (.int .i64 (m.path K 11 : Int)) := blk_cell hrow
      have z11 : wa.cell? ⟨w.heap.size + 1, 11, none⟩ = some (.int .i64 0) := blk_cell hres
      have f11 : wa.frozen? ⟨w.heap.size + 1, 11, none⟩ = false := blk_free hres
      have HR := Lib.hid hres
      have HBEL := Lib.hid hbel
      clear e0 hres hrow hbel HA
      go_wp2
      refine bodyPost_ret (results_cell_row rfl _ _ (w.heap.size + 1) 50 #[.int .i64 (m.path K 0 : Int), .int .i64 (m.path K 1 : Int), .int .i64 (m.path K 2 : Int), .int .i64 (m.path K 3 : Int), .int .i64 (m.path K 4 : Int), .int .i64 (m.path K 5 : Int), .int .i64 (m.path K 6 : Int), .int .i64 (m.path K 7 : Int), .int .i64 (m.path K 8 : Int), .int .i64 (m.path K 9 : Int), .int .i64 (m.path K 10 : Int), .int .i64 (m.path K 11 : Int)] (0, 0) _ rfl ?hg Try.underlying50 rfl (by kernel_rfl)) rfl ?_
      case hg => exact (set12 HR.out rfl rfl rfl rfl rfl rfl rfl rfl rfl rfl rfl rfl).1
      exact ⟨rfl, (set12 HR.out rfl rfl rfl rfl rfl rfl rfl rfl rfl rfl rfl rfl).2 _ (by omega) _ HBEL.out⟩
    | succ n =>
      have hn : n < 12 := by omega
      have e0 : ((n + 1 : Nat) : Int) - 1 = (n : Int) := by omega
      rw [e0]
      clear e0
      obtain ⟨i0, hi0, hp0⟩ := MS.down m K n
      rw [hp0]
      have hl0 : i0 ≤ (m.lowAt K n ++ m.highAt K n).length := by rw [List.length_append]; omega
      obtain ⟨lb, hlb⟩ := link_all HM.out HOK.out (HOK.out.linkIn K hn hl0) (HOK.out.link K hn hl0)
      have HL := Lib.hid (hlb _ HA.out.bel)
      have hlc := HL.out.1
      have hn' : (n : Int) < 12 := by omega
      have w1 : IntKind.i64.wrap ((n : Int) - 1) = (n : Int) - 1 := IntWalk.i64_in _ (by omega)
      clear hlb hp0 hl0
      go_wp2_with (go_at_call 22; (with_reducible refine HL.out.2.mono ?_); rintro e w1 ⟨rfl, rfl⟩)
      clear HL hlc
      go_loopw [6, 8] (fun a x wq => ∃ i : Nat, i ≤ (m.lowAt K n).length ∧ a = .int .i64 (m.nth K n i : Int) ∧ x = .int .i64 (m.nth K n (i + 1) : Int) ∧ Hid (Below wa.heap.size wa wq)) (fun a _ _ => (m.lowAt K n ++ m.highAt K n).length + 1 - (0 :: (m.lowAt K n ++ m.highAt K n)).idxOf (intOf a).toNat)
      case atStart => exact ⟨i0, hi0, rfl, rfl, Lib.hid (Below.refl _ _)⟩
      case round =>
        obtain ⟨i, hi, rfl, rfl, HB⟩ := hrel
        obtain ⟨wq, hwq⟩ : ∃ wq, wq = wr := ⟨_, rfl⟩
        subst hwq
        have hAq := HA.out.ext HB.out
        have b0 : wq.cell? ⟨w.heap.size, 0, none⟩ = some (.string K.u) := blk_cell hAq.key
        have b1 : wq.cell? ⟨w.heap.size, 1, none⟩ = some (.int .i64 K.s) := blk_cell hAq.key
        have b2 : wq.cell? ⟨w.heap.size, 2, none⟩ = some (.int .i64 K.k) := blk_cell hAq.key
        by_cases hend : i < (m.lowAt K n ++ m.highAt K n).length
        · obtain ⟨n1, n2, n3, _⟩ := HOK.out.nth_at K (h := n) hend
          have hnz : ((m.nth K n (i + 1) : Nat) : Int) ≠ 0 := by omega
          have hnz2 : ¬ m.nth K n (i + 1) = 0 := by omega
          have hEf := HOK.out.ent_fits n1 n2
          have hE := entry_at ((HM.out.below hAq.bel).drew) n1 n2 _ rfl
          have hC := cmp_any (m.ent (m.nth K n (i + 1))).u (m.ent (m.nth K n (i + 1))).s (m.ent (m.nth K n (i + 1))).k K.u K.s K.k hEf.1 HK.out.1
          have hcc : cmpK (m.ent (m.nth K n (i + 1))).u.data.toList (m.ent (m.nth K n (i + 1))).s (m.ent (m.nth K n (i + 1))).k K.u.data.toList K.s K.k = (m.ent (m.nth K n (i + 1))).cmp K := rfl
          rw [hcc] at hC
          have HLOW : Hid (i < (m.lowAt K n).length → (m.ent (m.nth K n (i + 1))).cmp K < 0) := Lib.hid MS.nth_low
          have HHIGH : Hid ((m.lowAt K n).length ≤ i → ¬ (m.ent (m.nth K n (i + 1))).cmp K < 0) := Lib.hid fun h => HOK.out.nth_high h hend
          generalize (m.ent (m.nth K n (i + 1))).cmp K = c at *
          generalize m.ent (m.nth K n (i + 1)) = E at *
          obtain ⟨eu, es, ek, ev⟩ := E
          have HE := Lib.hid hE
          have HC := Lib.hid hC
          clear hE hC hcc hEf hAq n3
          by_cases hlow : i < (m.lowAt K n).length
          · have hneg := HLOW.out hlow
            obtain ⟨lb2, hlb2⟩ := link_all HM.out HOK.out (HOK.out.linkIn K hn (show i + 1 ≤ (m.lowAt K n ++ m.highAt K n).length from hend)) (HOK.out.link K hn hend)
            have HL2 := Lib.hid hlb2
            have HMS := Lib.hid (meas_next HOK.out K n i hend)
            clear hlb2 HLOW HHIGH
            go_wp2
            refine wp_region_plan [(true, 0), (true, 1), (true, 2), (true, 3), (true, 4), (true, 7), (false, 5), (true, 6), (false, 8), (true, 9), (true, 10)] (by kernel_rfl) (by kernel_rfl) (by kernel_rfl) (by kernel_rfl) (by kernel_rfl) ?_
            simp only [planO, List.drop_succ_cons, List.drop_zero]
            refine PlanO.take (v := ?va0) (by kernel_rfl) ?ya0 ?ra0
            case ya0 => (intro wz hz; go_simp; try with_reducible rfl)
            (try simp only [Act.put, List.setIfInBounds_toArray, List.set_cons_zero, List.set_cons_succ])
            refine PlanO.take (v := .bool true) (by kernel_rfl) ?ya1 ?ra1
            case ya1 => (intro wz hz; go_simp; try simp [hnz2])
            (try simp only [Act.put, List.setIfInBounds_toArray, List.set_cons_zero, List.set_cons_succ])
            refine PlanO.take (v := ?va2) (by kernel_rfl) ?ya2 ?ra2
            case ya2 => (intro wz hz; go_simp; try with_reducible rfl)
            (try simp only [Act.put, List.setIfInBounds_toArray, List.set_cons_zero, List.set_cons_succ])
            refine PlanO.take (v := ?va3) (by kernel_rfl) ?ya3 ?ra3
            case ya3 => (intro wz hz; go_simp; try with_reducible rfl)
            (try simp only [Act.put, List.setIfInBounds_toArray, List.set_cons_zero, List.set_cons_succ])
            refine PlanO.take (v := ?va4) (by kernel_rfl) ?ya4 ?ra4
            case ya4 => (intro wz hz; go_simp; try with_reducible rfl)
            (try simp only [Act.put, List.setIfInBounds_toArray, List.set_cons_zero, List.set_cons_succ])
            refine PlanO.take (v := ?va7) (by kernel_rfl) ?ya7 ?ra7
            case ya7 => (intro wz hz; have c0 := Ext.at_ hz b0; have c1 := Ext.at_ hz b1; have c2 := Ext.at_ hz b2; go_simp; try with_reducible rfl)
            (try simp only [Act.put, List.setIfInBounds_toArray, List.set_cons_zero, List.set_cons_succ])
            refine PlanO.exec (fun K hK => ?_)
            go_simp
            go_at_call 23
            refine HE.out.mono ?_
            rintro e u1 ⟨rfl, hb1⟩
            have hE1 : Ext wq.drew u1 := hb1
            go_wp2_with fail
            refine hK.out _ _ hb1 ?_
            clear hK K
            (try simp only [Act.put, List.setIfInBounds_toArray, List.set_cons_zero, List.set_cons_succ])
            refine PlanO.take (v := ?va6) (by kernel_rfl) ?ya6 ?ra6
            case ya6 => (intro wz hz; have hfk := run_field_key eu es ek ev wz; go_simp; try with_reducible rfl)
            (try simp only [Act.put, List.setIfInBounds_toArray, List.set_cons_zero, List.set_cons_succ])
            refine PlanO.exec (fun K hK => ?_)
            go_simp
            go_at_call 28
            refine (HC.out _).mono ?_
            rintro e u2 ⟨rfl, hb2⟩
            have hE2 : Ext wq.drew u2 := Ext.trans hE1 hb2
            go_wp2_with fail
            refine hK.out _ _ hb2 ?_
            clear hK K
            (try simp only [Act.put, List.setIfInBounds_toArray, List.set_cons_zero, List.set_cons_succ])
            refine PlanO.take (v := ?va9) (by kernel_rfl) ?ya9 ?ra9
            case ya9 => (intro wz hz; go_simp; try with_reducible rfl)
            (try simp only [Act.put, List.setIfInBounds_toArray, List.set_cons_zero, List.set_cons_succ])
            refine PlanO.take (v := ?va10) (by kernel_rfl) ?ya10 ?ra10
            case ya10 => (intro wz hz; go_simp; try with_reducible rfl)
            (try simp only [Act.put, List.setIfInBounds_toArray, List.set_cons_zero, List.set_cons_succ])
            refine PlanO.done (NoPanic.normal ?_)
            have hbu := belowT (belowT HB.out.drew hb1) hb2
            obtain ⟨hq2, hcl2⟩ := HL2.out u2 (belowT HA.out.bel hbu)
            have HBU := Lib.hid hbu
            have HCL := Lib.hid hcl2
            clear hbu hcl2 HL2
            go_wp2_with (go_at_call 22; (with_reducible refine HCL.out.mono ?_); rintro e w1 ⟨rfl, rfl⟩)
            go_roundw
            case rel => exact ⟨i + 1, hlow, rfl, rfl, HBU⟩
            case measure => exact HMS.out
          · have hie : i = (m.lowAt K n).length := by omega
            have hneg := HHIGH.out (by omega)
            have hneg' : 0 ≤ c := by omega
            have hpath : m.nth K n i = m.path K n := by rw [MS.path_nth, hie]
            rw [hpath]
            clear HLOW HHIGH hpath hie
            go_wp2
            refine wp_region_plan [(true, 0), (true, 1), (true, 2), (true, 3), (true, 4), (true, 7), (false, 5), (true, 6), (false, 8), (true, 9), (true, 10)] (by kernel_rfl) (by kernel_rfl) (by kernel_rfl) (by kernel_rfl) (by kernel_rfl) ?_
            simp only [planO, List.drop_succ_cons, List.drop_zero]
            refine PlanO.take (v := ?vb0) (by kernel_rfl) ?yb0 ?rb0
            case yb0 => (intro wz hz; go_simp; try with_reducible rfl)
            (try simp only [Act.put, List.setIfInBounds_toArray, List.set_cons_zero, List.set_cons_succ])
            refine PlanO.take (v := .bool true) (by kernel_rfl) ?yb1 ?rb1
            case yb1 => (intro wz hz; go_simp; try simp [hnz2])
            (try simp only [Act.put, List.setIfInBounds_toArray, List.set_cons_zero, List.set_cons_succ])
            refine PlanO.take (v := ?vb2) (by kernel_rfl) ?yb2 ?rb2
            case yb2 => (intro wz hz; go_simp; try with_reducible rfl)
            (try simp only [Act.put, List.setIfInBounds_toArray, List.set_cons_zero, List.set_cons_succ])
            refine PlanO.take (v := ?vb3) (by kernel_rfl) ?yb3 ?rb3
            case yb3 => (intro wz hz; go_simp; try with_reducible rfl)
            (try simp only [Act.put, List.setIfInBounds_toArray, List.set_cons_zero, List.set_cons_succ])
            refine PlanO.take (v := ?vb4) (by kernel_rfl) ?yb4 ?rb4
            case yb4 => (intro wz hz; go_simp; try with_reducible rfl)
            (try simp only [Act.put, List.setIfInBounds_toArray, List.set_cons_zero, List.set_cons_succ])
            refine PlanO.take (v := ?vb7) (by kernel_rfl) ?yb7 ?rb7
            case yb7 => (intro wz hz; have c0 := Ext.at_ hz b0; have c1 := Ext.at_ hz b1; have c2 := Ext.at_ hz b2; go_simp; try with_reducible rfl)
            (try simp only [Act.put, List.setIfInBounds_toArray, List.set_cons_zero, List.set_cons_succ])
            refine PlanO.exec (fun K hK => ?_)
            go_simp
            go_at_call 23
            refine HE.out.mono ?_
            rintro e u1 ⟨rfl, hb1⟩
            have hE1 : Ext wq.drew u1 := hb1
            go_wp2_with fail
            refine hK.out _ _ hb1 ?_
            clear hK K
            (try simp only [Act.put, List.setIfInBounds_toArray, List.set_cons_zero, List.set_cons_succ])
            refine PlanO.take (v := ?vb6) (by kernel_rfl) ?yb6 ?rb6
            case yb6 => (intro wz hz; have hfk := run_field_key eu es ek ev wz; go_simp; try with_reducible rfl)
            (try simp only [Act.put, List.setIfInBounds_toArray, List.set_cons_zero, List.set_cons_succ])
            refine PlanO.exec (fun K hK => ?_)
            go_simp
            go_at_call 28
            refine (HC.out _).mono ?_
            rintro e u2 ⟨rfl, hb2⟩
            have hE2 : Ext wq.drew u2 := Ext.trans hE1 hb2
            go_wp2_with fail
            refine hK.out _ _ hb2 ?_
            clear hK K
            (try simp only [Act.put, List.setIfInBounds_toArray, List.set_cons_zero, List.set_cons_succ])
            refine PlanO.take (v := ?vb9) (by kernel_rfl) ?yb9 ?rb9
            case yb9 => (intro wz hz; go_simp; try with_reducible rfl)
            (try simp only [Act.put, List.setIfInBounds_toArray, List.set_cons_zero, List.set_cons_succ])
            refine PlanO.take (v := ?vb10) (by kernel_rfl) ?yb10 ?rb10
            case yb10 => (intro wz hz; go_simp; try with_reducible rfl)
            (try simp only [Act.put, List.setIfInBounds_toArray, List.set_cons_zero, List.set_cons_succ])
            refine PlanO.done (NoPanic.normal ?_)
            have hbu := belowT (belowT HB.out.drew hb1) hb2
            have hA2 := HA.out.ext hbu
            have k0 : u2.cell? ⟨w.heap.size + 1 + 1, n, none⟩ = some (.int .i64 (((fun _ i => if i < n + 1 then 0 else m.path K i) : Nat → Nat → Nat) 0 n : Int)) := by rw [blk_cell hA2.row, List.getElem?_toArray]; exact lkCells_at _ _ hn
            have k1 : u2.frozen? ⟨w.heap.size + 1 + 1, n, none⟩ = false := blk_free hA2.row
            simp only at k0
            have HA2 := Lib.hid hA2
            clear hA2
            go_wp2
            go_roundw
            case rel => exact ⟨n, by omega, rfl, rfl, Lib.hid HA2.out.step⟩
            case measure => (simp [intOf]; try omega)
        · have hie : i = (m.lowAt K n).length := by rw [List.length_append] at hend; omega
          have hz0 : m.nth K n (i + 1) = 0 := MS.nth_end m K n i (by omega)
          have hpath : m.nth K n i = m.path K n := by rw [MS.path_nth, hie]
          rw [hpath, hz0]
          clear hpath hz0 hAq hie
          go_wp2
          go_quiet (fail)
          obtain ⟨u2, hu2⟩ : ∃ u2, u2 = wq.drewN nq := ⟨_, rfl⟩
          rw [← hu2]
          have hbu : Below wa.heap.size wa u2 := by rw [hu2]; exact below_drewN HB.out nq
          clear hu2
          have hA2 := HA.out.ext hbu
          have k0 : u2.cell? ⟨w.heap.size + 1 + 1, n, none⟩ = some (.int .i64 (((fun _ i => if i < n + 1 then 0 else m.path K i) : Nat → Nat → Nat) 0 n : Int)) := by rw [blk_cell hA2.row, List.getElem?_toArray]; exact lkCells_at _ _ hn
          have k1 : u2.frozen? ⟨w.heap.size + 1 + 1, n, none⟩ = false := blk_free hA2.row
          simp only at k0
          have HA2 := Lib.hid hA2
          clear hA2
          go_wp2
          go_roundw
          case rel => exact ⟨n, by omega, rfl, rfl, Lib.hid HA2.out.step⟩
          case measure => (simp [intOf]; try omega)
end Go.Proofs.Ytjiefffmcohcbaa
