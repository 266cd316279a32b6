import Derived.Test.YteeikmpfgbfeoaaGreatMg08
import Derived.Test.YteeikmpfgbfeoaaGreatBlkBox
import Derived.RangeFuncOwn
import Derived.RangeFuncFrom
import Derived.Shelf.Slices.Cells
import Derived.Ground.NamesProg
import Derived.Test.YteeikmpfgbfeoaaGreatProg
import Derived.Test.YteeikmpfgbfeoaaGreatMg00
import Derived.Test.YteeikmpfgbfeoaaGreatOwnEnt
import Derived.Test.YteeikmpfgbfeoaaGreatRegion
import Derived.Deep.Cut
import Derived.Test.YteeikmpfgbfeoaaGreatMg02
import Derived.Test.YteeikmpfgbfeoaaGreatCells
import Derived.Test.YteeikmpfgbfeoaaGreatFixed
import Derived.Test.YteeikmpfgbfeoaaGreatMg10

/-
  Two boxes: one holds bytes that are put together, the other rows; both in memory of the call's own; what is marked is kept.
-/
namespace Go.Proofs.YteeikmpfgbfeoaaGreat
open Go.RowKit

structure PB (T : Nat → Prop) (W0 : World) (B p q : Nat) (w : World) (vb vr : Value) (bs : List UInt8) (rs : List Rw) : Prop where
  cb : w.heap[p]? = some (.cells #[vb] 24 (0, 0))
  cr : w.heap[q]? = some (.cells #[vr] 53 (0, 0))
  own : OwnB w B 5 vb bs
  rows : OwnR w B vr rs
  ap : ∀ j, vb.ownBlock = some j → vr.ownBlock ≠ some j
  ba : ∀ j, vb.ownBlock = some j → j ≠ p ∧ j ≠ q ∧ ¬ T j
  ra : ∀ j, vr.ownBlock = some j → j ≠ p ∧ j ≠ q ∧ ¬ T j
  tk : ∀ k, T k → k < w.heap.size ∧ k ≠ p ∧ k ≠ q
  pq : p ≠ q
  be : Below B W0 w
  bl : B ≤ w.heap.size
  hp : B ≤ p
  hq : B ≤ q

theorem keeps_below {w w' : World} (h : Below w.heap.size w w') : KeepsOthers w w' :=
  ⟨h.size, fun k _ hk _ => (h.block k (Array.getElem?_eq_some_iff.1 hk).1).trans hk⟩
theorem keeps_moves {w w' : World} {B e size n : Nat} {v v' : Value} {cs : List Value} (ho : w.ownsRow B e size v n cs) (hm : Moves w w' v v') : KeepsOthers w w' :=
  KeepsOthers.of_grownBy hm.grown fun j o hj hk => by
    rcases ho.2 with ⟨rfl, _⟩ | ⟨g, cap, cur, rfl, _, hg, _⟩
    · cases hj
    · cases hj
      rw [hg] at hk
      cases hk
      rfl
theorem kept_putObj {T : Nat → Prop} {w : World} {l : Nat} (o : Obj) (h : ¬ T l) : Kept T w (w.putObj l o) :=
  ⟨rfl, rfl, rfl, by unfold World.putObj; simp, fun k hk => World.putObj_heap_other (by rintro rfl; exact h hk)⟩

section
variable {T : Nat → Prop} {W0 : World} {B p q : Nat} {w w' w1 : World} {vb vr v' : Value} {bs n : List UInt8} {rs m : List Rw}
theorem PB.kept (h : PB T W0 B p q w vb vr bs rs) {U : Nat → Prop} (hk : Kept U w w') (up : U p) (uq : U q) (ub : ∀ j, vb.ownBlock = some j → U j) (ur : ∀ j, vr.ownBlock = some j → U j) (hb : Below B W0 w') : PB T W0 B p q w' vb vr bs rs where
  cb := (hk.block p up).trans h.cb
  cr := (hk.block q uq).trans h.cr
  own := own_kept h.own hk ub
  rows := own_kept h.rows hk ur
  ap := h.ap
  ba := h.ba
  ra := h.ra
  tk k hk' := ⟨Nat.lt_of_lt_of_le (h.tk k hk').1 hk.size, (h.tk k hk').2⟩
  pq := h.pq
  be := hb
  bl := Nat.le_trans h.bl hk.size
  hp := h.hp
  hq := h.hq
theorem PB.call (h : PB T W0 B p q w vb vr bs rs) (hb : Below w.heap.size w w') : PB T W0 B p q w' vb vr bs rs :=
  h.kept (U := fun k => k < w.heap.size) (Kept.of hb fun _ h => h) (blk_lt h.cb) (blk_lt h.cr) (own_lt h.own) (own_lt h.rows) (h.be.trans (hb.mono h.bl))
theorem PB.kcall (h : PB T W0 B p q w vb vr bs rs) (hb : Below w.heap.size w w') : Kept T w w' := Kept.of hb fun k hk => (h.tk k hk).1
/-- What turns is no row of cells: so the law of the range over a function may turn it. -/
theorem PB.turned (h : PB T W0 B p q w vb vr bs rs) {row : Option Nat} (hg : w.grownBy w' row) (hr : ∀ r, row = some r → B ≤ r ∧ ∃ o : Obj, w.heap[r]? = some o ∧ o.isCells = false) : PB T W0 B p q w' vb vr bs rs := by
  have hne : ∀ k cs t, w.heap[k]? = some (.cells cs t (0, 0)) → row ≠ some k := fun k cs t hk e => by
    obtain ⟨_, o, ho, hc⟩ := hr k e
    rw [hk] at ho
    cases ho
    cases hc
  have hown : ∀ {e size n : Nat} {v : Value} {cs : List Value}, w.ownsRow B e size v n cs → ∀ j, v.ownBlock = some j → j < w.heap.size ∧ row ≠ some j := by
    intro e size n v cs ho j hj
    refine ⟨own_lt ho j hj, ?_⟩
    rcases ho.2 with ⟨rfl, _⟩ | ⟨g, cap, cur, rfl, _, hg', _⟩
    · cases hj
    · cases hj
      exact hne g _ _ hg'
  refine h.kept (U := fun k => k < w.heap.size ∧ row ≠ some k) ⟨hg.os, hg.tape, hg.output, hg.size, fun k hk => hg.block k hk.1 (fun e => hk.2 e.symm)⟩ ⟨blk_lt h.cb, hne _ _ _ h.cb⟩ ⟨blk_lt h.cr, hne _ _ _ h.cr⟩ (hown h.own) (hown h.rows) ?_
  exact h.be.grown hg h.bl fun k e => (hr k e).1
/-- More bytes: appended, and stored. -/
theorem PB.putB (h : PB T W0 B p q w vb vr bs rs) (ho : w1.ownsRow 0 5 1 v' (bs.length + n.length) (bs.map bv ++ n.map bv)) (hm : Moves w w1 vb v') :
    PB T W0 B p q (w1.setCell ⟨p, 0, none⟩ v') v' vr (bs ++ n) rs ∧ Kept T w (w1.setCell ⟨p, 0, none⟩ v') ∧ KeepsOthers w (w1.setCell ⟨p, 0, none⟩ v') ∧ w1.cell? ⟨p, 0, none⟩ = some vb ∧ w1.frozen? ⟨p, 0, none⟩ = false := by
  have k1 : Kept (fun k => k < w.heap.size ∧ vb.ownBlock ≠ some k) w w1 := hm.kept fun _ h => h
  have c1 : w1.heap[p]? = some (.cells #[vb] 24 (0, 0)) := (k1.block p ⟨blk_lt h.cb, fun e => (h.ba p e).1 rfl⟩).trans h.cb
  have hkt : Kept T w w1 := k1.mono fun k hk => ⟨(h.tk k hk).1, fun e => (h.ba k e).2.2 hk⟩
  have hat : ∀ j, v'.ownBlock = some j → j ≠ p ∧ j ≠ q ∧ ¬ T j ∧ B ≤ j ∧ vr.ownBlock ≠ some j := by
    intro j hj
    rcases hm.at_ j hj with e | e
    · exact ⟨(h.ba j e).1, (h.ba j e).2.1, (h.ba j e).2.2, (World.ownsRow.lt h.own j e).1, h.ap j e⟩
    · refine ⟨fun e' => ?_, fun e' => ?_, fun hT => ?_, Nat.le_trans h.bl e.1, fun e' => ?_⟩
      · have := blk_lt h.cb; omega
      · have := blk_lt h.cr; omega
      · have := (h.tk j hT).1; omega
      · have := own_lt h.rows j e'; omega
  have ho1 : OwnB w1 B 5 v' (bs ++ n) := by
    have := own_base ho fun k hk => (hat k hk).2.2.2.1
    unfold OwnB
    rw [List.length_append, List.map_append]
    exact this
  have k2 : ∀ U : Nat → Prop, ¬ U p → Kept U w1 (w1.setCell ⟨p, 0, none⟩ v') := fun U hU => (Kept.refl U w1).setCell (p := ⟨p, 0, none⟩) hU _
  refine ⟨⟨by rw [blk_set c1]; rfl, ?_, ?_, ?_, fun j hj e => (hat j hj).2.2.2.2 e, fun j hj => ⟨(hat j hj).1, (hat j hj).2.1, (hat j hj).2.2.1⟩, h.ra, ?_, h.pq, ?_, ?_, h.hp, h.hq⟩, hkt.trans (k2 T fun hT => (h.tk p hT).2.1 rfl), (keeps_moves h.own hm).trans (KeepsOthers.setCell _ _ _), blk_cell (i := 0) c1, blk_free c1⟩
  · exact ((k2 (fun k => k ≠ p) (fun e => e rfl)).block q (Ne.symm h.pq)).trans ((k1.block q ⟨blk_lt h.cr, fun e => (h.ba q e).2.1 rfl⟩).trans h.cr)
  · exact own_kept ho1 (k2 (fun k => k ≠ p) (fun e => e rfl)) fun k hk => (hat k hk).1
  · refine own_kept (own_kept h.rows k1 fun k hk => ⟨own_lt h.rows k hk, fun e => h.ap k e hk⟩) (k2 (fun k => k ≠ p) (fun e => e rfl)) fun k hk => (h.ra k hk).1
  · intro k hk
    refine ⟨?_, (h.tk k hk).2⟩
    have h1 := (h.tk k hk).1
    have h2 := k1.size
    have h3 := (k2 (fun k => k ≠ p) (fun e => e rfl)).size
    omega
  · have hb := below_moved h.own h.bl h.be hm
    exact Kept.below ((Kept.of hb (R := fun k => k < B) fun _ h => h).setCell (p := ⟨p, 0, none⟩) (by show ¬ p < B; have := h.hp; omega) _) fun _ h => h
  · exact Nat.le_trans h.bl (Nat.le_trans k1.size (k2 (fun k => k ≠ p) (fun e => e rfl)).size)
/-- More rows: appended, and stored. -/
theorem PB.putR (h : PB T W0 B p q w vb vr bs rs) (ho : w1.ownsRow 0 60 5 v' (rs.length + m.length) (rs.flatMap Rw.cells ++ m.flatMap Rw.cells)) (hm : Moves w w1 vr v') :
    PB T W0 B p q (w1.setCell ⟨q, 0, none⟩ v') vb v' bs (rs ++ m) ∧ Kept T w (w1.setCell ⟨q, 0, none⟩ v') ∧ KeepsOthers w (w1.setCell ⟨q, 0, none⟩ v') ∧ w1.cell? ⟨q, 0, none⟩ = some vr ∧ w1.frozen? ⟨q, 0, none⟩ = false ∧ w1.cell? ⟨p, 0, none⟩ = some vb := by
  have k1 : Kept (fun k => k < w.heap.size ∧ vr.ownBlock ≠ some k) w w1 := hm.kept fun _ h => h
  have c1 : w1.heap[q]? = some (.cells #[vr] 53 (0, 0)) := (k1.block q ⟨blk_lt h.cr, fun e => (h.ra q e).2.1 rfl⟩).trans h.cr
  have c2 : w1.heap[p]? = some (.cells #[vb] 24 (0, 0)) := (k1.block p ⟨blk_lt h.cb, fun e => (h.ra p e).1 rfl⟩).trans h.cb
  have hkt : Kept T w w1 := k1.mono fun k hk => ⟨(h.tk k hk).1, fun e => (h.ra k e).2.2 hk⟩
  have hat : ∀ j, v'.ownBlock = some j → j ≠ p ∧ j ≠ q ∧ ¬ T j ∧ B ≤ j ∧ vb.ownBlock ≠ some j := by
    intro j hj
    rcases hm.at_ j hj with e | e
    · exact ⟨(h.ra j e).1, (h.ra j e).2.1, (h.ra j e).2.2, (World.ownsRow.lt h.rows j e).1, fun e' => h.ap j e' e⟩
    · refine ⟨fun e' => ?_, fun e' => ?_, fun hT => ?_, Nat.le_trans h.bl e.1, fun e' => ?_⟩
      · have := blk_lt h.cb; omega
      · have := blk_lt h.cr; omega
      · have := (h.tk j hT).1; omega
      · have := own_lt h.own j e'; omega
  have ho1 : OwnR w1 B v' (rs ++ m) := by
    have := own_base ho fun k hk => (hat k hk).2.2.2.1
    unfold OwnR
    rw [List.length_append, List.flatMap_append]
    exact this
  have k2 : ∀ U : Nat → Prop, ¬ U q → Kept U w1 (w1.setCell ⟨q, 0, none⟩ v') := fun U hU => (Kept.refl U w1).setCell (p := ⟨q, 0, none⟩) hU _
  refine ⟨⟨?_, by rw [blk_set c1]; rfl, ?_, ?_, fun j hj e => (hat j e).2.2.2.2 hj, h.ba, fun j hj => ⟨(hat j hj).1, (hat j hj).2.1, (hat j hj).2.2.1⟩, ?_, h.pq, ?_, ?_, h.hp, h.hq⟩, hkt.trans (k2 T fun hT => (h.tk q hT).2.2 rfl), (keeps_moves h.rows hm).trans (KeepsOthers.setCell _ _ _), blk_cell (i := 0) c1, blk_free c1, blk_cell (i := 0) c2⟩
  · exact ((k2 (fun k => k ≠ q) (fun e => e rfl)).block p h.pq).trans c2
  · refine own_kept (own_kept h.own k1 fun k hk => ⟨own_lt h.own k hk, fun e => h.ap k hk e⟩) (k2 (fun k => k ≠ q) (fun e => e rfl)) fun k hk => (h.ba k hk).2.1
  · exact own_kept ho1 (k2 (fun k => k ≠ q) (fun e => e rfl)) fun k hk => (hat k hk).2.1
  · intro k hk
    refine ⟨?_, (h.tk k hk).2⟩
    have h1 := (h.tk k hk).1
    have h2 := k1.size
    have h3 := (k2 (fun k => k ≠ q) (fun e => e rfl)).size
    omega
  · have hk := hm.kept (R := fun k => k < w.heap.size ∧ vr.ownBlock ≠ some k) fun k hk => hk
    have hb : Below B W0 w1 := Kept.below ((Kept.of h.be (R := fun k => k < B) fun _ h => h).trans (hk.mono fun k hk => ⟨Nat.lt_of_lt_of_le hk h.bl, fun e => by have := (World.ownsRow.lt h.rows k e).1; omega⟩)) fun _ h => h
    exact Kept.below ((Kept.of hb (R := fun k => k < B) fun _ h => h).setCell (p := ⟨q, 0, none⟩) (by show ¬ q < B; have := h.hq; omega) _) fun _ h => h
  · exact Nat.le_trans h.bl (Nat.le_trans k1.size (k2 (fun k => k ≠ q) (fun e => e rfl)).size)
/-- What lies beyond is not touched. -/
theorem own_past {w w1 : World} {D e q : Nat} {y vr v' u : Value} {l : List UInt8} (h : OwnB w D e y l) (hm : Moves w w1 vr v') (hv : ∀ j, vr.ownBlock = some j → j < D) (hq : q < D) : OwnB (w1.setCell ⟨q, 0, none⟩ u) D e y l := by
  have k1 : Kept (fun k => D ≤ k ∧ k < w.heap.size) w w1 := hm.kept fun k hk => ⟨hk.2, fun e => by have := hv k e; omega⟩
  have k2 := k1.setCell (p := ⟨q, 0, none⟩) (by show ¬ (D ≤ q ∧ q < w.heap.size); omega) u
  exact own_kept h k2 fun j hj => World.ownsRow.lt h j hj
theorem PB.cellB (h : PB T W0 B p q w vb vr bs rs) : w.cell? ⟨p, 0, none⟩ = some vb := blk_cell (i := 0) h.cb
theorem PB.cellR (h : PB T W0 B p q w vb vr bs rs) : w.cell? ⟨q, 0, none⟩ = some vr := blk_cell (i := 0) h.cr
theorem PB.own0 (h : PB T W0 B p q w vb vr bs rs) : w.ownsRow 0 5 1 vb bs.length (bs.map bv) := own_base h.own fun _ _ => Nat.zero_le _
theorem PB.rows0 (h : PB T W0 B p q w vb vr bs rs) : w.ownsRow 0 60 5 vr rs.length (rs.flatMap Rw.cells) := own_base h.rows fun _ _ => Nat.zero_le _
end
end Go.Proofs.YteeikmpfgbfeoaaGreat

/-
  Contracts of the library, laid at this program.
-/
namespace Go.Proofs.YteeikmpfgbfeoaaGreat
open Go.Shelf
def Tryz.compactS_ren : Go.Shelf.Ren := ⟨fun | 194 => 51 | n => n, fun | 31 => 63 | 9 => 9 | 3 => 3 | 4 => 4 | 0 => 0 | n => n, fun | n => n⟩
theorem Tryz.compactS : Go.Proofs.Lays.n194 Tryz.prog Tryz.compactS_ren := {
  mixed := by kernel_rfl
  f194 := Tryz.func51.trans (congrArg some (by kernel_rfl))
  t0 := Tryz.underlying0
  a0 := Tryz.isAgg0
  z0 := Tryz.sizeOf0
  v0 := Tryz.zeroValue0
  t3 := Tryz.underlying3
  a3 := Tryz.isAgg3
  z3 := Tryz.sizeOf3
  v3 := Tryz.zeroValue3
  t4 := Tryz.underlying4
  a4 := Tryz.isAgg4
  z4 := Tryz.sizeOf4
  v4 := Tryz.zeroValue4
  t9 := Tryz.underlying9
  a9 := Tryz.isAgg9
  z9 := Tryz.sizeOf9
  v9 := Tryz.zeroValue9
  t31 := Tryz.underlying63
  a31 := Tryz.isAgg63
  z31 := Tryz.sizeOf63
  v31 := Tryz.zeroValue63 }
end Go.Proofs.YteeikmpfgbfeoaaGreat

/-
  slices.Compact of texts, in memory of the call's own.
-/
namespace Go.Proofs.YteeikmpfgbfeoaaGreat
open Go.RowKit

/-- Many stores side by side into one row. -/
theorem setCells_row {g : Nat} {e : TypeId} : ∀ (vs : List Value) (o : Nat) (w : World) (cur : Array Value), w.heap[g]? = some (.cells cur e (0, 0)) →
    ∃ cur', (w.setCells g o vs).heap[g]? = some (.cells cur' e (0, 0)) ∧ cur'.size = cur.size ∧ ∀ j, j < cur.size → cur'[j]? = if o ≤ j ∧ j < o + vs.length then vs[j - o]? else cur[j]?
  | [], o, w, cur, h => ⟨cur, h, rfl, fun j _ => by rw [if_neg (by simp)]⟩
  | v :: r, o, w, cur, h => by
    obtain ⟨cur', h1, h2, h3⟩ := setCells_row r (o + 1) (w.setCell ⟨g, o, none⟩ v) _ (blk_set h v)
    refine ⟨cur', h1, by rw [h2]; simp, fun j hj => ?_⟩
    rw [h3 j (by simpa using hj)]
    by_cases hjo : j = o
    · subst hjo
      rw [if_neg (by omega), if_pos (by simp)]
      simp [hj]
    · by_cases hr : o + 1 ≤ j ∧ j < o + 1 + r.length
      · rw [if_pos hr, if_pos (by simp only [List.length_cons]; omega)]
        obtain ⟨d, hd⟩ : ∃ d, j - o = d + 1 := ⟨j - o - 1, by omega⟩
        rw [hd, List.getElem?_cons_succ, show j - (o + 1) = d by omega]
      · rw [if_neg hr, if_neg (by simp only [List.length_cons]; omega)]
        rw [Array.getElem?_setIfInBounds_ne (by omega)]
theorem kept_setCells {R : Nat → Prop} {a : World} {g : Nat} (hg : ¬ R g) : ∀ (vs : List Value) (o : Nat) (w : World), Kept R a w → Kept R a (w.setCells g o vs)
  | [], _, _, h => h
  | v :: r, o, _, h => kept_setCells hg r (o + 1) _ (h.setCell (p := ⟨g, o, none⟩) hg v)

theorem strsOf_at {Sx : Nat → ByteArray} {n j : Nat} (hj : j < n) : (Lib.strsOf Sx n).toArray[j]! = (Sx j).data.toList := by
  unfold Lib.strsOf
  simp [hj]
theorem data_ne {a b : ByteArray} : a.data.toList ≠ b.data.toList ↔ a ≠ b := by
  constructor
  · intro h e
    exact h (by rw [e])
  · intro h e
    refine h ?_
    cases a
    cases b
    simp only [ByteArray.mk.injEq]
    exact Array.toList_inj.1 e
theorem compact_usersN (es : List Ent) {n : Nat} (hn : n = es.length) : ∀ k, k ≤ n → (Lib.compactUpTo (Lib.strsOf (fun i => (es.getD i Ent.none_).u) n).toArray k).map encStr = (usersN es k).map Value.string
  | 0, _ => rfl
  | k + 1, hk => by
    rw [Lib.compactUpTo_succ, List.map_append, compact_usersN es hn k (by omega)]
    rw [show usersN es (k + 1) = usersN es k ++ (if k = 0 ∨ (es.getD k Ent.none_).u ≠ (es.getD (k - 1) Ent.none_).u then [(es.getD k Ent.none_).u] else []) from rfl, List.map_append]
    congr 1
    have e1 := strsOf_at (Sx := fun i => (es.getD i Ent.none_).u) (n := n) (j := k) (by omega)
    have e2 := strsOf_at (Sx := fun i => (es.getD i Ent.none_).u) (n := n) (j := k - 1) (by omega)
    unfold Lib.keeps
    rw [e1, e2]
    by_cases h : k = 0 ∨ (es.getD k Ent.none_).u ≠ (es.getD (k - 1) Ent.none_).u
    · rw [if_pos h, if_pos (decide_eq_true (h.imp id data_ne.2))]
      simp [encStr]
    · rw [if_neg h, if_neg (fun hd => h ((of_decide_eq_true hd).imp id data_ne.1))]
      rfl
theorem users_all {es : List Ent} (h : es.length < 2) : usersL es = es.map Ent.u := by
  match es, h with
  | [], _ => rfl
  | [e], _ => rfl

/-- slices.Compact of the Users of entries. -/
theorem compact_any {x : Value} {es : List Ent} {B : Nat} {w : World} (ho : OwnS w B x (es.map Ent.u)) (hl : es.length ≤ 100000) :
    Calls Tryz.prog 51 #[x] w fun e w' => ∃ y, e = .returned y ∧ OwnS w' B y (usersL es) ∧ ∀ B' a, B' ≤ B → Below B' a w → Below B' a w' := by
  have ho0 := ho
  obtain ⟨hlen, h1⟩ := ho
  rcases h1 with ⟨rfl, h0⟩ | ⟨g, cap, cur, rfl, hB, hg, hn, hm, hs, ht⟩
  · have hes : es.length = 0 := by simpa using h0
    refine (Any.slices_Compact_string_empty Tryz.compactS none 0 w).mono ?_
    rintro e w' ⟨rfl, rfl⟩
    refine ⟨_, rfl, ?_, fun _ _ _ h => h⟩
    rw [users_all (by omega)]
    exact ho0
  · rw [List.length_map] at hn hlen
    have hsz : es.length ≤ cur.size := by omega
    have hat : ∀ j, j < es.length → cur[j]? = some (.string (es.getD j Ent.none_).u) := by
      intro j hj
      have : (cur.toList.take ((es.map Ent.u).length * 1))[j]? = (((es.map Ent.u).map Value.string))[j]? := by rw [ht]
      rw [List.getElem?_take, if_pos (by simpa using hj)] at this
      rw [← Array.getElem?_toList, this]
      simp [List.getD, hj]
    have hc := Any.slices_Compact_string_cells Tryz.compactS g 0 es.length cap (fun i => (es.getD i Ent.none_).u) w (by omega) hn (fun i hi => by rw [Nat.zero_add, blk_cell hg]; exact hat i hi) (fun j _ => by rw [Nat.zero_add]; exact blk_free hg)
    rw [List.length_map]
    refine hc.mono ?_
    rintro e w' ⟨rfl, q, rfl⟩
    have hcl : (Lib.compact (Lib.strsOf (fun i => (es.getD i Ent.none_).u) es.length)).map encStr = (usersL es).map Value.string := by
      unfold Lib.compact usersL
      rw [Lib.strsOf_length]
      exact compact_usersN es rfl _ (Nat.le_refl _)
    have hcn : (Lib.compact (Lib.strsOf (fun i => (es.getD i Ent.none_).u) es.length)).length = (usersL es).length := by
      have := congrArg List.length hcl
      simpa using this
    have hul := usersN_len es es.length
    obtain ⟨cur', k1, k2, k3⟩ := setCells_row (g := g) ((Lib.compact (Lib.strsOf (fun i => (es.getD i Ent.none_).u) es.length) ++ List.replicate (es.length - (Lib.compact (Lib.strsOf (fun i => (es.getD i Ent.none_).u) es.length)).length) []).map encStr) 0 (w.drewN q) cur hg
    rw [hcn]
    refine ⟨_, rfl, ⟨by simp, .inr ⟨g, cap, cur', rfl, hB, by rw [← hcn]; exact k1, by unfold usersL; omega, hm, by rw [k2]; exact hs, ?_⟩⟩, fun B' a hB' hb => ?_⟩
    · apply List.ext_getElem?
      intro j
      rw [List.getElem?_take]
      by_cases hj : j < (usersL es).length * 1
      · rw [if_pos hj, Array.getElem?_toList, k3 j (by unfold usersL at hj; omega), if_pos (by simp only [List.length_map, List.length_append, List.length_replicate, hcn]; omega), Nat.sub_zero, List.map_append, List.getElem?_append_left (by simp only [List.length_map, hcn]; omega), hcl]
      · rw [if_neg hj]
        symm
        rw [List.getElem?_eq_none_iff]
        simp only [List.length_map]
        omega
    · have hd : Below B' a (w.drewN q) := ⟨hb.os, hb.tape, hb.output, hb.size, hb.block⟩
      exact Kept.below (kept_setCells (R := fun k => k < B') (g := g) (by show ¬ g < B'; omega) _ 0 _ (Kept.of hd fun _ h => h)) fun _ h => h
end Go.Proofs.YteeikmpfgbfeoaaGreat

/-
  Tables: users: the Users of entries, each once.
-/
namespace Go.Proofs.YteeikmpfgbfeoaaGreat
open Go.RowKit

theorem takeU_more (es : List Ent) {k : Nat} (hk : k < es.length) : (es.take (k + 1)).map Ent.u = (es.take k).map Ent.u ++ [(es.getD k Ent.none_).u] := by
  rw [List.take_add_one, List.map_append]
  simp [List.getD, hk]

set_option maxRecDepth 100000 in
set_option maxHeartbeats 400000 in
theorem users_any (v : Value) (es : List Ent) (w : World) (hv : RdE w v es) (hl : es.length ≤ 100000) :
    Calls Tryz.prog 24 #[v] w fun e w' => ∃ x, e = .returned x ∧ OwnS w' w.heap.size x (usersL es) ∧ Below w.heap.size w w' := by
  have HV := Lib.hid hv
  obtain ⟨va, vc, rfl, hc1, hc2⟩ := hv.form
  unfold maxLen at hc2
  clear hv
  go_enter Tryz.func24, Tryz.ntmps24
  go_wp2
  go_loopw [3, 8] (fun u i wr => ∃ (k : Nat) (u' : Value), k ≤ es.length ∧ u' = u ∧ i = .int .i64 (k : Int) ∧ Hid (OwnS wr w.heap.size u' ((es.take k).map Ent.u)) ∧ Hid (Below w.heap.size w wr)) (fun _ i _ => es.length - (intOf i).toNat)
  case atStart => exact ⟨0, _, Nat.zero_le _, rfl, rfl, Lib.hid (World.ownsRow_nil _ _ _ _), Lib.hid (Below.refl _ _)⟩
  case round =>
    obtain ⟨k, u, hk, rfl, rfl, HU, HB⟩ := hrel
    by_cases hlt : k < es.length
    · obtain ⟨_, _, hva, hone⟩ := HV.out.one
      cases hva
      obtain ⟨b, off, rfl, hbw, c0, c1, c2, c3, _⟩ := hone k hlt
      have z0 := (HB.out.cell (p := ⟨b, off + k * 4, none⟩) hbw).trans c0
      have z1 := (HB.out.cell (p := ⟨b, off + k * 4 + 1, none⟩) hbw).trans c1
      have z2 := (HB.out.cell (p := ⟨b, off + k * 4 + 2, none⟩) hbw).trans c2
      have z3 := (HB.out.cell (p := ⟨b, off + k * 4 + 3, none⟩) hbw).trans c3
      have HNX := Lib.hid (takeU_more es hlt)
      have HLN : Hid (((es.take k).map Ent.u).length = k) := Lib.hid (by rw [List.length_map, List.length_take]; omega)
      generalize es.getD k Ent.none_ = X at *
      obtain ⟨xu, xs, xk, xv⟩ := X
      simp only at z0 z1 z2 z3 HNX
      have hkl : (k : Int) < (es.length : Int) := by omega
      clear c0 c1 c2 c3 hone
      have HOA := Lib.hid (World.ownsRow.alloc HU.out (.cells #[.string xu, .int .i64 xs, .int .i64 xk, .string xv] 39))
      go_wp2_with (at_builtin; refine wpList_append_rd rfl (.tmp 12) (.tmp 16) 63 rfl w.heap.size 9 1 16 (.string ⟨#[]⟩) Tryz.underlying63 info_strT rfl (by decide) _ _ _ 1 _ ([xu].map Value.string) rfl rfl (World.ownsRow.alloc HOA.out _) ?rdA (str_oneT _) ?bbA ?l1A ?l2A ?kkA)
      case rdA =>
        have h := one_strT (wr.alloc (.cells #[.string xu, .int .i64 xs, .int .i64 xk, .string xv] 39)) xu
        rw [World.size_alloc] at h
        exact h
      case bbA =>
        have := HB.out.size
        simp
        omega
      case l1A =>
        have := HLN.out
        omega
      case l2A =>
        have := HLN.out
        unfold maxLen
        omega
      case kkA =>
        intro v' w1 hown' hb'
        go_wp2
        go_roundw
        case rel => exact ⟨k + 1, v', hlt, rfl, by simp, Lib.hid (by unfold OwnS; rw [HNX.out, List.length_append, List.map_append, HLN.out]; simpa using hown'), Lib.hid (hb' _ _ (Nat.le_refl _) ((HB.out.alloc HB.out.size _).alloc (by have := HB.out.size; simp; omega) _))⟩
        case measure => simp [intOf]; omega
    · have hkl : ¬ (k : Int) < (es.length : Int) := by omega
      have HKE : Hid ((es.take k).map Ent.u = es.map Ent.u) := Lib.hid (by rw [List.take_of_length_le (by omega)])
      go_wp2_with (go_at_call 51; (refine (compact_any (es := es) (by rw [← HKE.out]; exact HU.out) hl).mono ?_); rintro e w1 ⟨y, rfl, ho1, hb1⟩)
      go_ret
      exact ⟨y, rfl, ho1, hb1 _ _ (Nat.le_refl _) HB.out⟩
end Go.Proofs.YteeikmpfgbfeoaaGreat

/-
  Functions of package math that the statements of chapter 11 ask.
-/
namespace Go.Proofs.YteeikmpfgbfeoaaGreat
open Go.RowKit Ieee

set_option maxRecDepth 100000 in
theorem run_bits64 (b : Nat) (w : World) : (callFunc 97 #[.float .f64 b]).run Tryz.prog w = .ok (.value (.int .u64 (b : Int))) w := by
  rw [run_callFunc_extern (e := Extern.MathFloatBits.float64bits) Tryz.func97 (by kernel_rfl) (by kernel_rfl) (by kernel_rfl) (by kernel_rfl)]
  rfl
set_option maxRecDepth 100000 in
theorem run_frombits64 (n : Int) (w : World) : (callFunc 107 #[.int .u64 n]).run Tryz.prog w = .ok (.value (.float .f64 n.toNat)) w := by
  rw [run_callFunc_extern (e := Extern.MathFloatBits.float64frombits) Tryz.func107 (by kernel_rfl) (by kernel_rfl) (by kernel_rfl) (by kernel_rfl)]
  rfl

abbrev nanD : Nat := 9221120237041090561
abbrev ninfD : Nat := 18442240474082181120
abbrev nzeroD : Nat := 9223372036854775808

end Go.Proofs.YteeikmpfgbfeoaaGreat

/-
  Chapter 11, what is asked of package filter: as contracts, which the walks take and the program's own texts give.
-/
namespace Go.Proofs.YteeikmpfgbfeoaaGreat
open Go.RowKit Ieee

def ProbesC : Prop := ∀ (b : Nat) (_ : (Lit.float .f64 b).wf = true) (w : World), Calls Tryz.prog 47 #[.float .f64 b] w fun e w' => e = .returned (.int .i64 (probesW b : Int)) ∧ w = w'
def MakeC : Prop := ∀ (v : Value) (l : List ByteArray) (b : Nat) (_ : (Lit.float .f64 b).wf = true) (w : World) (_ : Rd w 1 v l.length (l.map Value.string)) (_ : ∀ s ∈ l, s.size ≤ maxLen) (_ : l.length ≤ 100000),
    Calls Tryz.prog 23 #[v, .float .f64 b] w (RetB w.heap.size w (makeL (hashes l) b))
def MayC : Prop := ∀ (v : Value) (f : List UInt8) (key : ByteArray) (_ : key.size ≤ maxLen) (w : World) (_ : RdB w v f) (_ : f.length ≤ 1000000),
    Calls Tryz.prog 34 #[v, .string key] w fun e w' => e = .returned (.bool (mayL f (hashL key.data.toList))) ∧ Below w.heap.size w w'

theorem word10_eq : wordN 10 = 4621819117588971520 := by decide
theorem probes10 : probesW 4621819117588971520 = 7 := by rw [← word10_eq]; exact probesW_ten
theorem probes_inf : probesW infD = 12 := probesW_most (wordN_le _) (Nat.le_refl _)

theorem order_gt {a b : Nat} (h1 : oneD ≤ a) (h2 : a ≤ infD) (h : (∃ m e, double.read b = .number true m e) ∨ double.read b = .infinity true) : double.order a b = some .gt := by
  unfold Format.order
  by_cases hi : a = infD
  · subst hi
    rw [read_inf]
    rcases h with ⟨m, e, h⟩ | h <;> rw [h] <;> rfl
  · obtain ⟨n, i, hr, hl, hv⟩ := read_rung double (r := a) (by rw [infD_eq]; omega)
    rw [hr]
    have hn : n ≠ 0 := by
      intro h0
      have h3 := rungH_strict double (r := 0) (s := a) (by unfold oneD at h1; omega)
      rw [← hv, h0] at h3
      unfold flV at h3
      rw [Nat.zero_mul] at h3
      omega
    rcases h with ⟨m, e, h⟩ | h
    · rw [h]
      unfold Datum.order
      simp only
      congr 1
      have hpos : 0 < n <<< (i - min i e).toNat := by
        rw [Nat.shiftLeft_eq]; exact Nat.mul_pos (Nat.pos_of_ne_zero hn) (Nat.two_pow_pos _)
      show compareOfLessAndEq (signed false n (i - min i e).toNat) (signed true m (e - min i e).toNat) = .gt
      unfold compareOfLessAndEq signed
      generalize n <<< (i - min i e).toNat = y at *
      generalize m <<< (e - min i e).toNat = x
      simp only [if_true, Bool.false_eq_true, if_false]
      rw [if_neg (by omega), if_neg (by omega)]
    · rw [h]; rfl

/-- Where the one is at most the other, it asks no more. -/
theorem probes_ordered {a b : Nat} (ha : a < 2 ^ 64) (hb : b < 2 ^ 64) (h : double.order a b = some .lt ∨ double.order a b = some .eq) : probesW a ≤ probesW b := by
  rcases probes_ways ha with ⟨_, h1⟩ | ⟨_, _, h1⟩ | ⟨h1, h2, h3⟩
  · omega
  · omega
  · rcases word_ways hb with h4 | h4 | h4 | h4 | h4
    · rw [order_words h2 (by omega), compare_nat] at h
      refine probesW_mono ?_ (by omega)
      by_cases g : a ≤ b
      · exact g
      · rw [if_neg (by omega), if_neg (by omega)] at h
        rcases h with h | h <;> cases h
    · subst h4
      exact probesW_mono h2 (Nat.le_refl _)
    · obtain ⟨s, t, h4⟩ := h4
      have : double.order a b = none := by
        unfold Format.order
        rw [h4]
        cases double.read a <;> rfl
      rw [this] at h
      rcases h with h | h <;> cases h
    · rw [order_gt h1 h2 (.inl h4)] at h
      rcases h with h | h <;> cases h
    · rw [order_gt h1 h2 (.inr h4)] at h
      rcases h with h | h <;> cases h
end Go.Proofs.YteeikmpfgbfeoaaGreat

/-
  What is landed of package filter: how often a filter is asked, for every word.
-/
namespace Go.Proofs.YteeikmpfgbfeoaaGreat
open Go.RowKit Ieee

theorem wrap_word {b : Nat} (hb : b < 2 ^ 64) : IntKind.i64.wrap (b : Int) = if b < nzeroD then (b : Int) else (b : Int) - 18446744073709551616 := by
  unfold nzeroD
  by_cases h : b < 9223372036854775808
  · rw [if_pos h]; exact IntWalk.i64_in _ (by omega)
  · rw [if_neg h]
    rw [show (b : Int) = ((b : Int) - 18446744073709551616) + 18446744073709551616 by omega]
    have e : ∀ x : Int, IntKind.i64.wrap (x + 18446744073709551616) = IntKind.i64.wrap x := by
      intro x
      unfold IntKind.wrap
      simp [IntKind.bits, IntKind.signed]
    rw [e, IntWalk.i64_in _ (by omega)]
    omega

set_option maxRecDepth 100000 in
theorem signbit_any {b : Nat} (hb : b < 2 ^ 64) (w : World) : Calls Tryz.prog 80 #[.float .f64 b] w fun e w' => e = .returned (.bool (decide (nzeroD ≤ b))) ∧ w = w' := by
  have hbt := run_bits64
  have hw := wrap_word hb
  by_cases h : b < nzeroD
  · rw [if_pos h] at hw
    rw [show decide (nzeroD ≤ b) = false by simpa using h]
    obtain ⟨z, hz⟩ : ∃ z, IntKind.i64.wrap (b : Int) = z := ⟨_, rfl⟩
    have hzn : ¬ z < 0 := by omega
    clear hw h hb
    go_enter Tryz.func80, Tryz.ntmps80
    go_wp2
    go_ret
    exact ⟨rfl, rfl⟩
  · rw [if_neg h] at hw
    rw [show decide (nzeroD ≤ b) = true by simpa using h]
    obtain ⟨z, hz⟩ : ∃ z, IntKind.i64.wrap (b : Int) = z := ⟨_, rfl⟩
    have hzn : z < 0 := by omega
    clear hw h hb
    go_enter Tryz.func80, Tryz.ntmps80
    go_wp2
    go_ret
    exact ⟨rfl, rfl⟩

set_option maxRecDepth 100000 in
theorem isInf_one {b : Nat} (h2 : b ≤ infD) (w : World) : Calls Tryz.prog 81 #[.float .f64 b, .int .i64 1] w fun e w' => e = .returned (.bool (b == infD)) ∧ w = w' := by
  have ho : FloatKind.f64.format.order b 9218868437227405311 = some (compare b 9218868437227405311) := order_words h2 (by decide)
  rw [compare_nat] at ho
  by_cases hb : b = infD
  · subst hb
    rw [if_neg (by decide), if_neg (by decide)] at ho
    rw [show (infD == infD) = true from rfl]
    go_enter Tryz.func81, Tryz.ntmps81
    go_wp2
    go_ret
    exact ⟨rfl, rfl⟩
  · have hg : (FloatKind.f64.format.order b 9218868437227405311 == some .gt) = false := by
      rw [ho]
      have : b ≤ 9218868437227405311 := by unfold infD at hb h2; omega
      split
      · rfl
      · rw [if_pos (by omega)]; rfl
    rw [show (b == infD) = false by simpa using hb]
    clear ho hb h2
    go_enter Tryz.func81, Tryz.ntmps81
    go_wp2
    go_ret
    exact ⟨rfl, rfl⟩

set_option maxRecDepth 100000 in
set_option maxHeartbeats 2000000 in
theorem probes_any : ProbesC := by
  intro b hb w
  have hb' : b < 2 ^ 64 := by simpa [Lit.wf] using hb
  rcases probes_ways hb' with ⟨h1, h2⟩ | ⟨h1, h2, h3⟩ | ⟨h1, h2, h3⟩
  · have hn := order_nan h1 b
    rw [h2]
    have HN := Lib.hid (isNaN_any b)
    rw [hn] at HN
    clear h1 h2 hb hb' hn
    go_enter Tryz.func47, Tryz.ntmps47
    go_wp2_with (go_at_call 79; (refine (HN.out _).mono ?_); rintro e w1 ⟨rfl, rfl⟩)
    go_ret
    exact ⟨rfl, rfl⟩
  · have ho : FloatKind.f64.format.order b oneD = some .lt := h2
    have hn := order_self h1
    rw [h3]
    have HN := Lib.hid (isNaN_any b)
    rw [hn] at HN
    have HS := Lib.hid (signbit_any hb')
    clear h1 h2 h3 hb hb' hn
    cases hd : decide (nzeroD ≤ b) with
    | true =>
      rw [hd] at HS
      clear hd
      go_enter Tryz.func47, Tryz.ntmps47
      go_wp2_with (first | (go_at_call 79; (refine (HN.out _).mono ?_); rintro e w1 ⟨rfl, rfl⟩) | (go_at_call 80; (refine (HS.out _).mono ?_); rintro e w1 ⟨rfl, rfl⟩))
      go_ret
      exact ⟨rfl, rfl⟩
    | false =>
      rw [hd] at HS
      clear hd
      go_enter Tryz.func47, Tryz.ntmps47
      go_wp2_with (first | (go_at_call 79; (refine (HN.out _).mono ?_); rintro e w1 ⟨rfl, rfl⟩) | (go_at_call 80; (refine (HS.out _).mono ?_); rintro e w1 ⟨rfl, rfl⟩))
      go_ret
      exact ⟨rfl, rfl⟩
  · have hn := order_self h3
    have HN := Lib.hid (isNaN_any b)
    rw [hn] at HN
    have HS := Lib.hid (signbit_any hb')
    rw [show decide (nzeroD ≤ b) = false by simp; unfold nzeroD; unfold infD at h2; omega] at HS
    have HI := Lib.hid (isInf_one h2)
    have ho : (FloatKind.f64.format.order b oneD == some .lt) = false := by
      have : FloatKind.f64.format.order b oneD = some (compare b oneD) := order_words h2 (by decide)
      rw [this]
      have : compare b oneD ≠ .lt := by
        show compareOfLessAndEq b oneD ≠ .lt
        unfold compareOfLessAndEq
        rw [if_neg (by omega)]
        split <;> decide
      simpa using this
    by_cases hbi : b = infD
    · rw [show (b == infD) = true by simpa using hbi] at HI
      rw [show probesW b = 12 by rw [hbi]; exact probes_inf]
      clear hbi h1 h2 h3 hb hb' hn
      go_enter Tryz.func47, Tryz.ntmps47
      go_wp2_with (first | (go_at_call 79; (refine (HN.out _).mono ?_); rintro e w1 ⟨rfl, rfl⟩) | (go_at_call 80; (refine (HS.out _).mono ?_); rintro e w1 ⟨rfl, rfl⟩) | (go_at_call 81; (refine (HI.out _).mono ?_); rintro e w1 ⟨rfl, rfl⟩))
      go_ret
      exact ⟨rfl, rfl⟩
    · rw [show (b == infD) = false by simpa using hbi] at HI
      obtain ⟨r, hr, hrn, hrw⟩ := seven_times h1 h2
      have hmul : ∀ (t : TypeId) (w : World), (binOp .mul t (.float .f64 sevenD) (.float .f64 b)).run Tryz.prog w = .ok (.float .f64 r) w := fun t w => run_float_arith w .mul t .f64 sevenD b r hr
      have HF := Lib.hid (floor_any hrn)
      have e12 : wordN 12 = 4622945017495814144 := by decide
      have e1 : wordN 1 = oneD := by decide
      obtain ⟨W, hW⟩ : ∃ W, W = double.write ((double.read r).integral .down) := ⟨_, rfl⟩
      have hfin : W ≤ infD ∧ min (max W (wordN 1)) (wordN 12) = wordN (probesW b) ∧ probesW b ≤ 12 := by
        rcases hrw with ⟨g1, g2⟩ | ⟨k, g1, g2⟩
        · rw [hW, g1, g2, Nat.max_eq_left (wordN_le 1), Nat.min_eq_right (wordN_le 12)]
          exact ⟨Nat.le_refl _, rfl, by omega⟩
        · rw [hW, g1, g2, max_wordN, min_wordN]
          exact ⟨wordN_le k, by congr 1; omega, by omega⟩
      rw [← hW] at HF
      have hmax := fun ts t w => run_max_words (P := Tryz.prog) hfin.1 (wordN_le 1) ts t w
      have hmin := fun ts t w => run_min_words (P := Tryz.prog) (show max W (wordN 1) ≤ infD from Nat.max_le.2 ⟨hfin.1, wordN_le 1⟩) (wordN_le 12) ts t w
      have hcv := fun w => run_convert_float_int (P := Tryz.prog) w 23 3 .f64 .i64 (wordN (probesW b)) _ (by kernel_rfl) Tryz.underlying3 (toInt_wordN (by have := hfin.2.2; omega))
      rw [hfin.2.1] at hmin
      rw [e12] at hmin
      rw [e1] at hmax hmin
      generalize wordN (probesW b) = m2 at *
      generalize max W oneD = m1 at *
      clear hb hb' hn hr hrn hrw hW hfin e12 e1 hbi h1 h2 h3
      go_enter Tryz.func47, Tryz.ntmps47
      go_wp2_with (first | (go_at_call 79; (refine (HN.out _).mono ?_); rintro e w1 ⟨rfl, rfl⟩) | (go_at_call 80; (refine (HS.out _).mono ?_); rintro e w1 ⟨rfl, rfl⟩) | (go_at_call 81; (refine (HI.out _).mono ?_); rintro e w1 ⟨rfl, rfl⟩) | (go_at_call 62; (refine (HF.out _).mono ?_); rintro e w1 ⟨rfl, rfl⟩))
      go_ret
      exact ⟨rfl, rfl⟩
end Go.Proofs.YteeikmpfgbfeoaaGreat

/-
  What is landed of package filter: the way of a key through the bits; how many bytes there are.
-/
namespace Go.Proofs.YteeikmpfgbfeoaaGreat
open Go.RowKit Ieee

theorem or_comm_u32 (a b : Int) : bits .or .u32 a b = bits .or .u32 b a := by
  show IntKind.u32.wrap ((BitVec.ofInt 32 a ||| BitVec.ofInt 32 b).toNat : Int) = IntKind.u32.wrap ((BitVec.ofInt 32 b ||| BitVec.ofInt 32 a).toNat : Int)
  rw [BitVec.or_comm]

set_option maxRecDepth 100000 in
theorem rotate_any {h : Nat} (hh : h < 4294967296) (w : World) : Calls Tryz.prog 83 #[.int .u32 (h : Int), .int .i64 (-17)] w fun e w' => e = .returned (.int .u32 ((rot17 h : Nat) : Int)) ∧ w = w' := by
  have hr := (or_comm_u32 _ _).trans (rot17_bits hh)
  have h31 : bits .and .u64 (IntKind.u64.wrap (-17)) 31 = 15 := by decide
  clear hh
  go_enter Tryz.func83, Tryz.ntmps83
  go_wp2
  go_ret
  exact ⟨rfl, rfl⟩

/-- A way: where it begins, and its step. -/
def wayV (h : Nat) : Value := .agg #[.int .u32 (h : Int), .int .u32 ((rot17 h : Nat) : Int)]

set_option maxRecDepth 100000 in
theorem walkOf_any (key : ByteArray) (hk : key.size ≤ maxLen) (w : World) : Calls Tryz.prog 49 #[.string key] w fun e w' => e = .returned (wayV (hashL key.data.toList)) ∧ Below w.heap.size w w' := by
  have HH := Lib.hid (hash_any key hk)
  have hh := hashL_lt key.data.toList
  generalize hashL key.data.toList = h at *
  have hhm : IntKind.u32.wrap (h : Int) = (h : Int) := by rw [IntKind.wrap_u32']; omega
  have HR := Lib.hid (rotate_any hh)
  clear hh
  unfold wayV
  go_enter Tryz.func49, Tryz.ntmps49
  go_wp2_with (first | (go_at_call 82; (refine (HH.out _).mono ?_); rintro e w1 ⟨rfl, rfl⟩) | (go_at_call 83; (refine (HR.out _).mono ?_); rintro e w1 ⟨rfl, rfl⟩))
  refine bodyPost_ret (results_cell_row rfl _ _ w.heap.size 95 #[.int .u32 (h : Int), .int .u32 ((rot17 h : Nat) : Int)] (0, 0) _ rfl ?hg Tryz.underlying95 rfl (by kernel_rfl)) rfl ?_
  case hg => exact heap_alloc_new w _
  exact ⟨rfl, (Below.refl _ _).alloc (Nat.le_refl _) _⟩

theorem two_u8 (x : Nat) : IntKind.u8.wrap ((2 : Int) ^ ((x : Int) % 8).toNat) = 2 ^ (x % 8) := by
  rw [show ((x : Int) % 8).toNat = x % 8 by omega]
  have h : x % 8 < 8 := Nat.mod_lt _ (by omega)
  generalize x % 8 = t at *
  rw [IntKind.wrap_u8]
  have : ∀ t : Fin 8, ((2 : Int) ^ t.val) % 256 = 2 ^ t.val := by decide
  exact this ⟨t, h⟩

set_option maxRecDepth 100000 in
theorem spot_any {h m j : Nat} (hh : h < 4294967296) (hj : j ≤ 12) (hm1 : 0 < m) (hm2 : m ≤ 10000000) (w : World) : Calls Tryz.prog 50 #[wayV h, .int .i64 (j : Int), .int .i64 (m : Int)] w fun e w' => e = .returned (.tuple #[.int .i64 ((bitX h m j / 8 : Nat) : Int), .int .u8 ((2 ^ (bitX h m j % 8) : Nat) : Int)]) ∧ Below w.heap.size w w' := by
  have hx := bitX_int h m j
  have hxl := bitX_lt (h := h) (m := m) (j := j) (by omega)
  have hrl := rot17_lt hh
  unfold wayV
  generalize rot17 h = d at *
  generalize bitX h m j = x at *
  go_enter Tryz.func50, Tryz.ntmps50
  go_wp2
  refine wp_region_plan [(true, 0), (true, 1), (true, 2), (true, 3), (true, 4), (true, 5), (true, 6)] (by kernel_rfl) (by kernel_rfl) (by kernel_rfl) (by kernel_rfl) (by kernel_rfl) ?_
  simp only [planO, List.drop_succ_cons, List.drop_zero]
  refine PlanO.take (v := ?v0) (by kernel_rfl) ?y0 ?r0
  case y0 => (intro wz hz; go_simp; try with_reducible rfl)
  (try simp only [Act.put, List.setIfInBounds_toArray, List.set_cons_zero, List.set_cons_succ])
  refine PlanO.take (v := .int .i64 ((x / 8 : Nat) : Int)) (by kernel_rfl) ?y1 ?r1
  case y1 => (intro wz hz; go_simp; exact IntWalk.i64_in _ (by omega))
  (try simp only [Act.put, List.setIfInBounds_toArray, List.set_cons_zero, List.set_cons_succ])
  refine PlanO.take (v := ?v2) (by kernel_rfl) ?y2 ?r2
  case y2 => (intro wz hz; go_simp; try with_reducible rfl)
  (try simp only [Act.put, List.setIfInBounds_toArray, List.set_cons_zero, List.set_cons_succ])
  refine PlanO.take (v := .int .i64 ((x % 8 : Nat) : Int)) (by kernel_rfl) ?y3 ?r3
  case y3 => (intro wz hz; go_simp; exact Int.tmod_eq_emod_of_nonneg (by omega))
  (try simp only [Act.put, List.setIfInBounds_toArray, List.set_cons_zero, List.set_cons_succ])
  refine PlanO.take (v := .int .u8 ((2 ^ (x % 8) : Nat) : Int)) (by kernel_rfl) ?y4 ?r4
  case y4 => (intro wz hz; go_simp; exact two_u8 x)
  (try simp only [Act.put, List.setIfInBounds_toArray, List.set_cons_zero, List.set_cons_succ])
  refine PlanO.take (v := ?v5) (by kernel_rfl) ?y5 ?r5
  case y5 => (intro wz hz; go_simp; try with_reducible rfl)
  (try simp only [Act.put, List.setIfInBounds_toArray, List.set_cons_zero, List.set_cons_succ])
  refine PlanO.take (v := ?v6) (by kernel_rfl) ?y6 ?r6
  case y6 => (intro wz hz; go_simp; try with_reducible rfl)
  (try simp only [Act.put, List.setIfInBounds_toArray, List.set_cons_zero, List.set_cons_succ])
  refine PlanO.done (NoPanic.normal ?_)
  go_wp2
  go_ret2
  exact ⟨by simp, ((Below.refl _ _).alloc (Nat.le_refl _) _).drew⟩
end Go.Proofs.YteeikmpfgbfeoaaGreat

/-
  What is landed of package filter: what bytes say of a key.
-/
namespace Go.Proofs.YteeikmpfgbfeoaaGreat
open Go.RowKit Ieee

theorem and_pow_u8 (a t : Nat) (ha : a < 256) (ht : t < 8) : bits .and .u8 (a : Int) ((2 ^ t : Nat) : Int) = ((a / 2 ^ t % 2 * 2 ^ t : Nat) : Int) := by
  have hp : 2 ^ t < 256 := Nat.lt_of_lt_of_le (Nat.pow_lt_pow_right (by omega) ht) (by decide)
  have o : ∀ c : Nat, c < 256 → (BitVec.ofInt 8 (c : Int)).toNat = c := by
    intro c hc
    rw [BitVec.ofInt_natCast, BitVec.toNat_ofNat]
    exact Nat.mod_eq_of_lt (by omega)
  show IntKind.u8.wrap ((BitVec.ofInt 8 (a : Int) &&& BitVec.ofInt 8 ((2 ^ t : Nat) : Int)).toNat : Int) = _
  rw [BitVec.toNat_and, o a ha, o _ hp]
  have e : a &&& 2 ^ t = a / 2 ^ t % 2 * 2 ^ t := by
    apply Nat.eq_of_testBit_eq
    intro i
    rw [Nat.testBit_and, Nat.testBit_two_pow]
    have e2 : a.testBit t = decide (a / 2 ^ t % 2 = 1) := Nat.testBit_eq_decide_div_mod_eq
    by_cases hi : t = i
    · subst hi
      rw [e2]
      rcases Nat.mod_two_eq_zero_or_one (a / 2 ^ t) with h | h <;> rw [h] <;> simp
    · rcases Nat.mod_two_eq_zero_or_one (a / 2 ^ t) with h | h <;> rw [h] <;> simp [hi]
  rw [e, IntKind.wrap_u8]
  rcases Nat.mod_two_eq_zero_or_one (a / 2 ^ t) with h | h <;> rw [h]
  · rw [Nat.zero_mul]; rfl
  · rw [Nat.one_mul]
    generalize 2 ^ t = p at *
    omega

set_option maxRecDepth 100000 in
set_option maxHeartbeats 4000000 in
theorem fmay_any : MayC := by
  intro v f key hk w hv hl
  have HV := Lib.hid hv
  obtain ⟨a, cap, rfl, h1, h2, h0, h3⟩ := hv
  have hh := hashL_lt key.data.toList
  have HW := Lib.hid (walkOf_any key hk)
  generalize hashL key.data.toList = h at *
  have HSP := Lib.hid (fun (j m : Nat) (h1 : j ≤ 12) (h2 : 0 < m) (h3 : m ≤ 10000000) => spot_any (h := h) (m := m) (j := j) hh h1 h2 h3)
  unfold wayV at HSP HW
  obtain ⟨d, hd⟩ : ∃ d, rot17 h = d := ⟨_, rfl⟩
  rw [hd] at HSP HW
  clear hd
  unfold maxLen at *
  by_cases g1 : f.length < 2
  · have HR := Lib.hid (show mayL f h = true by unfold mayL; rw [if_pos g1])
    have hw1 : IntKind.i64.wrap ((f.length : Int) - 1) = (f.length : Int) - 1 := IntWalk.i64_in _ (by omega)
    have hw2 : (f.length : Int) - 1 < 1 := by omega
    clear h3 h0
    go_enter Tryz.func34, Tryz.ntmps34
    go_wp2
    go_step3
    go_wp2
    rw [Exit.noGoto_ret]
    go_ret
    exact ⟨mayret HR.out.symm, Below.refl _ _⟩
  · rcases h3 with ⟨h3, _⟩ | ⟨b, off, rfl, h4, h5⟩
    · omega
    · obtain ⟨m, hm⟩ : ∃ m, f.length = m + 1 := ⟨f.length - 1, by omega⟩
      have hbytes : ∀ i, i < m + 1 → w.cell? ⟨b, off + i, none⟩ = some (.int .u8 ((f.getD i 0).toNat : Int)) := fun i hi => by
        refine h5 i _ ?_
        rw [List.getElem?_map, List.getElem?_eq_getElem (by omega)]
        simp [List.getD, show i < f.length by omega, bv]
      have HBY := Lib.hid hbytes
      clear hbytes
      have hgf := getFixed_yes (.slice (some ⟨b, off, none⟩) f.length cap) f m 1 (by omega) (by omega) w HV.out
      have hval : valL ((f.drop m).take 1) = ((f.getD m 0).toNat : Int) := by
        rw [List.drop_eq_getElem_cons (by omega), List.take_succ_cons, List.take_zero]
        simp [valL, List.getD, show m < f.length by omega]
      rw [hval] at hgf
      have HGF := Lib.hid hgf
      have hnb := byte_le (f.getD m 0)
      have HML := Lib.hid (show mayL f h = if (f.getD m 0).toNat = 0 ∨ 12 < (f.getD m 0).toNat then true else (List.range (f.getD m 0).toNat).all fun j => hasBit f (bitX h m j) by
        unfold mayL
        rw [if_neg g1, hm, Nat.add_sub_cancel])
      clear hgf hval
      generalize (f.getD m 0).toNat = n at *
      rw [hm] at g1 h1 hl HGF ⊢
      clear h5 h0 hm
      have e1 : ((m + 1 : Nat) : Int) = (m : Int) + 1 := by omega
      have d1 : IntKind.i64.wrap ((m : Int) + 1 - 1) = (m : Int) := by rw [IntWalk.i64_in _ (by omega)]; omega
      have g1' : ¬ (m : Int) < 1 := by omega
      have hm1 : 0 < m := by omega
      by_cases g2 : n = 0
      · have HR := Lib.hid (show mayL f h = true by rw [HML.out, if_pos (.inl g2)])
        have g3 : (n : Int) = 0 := by omega
        clear HML
        subst g2
        go_enter Tryz.func34, Tryz.ntmps34
        go_wp2
        go_step3
        go_wp2_with (go_at_call 64; (refine HGF.out.mono ?_); rintro e w1 ⟨rfl, rfl⟩)
        rw [Exit.noGoto_ret]
        go_ret
        exact ⟨mayret HR.out.symm, Below.refl _ _⟩
      · have g3 : ¬ (n : Int) = 0 := by omega
        by_cases g4 : 12 < n
        · have HR := Lib.hid (show mayL f h = true by rw [HML.out, if_pos (.inr g4)])
          have g5 : 12 < (n : Int) := by omega
          clear HML
          go_enter Tryz.func34, Tryz.ntmps34
          go_wp2
          go_step3
          go_wp2_with (go_at_call 64; (refine HGF.out.mono ?_); rintro e w1 ⟨rfl, rfl⟩)
          rw [Exit.noGoto_ret]
          go_ret
          exact ⟨mayret HR.out.symm, Below.refl _ _⟩
        · have g4' : (n : Int) ≤ 12 := by omega
          have g6 : ¬ 12 < (n : Int) := by omega
          have f1 : ((n : Int) == 0) = false := by simpa using g3
          have f2 : decide ((12 : Int) < (n : Int)) = false := by simpa using g6
          clear g4
          have HR := Lib.hid (show mayL f h = (List.range n).all fun j => hasBit f (bitX h m j) by rw [HML.out, if_neg (by omega)])
          clear HML
          go_enter Tryz.func34, Tryz.ntmps34
          go_wp2
          go_step3
          go_wp2_with (first | (go_at_call 64; (refine HGF.out.mono ?_); rintro e w1 ⟨rfl, rfl⟩) | (go_at_call 49; (refine (HW.out _).mono ?_); rintro e w1 ⟨rfl, hbw⟩))
          obtain ⟨wB, hwB⟩ : ∃ wB, wB = w1.alloc (Obj.cells #[Value.int IntKind.u32 (h : Int), Value.int IntKind.u32 (d : Int)] 95) := ⟨_, rfl⟩
          have hEB : Below w.heap.size w wB := by
            rw [hwB]
            exact hbw.alloc hbw.size _
          have hbox : wB.heap[w1.heap.size]? = some (.cells #[.int .u32 (h : Int), .int .u32 (d : Int)] 95) := by
            rw [hwB]
            exact heap_alloc_new w1 _
          rw [← hwB]
          have hpB := blk_lt hbox
          have hB0 := hEB.size
          generalize w1.heap.size = p at *
          have HEB := Lib.hid hEB
          have HBOX := Lib.hid hbox
          clear hwB hEB hbox hbw w1
          go_step3
          go_wp2
          go_loopw [9, 33] (fun a i wr => ∃ j : Nat, j ≤ n ∧ a = .bool true ∧ i = .int .i64 (j : Int) ∧ Hid (∀ i, i < j → hasBit f (bitX h m i) = true) ∧ Hid (Below wB.heap.size wB wr)) (fun _ i _ => n - (intOf i).toNat)
          case atStart => exact ⟨0, Nat.zero_le _, rfl, rfl, Lib.hid (fun i hi => by omega), Lib.hid (Below.refl _ _)⟩
          case round =>
            obtain ⟨j, hj, rfl, rfl, HJ, HB⟩ := hrel
            by_cases hjn : j < n
            · have HW := Lib.hid (HEB.out.trans (HB.out.mono hB0))
              have hb0 := blk_cell (i := 0) ((HB.out.block p hpB).trans HBOX.out)
              have hb1 := blk_cell (i := 1) ((HB.out.block p hpB).trans HBOX.out)
              replace hb0 : wr.cell? ⟨p, 0, none⟩ = some (.int .u32 (h : Int)) := hb0
              replace hb1 : wr.cell? ⟨p, 1, none⟩ = some (.int .u32 (d : Int)) := hb1
              have hxl := bitX_lt (h := h) (m := m) (j := j) (by omega)
              have hsp := HSP.out j m (by omega) hm1 (by omega) wr
              obtain ⟨x, hxe⟩ : ∃ x, bitX h m j = x := ⟨_, rfl⟩
              have HXE := Lib.hid hxe
              rw [hxe] at hxl hsp
              clear hxe
              obtain ⟨q, hq⟩ : ∃ q, x / 8 = q := ⟨_, rfl⟩
              obtain ⟨t, ht⟩ : ∃ t, x % 8 = t := ⟨_, rfl⟩
              rw [hq, ht] at hsp
              have q3 : (q : Int) < (m : Int) + 1 := by omega
              have t3 : t < 8 := by omega
              have HCQ := Lib.hid (fun w2 (h2 : Below w.heap.size w w2) => (h2.cell (p := ⟨b, off + q, none⟩) h4).trans (HBY.out q (by omega)))
              have hcb := byte_le (f.getD q 0)
              have HHB := Lib.hid (show hasBit f x = ((f.getD q 0).toNat / 2 ^ t % 2 == 1) by unfold hasBit; rw [hq, ht])
              generalize (f.getD q 0).toNat = c at *
              have hand := and_pow_u8 c t (by omega) t3
              have hp2 : 0 < 2 ^ t := Nat.two_pow_pos t
              generalize 2 ^ t = P at *
              generalize hBi : (P : Int) = Bi at *
              have HSP2 := Lib.hid hsp
              clear hsp hq ht hBi
              generalize c / P = z at *
              by_cases hz : z % 2 = 1
              · have hb : (bits .and .u8 (c : Int) Bi == 0) = false := by
                  rw [hand, hz, Nat.one_mul]
                  have : ((P : Nat) : Int) ≠ 0 := by omega
                  simpa using this
                have HBt := Lib.hid (show hasBit f (bitX h m j) = true by rw [HXE.out, HHB.out, hz]; rfl)
                clear hand
                go_wp2_with (go_at_call 50; (refine HSP2.out.mono ?_); rintro e w2 ⟨rfl, hb2⟩; have hc2 := HCQ.out w2 (HW.out.trans (hb2.mono HW.out.size)))
                refine ⟨⟨j + 1, hjn, rfl, by go_num, Lib.hid fun i hi => ?_, Lib.hid (HB.out.trans (hb2.mono HB.out.size))⟩, by simp [intOf]; omega⟩
                rcases Nat.lt_or_ge i j with h1 | h1
                · exact HJ.out i h1
                · rw [show i = j by omega]; exact HBt.out
              · have hz0 : z % 2 = 0 := by omega
                have hb : (bits .and .u8 (c : Int) Bi == 0) = true := by
                  rw [hand, hz0, Nat.zero_mul]
                  rfl
                have HBt := Lib.hid (show hasBit f (bitX h m j) = false by rw [HXE.out, HHB.out, hz0]; rfl)
                clear hand
                go_wp2_with (go_at_call 50; (refine HSP2.out.mono ?_); rintro e w2 ⟨rfl, hb2⟩; have hc2 := HCQ.out w2 (HW.out.trans (hb2.mono HW.out.size)))
                rw [Exit.noGoto_ret]
                go_ret
                exact ⟨mayret (by rw [HR.out, may_no hjn HBt.out]), HW.out.trans (hb2.mono HW.out.size)⟩
            · have hje : j = n := by omega
              have HALL := Lib.hid (show mayL f h = true by rw [HR.out]; exact may_yes fun i hi => HJ.out i (by omega))
              clear hje
              go_wp2
              rw [Exit.noGoto_ret]
              go_ret
              exact ⟨mayret HALL.out.symm, HEB.out.trans (HB.out.mono hB0)⟩
end Go.Proofs.YteeikmpfgbfeoaaGreat

/-
  What is landed of package filter: a filter's bytes.
-/
namespace Go.Proofs.YteeikmpfgbfeoaaGreat
open Go.RowKit Ieee

/-- 'make([]byte, n, c)'. -/
theorem wpList_make_cap {P : Program} {w : World} {ops : Array Oper} {rest : List Oper} {o : Oper} {a : Act} {Q : Exit → Act → World → Prop}
    (hg : o.guard = none) (x y : Operand) (t : TypeId) (hop : o.op = Op.makeSlice t x y)
    (e : Nat) (h1 : P.underlying t = some (.slice e)) (h2 : (P.info? e).map (fun i => (i.zero, i.size, i.bytes)) = some (some (.int .u8 0), 1, 1))
    (kl kc : IntKind) (n c : Nat) (hl : a.eval x = .int kl (n : Int)) (hc : a.eval y = .int kc (c : Int)) (hnc : n ≤ c) (hn : c ≤ 281474976710656)
    (hK : ∀ w', OwnB w' w.heap.size e (.slice (some ⟨w.heap.size, 0, none⟩) n c) (List.replicate n 0) → Below w.heap.size w w' → wpList P ops Q rest (a.put o.dst (.slice (some ⟨w.heap.size, 0, none⟩) n c)) w') :
    wpList P ops Q (o :: rest) a w := by
  obtain ⟨i0, hi, hz0, hz1, hz2⟩ := info_parts h2
  refine wpList_plain hg fun K hK' => ?_
  have hr := run_make (P := P) w t e i0 (.int .u8 0) h1 hi hz0 kl kc n c (by omega) (by omega) (by rw [hz2]; omega) (by omega)
  simp only [Int.toNat_natCast, hz1] at hr
  unfold Oper.wp
  simp [execOp, hop, hl, hc, hr, Result.andThen]
  refine hK' _ _ (hK _ ?_ ((Below.refl _ _).alloc (Nat.le_refl _) _))
  unfold OwnB
  rw [List.length_replicate]
  refine ⟨by simp, .inr ⟨w.heap.size, c, madeCells (Value.int .u8 0).cells c, rfl, Nat.le_refl _, heap_alloc_new w _, hnc, by unfold maxLen; omega, by rw [Nat.mul_one]; exact size_madeCells _ _, ?_⟩⟩
  rw [← Nat.mul_one c, madeZeros, ← List.map_take, List.take_replicate, Nat.mul_one, Nat.min_eq_left hnc]

theorem setBit_end {A : List UInt8} {x : Nat} (c : UInt8) (h : x / 8 < A.length) : setBit (A ++ [c]) x = setBit A x ++ [c] := by
  unfold setBit
  rw [List.set_append_left _ _ h]
  congr 2
  simp [List.getD, List.getElem?_append_left h]
theorem putBits_end {A : List UInt8} {M : Nat} (c : UInt8) (h : Nat) (hM : 0 < M) (hA : A.length = M) : ∀ n, putBits (A ++ [c]) h M n = putBits A h M n ++ [c]
  | 0 => rfl
  | n + 1 => by
    rw [putBits_succ, putBits_succ, putBits_end c h hM hA n, setBit_end]
    rw [putBits_len, hA]
    have := bitX_lt (h := h) (m := M) (j := n) hM
    omega
theorem putKeys_end {M : Nat} (c : UInt8) (n : Nat) (hM : 0 < M) : ∀ (hs : List Nat) (A : List UInt8), A.length = M → putKeys (A ++ [c]) hs M n = putKeys A hs M n ++ [c]
  | [], _, _ => rfl
  | h :: r, A, hA => by
    show putKeys (putBits (A ++ [c]) h M n) r M n = putKeys (putBits A h M n) r M n ++ [c]
    rw [putBits_end c h hM hA, putKeys_end c n hM r _ (by rw [putBits_len, hA])]

set_option maxRecDepth 100000 in
set_option maxHeartbeats 4000000 in
theorem room_any {b n : Nat} (p2 : b ≤ infD) (hl : n ≤ 100000) (w : World) : Calls Tryz.prog 48 #[.int .i64 (n : Int), .float .f64 b] w fun e w' => e = .returned (.int .i64 (bytesM b n : Int)) ∧ w = w' := by
  obtain ⟨r1, r2, r3, r4⟩ := raw_facts p2 hl
  have hmin := fun ts t w => run_min_words (P := Tryz.prog) p2 (show w64D ≤ infD by decide) ts t w
  have hmul : ∀ (t : TypeId) (w : World), (binOp .mul t (.float .f64 (min b w64D)) (.float .f64 (wordN n))).run Tryz.prog w = .ok (.float .f64 (mulR (min b w64D) (wordN n))) w := fun t w => run_float_arith w .mul t .f64 _ _ _ r2
  have HF := Lib.hid (floor_words r3)
  have hcv := fun w => run_convert_float_int (P := Tryz.prog) w 23 3 .f64 .i64 (wordN (rawM b n)) _ (by kernel_rfl) Tryz.underlying3 (toInt_wordN (show rawM b n < 9007199254740992 by omega))
  have hcf := float_nat n
  have hM : bytesM b n = (max 64 (rawM b n) + 7) / 8 := rfl
  rw [show wholeD (mulR (min b w64D) (wordN n)) = rawM b n from rfl] at HF
  generalize mulR (min b w64D) (wordN n) = r at *
  generalize min b w64D = a at *
  generalize wordN n = nw at *
  generalize rawM b n = raw at *
  generalize wordN raw = rw' at *
  generalize bytesM b n = M at *
  clear p2 r1 r2 r3
  obtain ⟨mx, hmx⟩ : ∃ mx, max 64 raw = mx := ⟨_, rfl⟩
  rw [hmx] at hM
  have hmax : ∀ (ts : Array TypeId) (t : TypeId) (w : World), (Builtin.max_ ts t #[.int .i64 (raw : Int), .int .i64 64]).run Tryz.prog w = .ok (.int .i64 (mx : Int)) w := by
    intro ts t w
    have hm : mx = if raw < 64 then 64 else raw := by split <;> omega
    rw [hm]
    by_cases h : raw < 64
    · have h' : (raw : Int) < 64 := by omega
      simp [Builtin.max_, Builtin.max2, h, h']
    · have h' : ¬ (raw : Int) < 64 := by omega
      simp [Builtin.max_, Builtin.max2, h, h']
  have e1 : IntKind.i64.wrap ((mx : Int) + 7) = (mx : Int) + 7 := IntWalk.i64_in _ (by omega)
  have e2 : ((mx : Int) + 7).tdiv 8 = (M : Int) := by rw [Int.tdiv_eq_ediv_of_nonneg (by omega)]; omega
  have e2' : ((mx : Int) + 7) / 8 = (M : Int) := by omega
  have e3 : IntKind.i64.wrap (M : Int) = (M : Int) := IntWalk.i64_in _ (by omega)
  clear hM
  go_enter Tryz.func48, Tryz.ntmps48
  go_wp2_with (go_at_call 62; (refine (HF.out _).mono ?_); rintro e w1 ⟨rfl, rfl⟩)
  go_ret
  exact ⟨rfl, rfl⟩

set_option maxRecDepth 100000 in
set_option maxHeartbeats 8000000 in
theorem make_any : MakeC := by
  intro v l b hb w hv hs hl
  have HP := Lib.hid (probes_any b hb w)
  obtain ⟨va, vc, rfl, hc1, hc2⟩ : ∃ a c, v = .slice a l.length c ∧ l.length ≤ c ∧ c ≤ maxLen := by obtain ⟨a, c, h, h1, h2, _⟩ := hv; exact ⟨a, c, h, h1, h2⟩
  by_cases h0 : probesW b = 0
  · have HR := Lib.hid (show makeL (hashes l) b = [] by unfold makeL; rw [if_pos h0])
    rw [h0] at HP
    clear h0 hv
    go_enter Tryz.func23, Tryz.ntmps23
    go_wp2_with (go_at_call 47; (refine HP.out.mono ?_); rintro e w1 ⟨rfl, rfl⟩)
    go_ret
    exact ⟨_, rfl, by rw [HR.out]; exact World.ownsRow_nil _ _ _ _, Below.refl _ _⟩
  · obtain ⟨p1, p2⟩ := probesW_pos h0
    have p3 := probesW_le b
    have hM8 : 8 ≤ bytesM b l.length := by unfold bytesM; omega
    have hMl : bytesM b l.length ≤ 1000000 := by
      obtain ⟨_, _, _, r4⟩ := raw_facts p2 hl
      unfold bytesM
      omega
    have hmk : makeL (hashes l) b = putKeys (List.replicate (bytesM b l.length) 0) (hashes l) (bytesM b l.length) (probesW b) ++ [UInt8.ofNat (probesW b)] := by
      unfold makeL
      rw [if_neg h0, show (hashes l).length = l.length by unfold hashes; rw [List.length_map], putKeys_end _ _ (by omega) _ _ (by simp)]
    have HMK := Lib.hid hmk
    have HRM := Lib.hid (room_any (b := b) p2 hl w)
    have HFX := Lib.hid (fixed_yes (probesW b : Int) 1 (by omega))
    have hfx : fixL (probesW b : Int) 1 = [UInt8.ofNat (probesW b)] := by
      show [UInt8.ofNat ((probesW b : Int) / 256 ^ 0 % 256).toNat] = _
      have h : ((probesW b : Int) / 256 ^ 0 % 256).toNat = probesW b := by
        simp only [Int.pow_zero, Int.ediv_one]
        omega
      rw [h]
    rw [hfx] at HFX
    generalize bytesM b l.length = M at *
    generalize probesW b = n at *
    have hn0 : ((n : Int) == 0) = false := by simpa using h0
    have hn1 : ¬ (n : Int) = 0 := by omega
    clear hmk hb p1 p2 hfx
    have e5 : IntKind.i64.wrap ((M : Int) + 1) = ((M + 1 : Nat) : Int) := by rw [IntWalk.i64_in _ (by omega)]; omega
    go_enter Tryz.func23, Tryz.ntmps23
    go_wp2_with (first | (go_at_call 47; (refine HP.out.mono ?_); rintro e w1 ⟨rfl, rfl⟩) | (go_at_call 48; (refine HRM.out.mono ?_); rintro e w1 ⟨rfl, rfl⟩) | (at_make; refine wpList_make_cap rfl _ _ 24 rfl 5 Tryz.underlying24 info_u8 _ _ M (M + 1) rfl rfl ?hnc ?hn ?kk))
    case hnc => omega
    case hn => omega
    case kk =>
      intro w1 ho1 hb1
      have HO1 := Lib.hid ho1
      have HB1 := Lib.hid hb1
      clear ho1 hb1
      obtain ⟨F0, hF0⟩ : ∃ F0, F0 = List.replicate M (0 : UInt8) := ⟨_, rfl⟩
      have hF0l : F0.length = M := by rw [hF0]; simp
      rw [← hF0] at HO1 HMK
      have HFL := Lib.hid hF0l
      have HHL := Lib.hid (show (hashes l).length = l.length by unfold hashes; rw [List.length_map])
      have HV := Lib.hid (show Rd w 1 (.slice va l.length vc) l.length (l.map Value.string) from hv)
      have HSZ := Lib.hid hs
      clear hF0 hF0l hv hs
      go_wp2
      go_loopw [28] (fun i wr => ∃ k : Nat, k ≤ l.length ∧ i = .int .i64 (k : Int) ∧ Hid (OwnB wr w.heap.size 5 (.slice (some ⟨w.heap.size, 0, none⟩) M (M + 1)) (putKeys F0 ((hashes l).take k) M n)) ∧ Hid (Below w.heap.size w wr)) (fun i _ => l.length - (intOf i).toNat)
      case atStart => exact ⟨0, Nat.zero_le _, rfl, HO1, HB1⟩
      case round =>
        obtain ⟨k, hk, rfl, HO, HB⟩ := hrel
        by_cases hlt : k < l.length
        · obtain ⟨sb, so, rfl, hsb, hsc⟩ := rd_str HV.out hlt
          have hsc' := (HB.out.cell (p := ⟨sb, so + k, none⟩) hsb).trans hsc
          have hsz : (l.getD k ⟨#[]⟩).size ≤ maxLen := HSZ.out _ (by simp only [List.getD, List.getElem?_eq_getElem hlt, Option.getD_some]; exact List.getElem_mem hlt)
          have HW := Lib.hid (walkOf_any (l.getD k ⟨#[]⟩) hsz)
          have hh := hashL_lt (l.getD k ⟨#[]⟩).data.toList
          have hnx : putKeys F0 ((hashes l).take (k + 1)) M n = putBits (putKeys F0 ((hashes l).take k) M n) (hashL (l.getD k ⟨#[]⟩).data.toList) M n := by
            rw [List.take_succ_eq_append_getElem (by rw [HHL.out]; exact hlt), putKeys_snoc]
            congr 1
            unfold hashes
            simp [List.getD, hlt]
          have HNX := Lib.hid hnx
          have hFk : (putKeys F0 ((hashes l).take k) M n).length = M := by rw [putKeys_len, HFL.out]
          generalize putKeys F0 ((hashes l).take k) M n = Fk at *
          have HFK := Lib.hid hFk
          generalize l.getD k ⟨#[]⟩ = str at *
          generalize hashL str.data.toList = h at *
          have HSP := Lib.hid (fun (j : Nat) (h1 : j ≤ 12) => spot_any (h := h) (m := M) (j := j) hh h1 (by omega) (by omega))
          unfold wayV at HSP HW
          obtain ⟨d, hd⟩ : ∃ d, rot17 h = d := ⟨_, rfl⟩
          rw [hd] at HSP HW
          clear hsc hsz hnx hFk hd
          obtain ⟨wa, hwa⟩ : ∃ wa, wa = wr := ⟨_, rfl⟩
          subst hwa
          go_wp2_with (go_at_call 49; (refine (HW.out _).mono ?_); rintro e w2 ⟨rfl, hbw⟩)
          obtain ⟨wB, hwB⟩ : ∃ wB, wB = w2.alloc (Obj.cells #[Value.int IntKind.u32 (h : Int), Value.int IntKind.u32 (d : Int)] 95) := ⟨_, rfl⟩
          have hEB : Below wa.heap.size wa wB := by
            rw [hwB]
            exact hbw.alloc hbw.size _
          have hbox : wB.heap[w2.heap.size]? = some (.cells #[.int .u32 (h : Int), .int .u32 (d : Int)] 95) := by
            rw [hwB]
            exact heap_alloc_new w2 _
          rw [← hwB]
          have hpW : w.heap.size < w2.heap.size := by
            obtain ⟨g, cap, cur, hg, _, hgl, _⟩ := HO.out.2.resolve_left (fun h => by cases h.1)
            cases hg
            have := blk_lt hgl
            have := hbw.size
            omega
          generalize w2.heap.size = p at *
          have HOB := Lib.hid (HO.out.below hEB (Nat.le_refl _))
          have HEB := Lib.hid (HB.out.trans (hEB.mono HB.out.size))
          have HBOX := Lib.hid hbox
          clear hwB hEB hbox hbw w2 HO HB
          go_wp2
          go_loopw [35] (fun j wq => ∃ i : Nat, i ≤ n ∧ j = .int .i64 (i : Int) ∧ Hid (OwnB wq w.heap.size 5 (.slice (some ⟨w.heap.size, 0, none⟩) M (M + 1)) (putBits Fk h M i)) ∧ Hid (Below w.heap.size w wq) ∧ Hid (wq.heap[p]? = some (.cells #[.int .u32 (h : Int), .int .u32 (d : Int)] 95))) (fun j _ => n - (intOf j).toNat)
          case atStart => exact ⟨0, Nat.zero_le _, rfl, HOB, HEB, HBOX⟩
          case round =>
            obtain ⟨j, hj, rfl, HOJ, HBJ, HXJ⟩ := hrel
            by_cases hjn : j < n
            · have hb0 := blk_cell (i := 0) HXJ.out
              have hb1 := blk_cell (i := 1) HXJ.out
              replace hb0 : wr.cell? ⟨p, 0, none⟩ = some (.int .u32 (h : Int)) := hb0
              replace hb1 : wr.cell? ⟨p, 1, none⟩ = some (.int .u32 (d : Int)) := hb1
              have hpl := blk_lt HXJ.out
              have hxl := bitX_lt (h := h) (m := M) (j := j) (by omega)
              have hsp := HSP.out j (by omega) wr
              have HSB := Lib.hid (putBits_succ Fk h M j)
              have hGl : (putBits Fk h M j).length = M := by rw [putBits_len, HFK.out]
              generalize putBits Fk h M j = G at *
              generalize bitX h M j = x at *
              have hset : setBit G x = G.set (x / 8) (UInt8.ofNat ((G.getD (x / 8) 0).toNat ||| 2 ^ (x % 8))) := rfl
              obtain ⟨q, hq⟩ : ∃ q, x / 8 = q := ⟨_, rfl⟩
              obtain ⟨t, ht⟩ : ∃ t, x % 8 = t := ⟨_, rfl⟩
              rw [hq, ht] at hset hsp
              have t3 : t < 8 := by omega
              have q3 : (q : Int) < (M : Int) := by omega
              have HCF := Lib.hid (fun w3 (ho : OwnB w3 w.heap.size 5 (.slice (some ⟨w.heap.size, 0, none⟩) M (M + 1)) G) => (show w3.cell? ⟨w.heap.size, q, none⟩ = some (.int .u8 ((G.getD q 0).toNat : Int)) ∧ w3.frozen? ⟨w.heap.size, q, none⟩ = false from ⟨ho.cellAt q (by omega), ho.frozenAt q⟩))
              have hcb := byte_le (G.getD q 0)
              have hp : 2 ^ t < 256 := Nat.lt_of_lt_of_le (Nat.pow_lt_pow_right (by omega) t3) (by decide)
              have hor := or_u8 (G.getD q 0).toNat (2 ^ t) (by omega) hp
              have hol : (G.getD q 0).toNat ||| 2 ^ t < 256 := Nat.or_lt_two_pow (n := 8) (by omega) hp
              have hbv : bv (UInt8.ofNat ((G.getD q 0).toNat ||| 2 ^ t)) = .int .u8 (((G.getD q 0).toNat ||| 2 ^ t : Nat) : Int) := by
                unfold bv
                rw [UInt8.toNat_ofNat', Nat.mod_eq_of_lt (by omega)]
              have HST := Lib.hid (fun w3 (ho : OwnB w3 w.heap.size 5 (.slice (some ⟨w.heap.size, 0, none⟩) M (M + 1)) G) => (show OwnB (w3.setCell ⟨w.heap.size, q, none⟩ (.int .u8 (((G.getD q 0).toNat ||| 2 ^ t : Nat) : Int))) w.heap.size 5 (.slice (some ⟨w.heap.size, 0, none⟩) M (M + 1)) (putBits Fk h M (j + 1)) by rw [HSB.out, hset, ← hbv]; exact ho.stored q _))
              generalize (G.getD q 0).toNat = c at *
              have hor' : bits .or .u8 (c : Int) ((2 ^ t : Nat) : Int) = ((c ||| 2 ^ t : Nat) : Int) := hor
              generalize hc3 : c ||| 2 ^ t = c3 at *
              generalize hBi : ((2 ^ t : Nat) : Int) = Bi at *
              have HSP2 := Lib.hid hsp
              clear hsp hq ht hset hbv hol hGl hBi hc3 hor hp
              go_wp2_with (go_at_call 50; (refine HSP2.out.mono ?_); rintro e w3 ⟨rfl, hb3⟩; have HO3 := Lib.hid (HOJ.out.below hb3 (Nat.le_refl _)); obtain ⟨hc3, hf3⟩ := HCF.out w3 HO3.out)
              exact ⟨⟨j + 1, hjn, by go_num, Lib.hid (HST.out w3 HO3.out), Lib.hid ((HBJ.out.trans (hb3.mono HBJ.out.size)).setCell (p := ⟨w.heap.size, q, none⟩) (Nat.le_refl _) _), Lib.hid ((Below.heap_setCell w3 ⟨w.heap.size, q, none⟩ _ p (show p ≠ w.heap.size by omega)).trans ((hb3.block p hpl).trans HXJ.out))⟩, by simp [intOf]; omega⟩
            · have hje : j = n := by omega
              subst hje
              clear hjn
              go_wp2
              refine ⟨⟨k + 1, hlt, by go_num, by rw [HNX.out]; exact HOJ, HBJ⟩, by simp [intOf]; omega⟩
        · have hke : k = l.length := by omega
          have HEND := Lib.hid (show makeL (hashes l) b = putKeys F0 ((hashes l).take k) M n ++ [UInt8.ofNat n] by rw [HMK.out, hke, List.take_of_length_le (by rw [HHL.out]; omega)])
          clear hke
          have hFk : (putKeys F0 ((hashes l).take k) M n).length = M := by rw [putKeys_len, HFL.out]
          generalize putKeys F0 ((hashes l).take k) M n = Fk at *
          have HFK := Lib.hid hFk
          clear hFk
          go_wp2_with (first | (go_at_call 42; (refine (HFX.out _).mono ?_); rintro e w2 ⟨u, rfl, hou, hbu⟩; have HOU := Lib.hid hou.read; have HBU := Lib.hid hbu; clear hou hbu) | (at_builtin; refine wpList_append_bytes rfl _ _ 24 rfl w.heap.size 5 Tryz.underlying24 info_u8 _ _ Fk [UInt8.ofNat n] rfl rfl ?ho ?hrd ?hB ?hlen ?hK))
          case ho => exact HO.out.below HBU.out (Nat.le_refl _)
          case hrd => exact HOU.out
          case hB => exact Nat.le_trans HB.out.size HBU.out.size
          case hlen => simp [HFK.out]; omega
          case hK =>
            intro v' w' hown' hb'
            go_wp2
            go_ret
            exact ⟨_, rfl, by rw [HEND.out]; exact hown', hb' _ _ (Nat.le_refl _) (HB.out.trans (HBU.out.mono HB.out.size))⟩
end Go.Proofs.YteeikmpfgbfeoaaGreat

/-
  Tables: table.Put.
-/
namespace Go.Proofs.YteeikmpfgbfeoaaGreat
open Go.RowKit Go.Shelf
attribute [local go_sem] Oper.semAt_some

set_option maxRecDepth 100000 in
set_option maxHeartbeats 600000 in
/-- Entries that may be in no table. -/
theorem putt_no (v : Value) (es : List Ent) (per : Int) (b : Nat) (w : World) (hv : RdE w v es) (h : putTErr es per ≠ 0) :
    Calls Tryz.prog 7 #[v, .int .i64 per, .float .f64 b] w (RetPutT w es per b) := by
  have HV := Lib.hid hv
  have HRI := Lib.hid (rising_any v es w hv)
  obtain ⟨va, vc, rfl, hc1, hc2⟩ := hv.form
  unfold maxLen at hc2
  clear hv
  by_cases p1 : per < 1
  · have HE := Lib.hid (show putTErr es per = 1 by unfold putTErr; rw [if_pos (.inl p1)])
    have d1 : decide (per < 1) = true := by simpa using p1
    clear h
    go_enter Tryz.func7, Tryz.ntmps7
    go_wp2
    go_ret2
    exact RetPutT.no HE.out (by omega) (Below.refl _ _)
  · have d1 : decide (per < 1) = false := by simpa using p1
    by_cases p2 : 64 < per
    · have HE := Lib.hid (show putTErr es per = 1 by unfold putTErr; rw [if_pos (.inr (.inl p2))])
      have d2 : decide (64 < per) = true := by simpa using p2
      clear h
      go_enter Tryz.func7, Tryz.ntmps7
      go_wp2
      go_ret2
      exact RetPutT.no HE.out (by omega) (Below.refl _ _)
    · have d2 : decide (64 < per) = false := by simpa using p2
      by_cases hn : es = []
      · have HE := Lib.hid (show putTErr es per = 1 by unfold putTErr; rw [if_pos (.inr (.inr (.inr hn)))])
        have hlb : ((es.length : Int) == 0) = true := by rw [hn]; rfl
        clear hn h
        go_enter Tryz.func7, Tryz.ntmps7
        go_wp2
        go_ret2
        exact RetPutT.no HE.out (by omega) (Below.refl _ _)
      · have hlb : ((es.length : Int) == 0) = false := by
          have := List.length_pos_iff.2 hn
          have : (es.length : Int) ≠ 0 := by omega
          simpa using this
        cases hr : risingB es with
        | false =>
          have HE := Lib.hid (show putTErr es per = 1 by unfold putTErr; rw [if_pos (.inr (.inr (.inl hr)))])
          rw [hr] at HRI
          clear hr hn h
          go_enter Tryz.func7, Tryz.ntmps7
          go_wp2_with (go_at_call 18; (refine HRI.out.mono ?_); rintro e w1 ⟨rfl, hb1⟩)
          go_ret2
          exact RetPutT.no HE.out (by omega) hb1
        | true =>
          rw [hr] at HRI
          have hno : ¬ (per < 1 ∨ 64 < per ∨ risingB es = false ∨ es = []) := by
            rintro (h | h | h | h)
            · exact p1 h
            · exact p2 h
            · rw [hr] at h; cases h
            · exact hn h
          have h256 : 256 < es.length := by
            unfold putTErr at h
            rw [if_neg hno] at h
            split at h
            · assumption
            · exact absurd rfl h
          have HE := Lib.hid (show putTErr es per = 4 by unfold putTErr; rw [if_neg hno, if_pos h256])
          have d3 : decide ((256 : Int) < (es.length : Int)) = true := by simp; omega
          clear hn hr hno h
          go_enter Tryz.func7, Tryz.ntmps7
          go_wp2_with (go_at_call 18; (refine HRI.out.mono ?_); rintro e w1 ⟨rfl, hb1⟩)
          go_ret2
          exact RetPutT.no HE.out (by omega) hb1

theorem parts_ok {es : List Ent} {per : Nat} (hr : risingB es = true) (h1 : 1 ≤ per) (h2 : per ≤ 64) : ∀ p ∈ partsE es per (nBlk es per), putErr p = 0 := by
  intro p hp
  obtain ⟨i, hi, rfl⟩ := List.mem_map.1 hp
  exact part_err hr h1 h2 ((nBlk_lt h1 i).1 (List.mem_range.1 hi))

set_option maxRecDepth 100000 in
set_option maxHeartbeats 1000000 in
/-- Entries that may be in one. -/
theorem putt_yes (v : Value) (es : List Ent) (per : Nat) (b : Nat) (w : World) (hv : RdE w v es) (hm : MayT es) (h1 : 1 ≤ per) (h2 : per ≤ 64) (hb : (Lit.float .f64 b).wf = true) :
    Calls Tryz.prog 7 #[v, .int .i64 (per : Int), .float .f64 b] w fun e w' => ∃ x, e = .returned (.tuple #[x, .int .i64 0]) ∧ OwnB w' w.heap.size 5 x (tableL es per (makeL (hashes (usersL es)) b)) ∧ Below w.heap.size w w' := by
  have HV := Lib.hid hv
  obtain ⟨hr, hne, hl⟩ := hm
  have hri := rising_any v es w hv
  rw [hr] at hri
  have HRI := Lib.hid hri
  obtain ⟨va, vc, rfl, hc1, hc2⟩ := hv.form
  unfold maxLen at hc2
  have HR := Lib.hid hr
  have HNE := Lib.hid hne
  have HB := Lib.hid hb
  have hp := List.length_pos_iff.2 hne
  have d1 : decide ((per : Int) < 1) = false := by simp; omega
  have d1' : ¬ (per : Int) < 1 := by omega
  have d1'' : ¬ per = 0 := by omega
  have d2 : decide ((64 : Int) < (per : Int)) = false := by simp; omega
  have d2' : ¬ (64 : Int) < (per : Int) := by omega
  have d2'' : ¬ 64 < per := by omega
  have d3 : decide ((256 : Int) < (es.length : Int)) = false := by simp; omega
  have d3' : ¬ 256 < es.length := by omega
  have d3'' : ¬ (256 : Int) < (es.length : Int) := by omega
  have hlb : ((es.length : Int) == 0) = false := by
    have : (es.length : Int) ≠ 0 := by omega
    simpa using this
  have hlc : ¬ es.length = 0 := by omega
  clear hv hri hr hne hb
  refine (callsIn_wide (n := 5)).1 ?_
  refine callsIn_of_wp_marks Tryz.func7 rfl trivial ?_ rfl
  simp only [Tryz.ntmps7, List.size_toArray, List.length_cons, List.length_nil, Nat.reduceAdd, Nat.reduceSub, Array.replicate_succ, Array.replicate_zero, List.push_toArray, List.append_toArray, List.nil_append, List.cons_append]
  refine wpIn_wide.2 ?_
  go_wp2_with (first | (go_at_call 18; (refine HRI.out.mono ?_); rintro e w1 ⟨rfl, hb1⟩; have HB1 := Lib.hid hb1; clear hb1) | (go_at_call 19; (refine (chunk_any _ _ _ per h1 _).mono ?_); rintro e w2 ⟨rfl, rfl⟩))
  have HPB0 : Hid (∃ wl, wl = ((((w1.alloc (.cells #[.slice none 0 0] 24)).alloc (.cells #[.slice none 0 0] 53)).alloc (.cells #[.slice va es.length vc] 22)).alloc (.cells #[.int .i64 (per : Int)] 3)) ∧ wl.heap.size = w1.heap.size + 4 ∧
      PB (fun k => k = w1.heap.size + 1 + 1 ∨ k = w1.heap.size + 1 + 1 + 1) w w.heap.size w1.heap.size (w1.heap.size + 1) wl (.slice none 0 0) (.slice none 0 0) [] [] ∧ wl.cell? ⟨w1.heap.size + 1 + 1, 0, none⟩ = some (.slice va es.length vc) ∧ wl.cell? ⟨w1.heap.size + 1 + 1 + 1, 0, none⟩ = some (.int .i64 (per : Int))) := Lib.hid (by
    have hb4 : ∀ o1 o2 o3 o4 : Obj, Below w1.heap.size w1 ((((w1.alloc o1).alloc o2).alloc o3).alloc o4) := fun o1 o2 o3 o4 => ((((Below.refl _ w1).alloc (Nat.le_refl _) o1).alloc (by simp) o2).alloc (by simp; omega) o3).alloc (by simp; omega) o4
    have hs := HB1.out.size
    refine ⟨_, rfl, by simp, ⟨?_, ?_, OwnB.nil _ _ _, World.ownsRow_nil _ _ _ _, (fun _ h => by cases h), (fun _ h => by cases h), (fun _ h => by cases h), ?_, by omega, HB1.out.trans ((hb4 _ _ _ _).mono hs), ?_, hs, by omega⟩, ?_, ?_⟩
    · exact (Below.block (((Below.refl _ _).alloc (Nat.le_refl _) _ : Below _ _ _)) _ (by simp; omega)).trans ((Below.block ((Below.refl _ _).alloc (Nat.le_refl _) _) _ (by simp; omega)).trans ((Below.block ((Below.refl _ _).alloc (Nat.le_refl _) _) _ (by simp)).trans (heap_alloc_new w1 _)))
    · exact (Below.block (((Below.refl _ _).alloc (Nat.le_refl _) _ : Below _ _ _)) _ (by simp)).trans ((Below.block ((Below.refl _ _).alloc (Nat.le_refl _) _) _ (by simp)).trans (heap_new2 w1 _ _))
    · intro k hk
      rcases hk with rfl | rfl
      · simp; omega
      · simp; omega
    · simp; omega
    · have h := heap_new2 (w1.alloc (.cells #[.slice none 0 0] 24)) (.cells #[.slice none 0 0] 53) (.cells #[.slice va es.length vc] 22)
      rw [World.size_alloc] at h
      exact blk_cell (i := 0) ((Below.block ((Below.refl _ _).alloc (Nat.le_refl _) _) _ (by simp)).trans h)
    · have h := heap_new2 ((w1.alloc (.cells #[.slice none 0 0] 24)).alloc (.cells #[.slice none 0 0] 53)) (.cells #[.slice va es.length vc] 22) (.cells #[.int .i64 (per : Int)] 3)
      rw [World.size_alloc, World.size_alloc] at h
      exact blk_cell (i := 0) h)
  obtain ⟨wl, hwl, hsz, hPB0, k1, k2⟩ := HPB0.out
  clear HPB0
  rw [← hwl]
  clear hwl
  have HB1S := Lib.hid HB1.out.size
  clear HB1
  generalize w1.heap.size = A at *
  have HPB0 := Lib.hid hPB0
  have HSZ := Lib.hid hsz
  have HK12 := Lib.hid (And.intro k1 k2)
  have HUL := Lib.hid (usersN_len es es.length)
  clear hPB0 hsz k1 k2
  refine (wpIn_wide (n := 5)).1 ?_
  refine wpIn_rangeFunc_ownF (F := Fence.wide) rfl (by omega) (gf := 41) (lb := #[.pointer (some ⟨A + 1 + 1, 0, none⟩), .pointer (some ⟨A + 1 + 1 + 1, 0, none⟩)]) rfl trivial (enters_of Tryz.func41 (by kernel_rfl) rfl)
    (chunk_stops (w0 := w) (R := fun k => k = A + 1 + 1 ∨ k = A + 1 + 1 + 1) HV.out HR.out h1 h2 hl (.inl rfl) (.inr rfl) (by have := HSZ.out; omega) (by have := HSZ.out; omega) HK12.out.1 HK12.out.2) (fun h k => h.trans k) (fun W l o o' hl' _ _ _ => kept_putObj o' (by have := HSZ.out; rintro (h | h) <;> omega)) (Below.refl _ _) (fun _ => rfl)
    (fun pre W => ∃ vb vr, PB (fun k => k = A + 1 + 1 ∨ k = A + 1 + 1 + 1) w w.heap.size A (A + 1) W vb vr (tabQ (pre.map fun x : Chk w => x.1.2)) (rowsQ (pre.map fun x : Chk w => x.1.2)))
    (fun _ _ _ => False)
    (fun s W W' row ⟨vb, vr, h⟩ hg hr => ⟨vb, vr, h.turned hg fun r e => ⟨by have h1 := (hr r e).1; have h2 := HSZ.out; have h3 := HB1S.out; omega, (hr r e).2⟩⟩)
    (fun _ _ _ _ _ hs _ _ => hs)
    ⟨_, _, HPB0.out⟩
    (fun x => { tmps := #[.slice va es.length vc, .int .i64 (per : Int), .float .f64 b, undef, undef, undef, .slice none 0 0, .int .i64 0, .pointer (some ⟨A, 0, none⟩), .pointer (some ⟨A + 1, 0, none⟩), x.1.1, undef, undef, undef, undef, .bool false, .int .i64 (per : Int), .bool false, .int .i64 (per : Int), .bool false, .slice va es.length vc, .int .i64 (es.length : Int), .bool false, .slice va es.length vc, .bool true, .bool false, .bool false, .slice va es.length vc, .int .i64 (es.length : Int), .bool false, .slice va es.length vc, .int .i64 (per : Int), .func (.func 41) #[] #[.pointer (some ⟨A + 1 + 1, 0, none⟩), .pointer (some ⟨A + 1 + 1 + 1, 0, none⟩)], x.1.1, undef, undef, undef, undef, undef, undef, undef, undef, undef, undef, undef, undef, undef, undef, undef, undef, undef, undef, undef, undef, undef, undef, undef, undef, undef, undef, undef, undef, undef, undef, undef, undef, undef, undef, undef, undef, undef], defers := [] }) ?assign ?body ?done ?stop
  case assign =>
    intro l x W K hK
    gi_wp2
    exact hK
  case stop =>
    rintro D c pre W hD _ h _
    exact h.elim
  case body =>
    rintro l pre x W ⟨vb, vr, hPB⟩ hlt
    obtain ⟨L, hL⟩ : ∃ L, (pre.map fun x : Chk w => x.1.2) = L := ⟨_, rfl⟩
    have HLS := Lib.hid (show ((pre ++ [x]).map fun x : Chk w => x.1.2) = L ++ [x.1.2] by rw [List.map_append, hL]; rfl)
    rw [hL] at hPB
    have HLL : Hid (L.length ≤ 255) := Lib.hid (by
      have h3 := nBlk_le (es := es) h1 HNE.out
      rw [← hL, List.length_map]
      omega)
    have HOK : Hid (∀ p ∈ L, putErr p = 0) := Lib.hid (fun p hp => by
      rw [← hL] at hp
      obtain ⟨y, _, rfl⟩ := List.mem_map.1 hp
      exact y.2.2)
    clear hL hlt
    have HRL : Hid ((rowsQ L).length ≤ 256) := Lib.hid (by rw [rowsQ_len]; have := HLL.out; omega)
    have HTL : Hid ((tabQ L).length ≤ 25602048) := Lib.hid (by have := tabQ_len HOK.out; have := HLL.out; omega)
    have HBL := Lib.hid (blk_len x.2.2)
    obtain ⟨ba, bc, hba, _, _⟩ := hPB.own.read.form
    subst hba
    have HPB := Lib.hid hPB
    clear hPB
    have HBP : Hid (∀ wz, Below w.heap.size w wz → Calls Tryz.prog 20 #[x.1.1] wz fun e w' => ∃ y, e = .returned (.tuple #[y, .int .i64 0]) ∧ OwnB w' wz.heap.size 5 y (blockL x.1.2) ∧ Below wz.heap.size wz w') := Lib.hid fun wz hz => by
      refine (put_any12 x.1.1 x.1.2 wz (x.2.1.below hz (Nat.le_refl _))).mono ?_
      rintro e w' ⟨y, rfl, ho, hb⟩
      rw [x.2.2] at ho ⊢
      exact ⟨y, rfl, ho, hb⟩
    have HFP : Hid (∀ y wz, RdB wz y (blockL x.1.2) → Calls Tryz.prog 21 #[y] wz (RetB wz.heap.size wz (frRaw (blockL x.1.2)))) := Lib.hid fun y wz hy => by
      have h := fput_any wz y _ hy (by have := HBL.out.1; omega)
      unfold frL at h
      rw [if_pos (by have := HBL.out.1; omega)] at h
      exact h
    have HRO : Hid (∀ wz, Below w.heap.size w wz → Calls Tryz.prog 22 #[x.1.1, .int .i64 ((tabQ L).length : Int), .int .i64 ((frRaw (blockL x.1.2)).length : Int)] wz fun e w' => e = .returned (rwV (rowP x.1.2 (tabQ L).length)) ∧ Below wz.heap.size wz w') := Lib.hid fun wz hz => rowOf_any x.1.1 x.1.2 _ _ wz (x.2.1.below hz (Nat.le_refl _)) (putErr_ok x.2.2).2.1
    gi_wp2_with (first | (refine ⟨trivial, ?_⟩; gi_at_call 20; (refine (CallsIn.inRound l (callsIn_wide.2 (HBP.out _ HPB.out.be))).mono ?_); rintro e u1 ⟨y1, rfl, ho1, hb1⟩; have HPB1 := Lib.hid (HPB.out.call hb1); have HKT1 := Lib.hid (HPB.out.kcall hb1); have HKO1 := Lib.hid (keeps_below hb1); have HO1 := Lib.hid ho1.read; have HS1 := Lib.hid hb1.size; clear ho1 hb1) | (refine ⟨trivial, ?_⟩; gi_at_call 21; (refine (CallsIn.inRound l (callsIn_wide.2 (HFP.out _ _ HO1.out))).mono ?_); rintro e u2 ⟨y2, rfl, ho2, hb2⟩; (obtain ⟨ya, yc, hy2, _, _⟩ := ho2.read.form); subst hy2; have hd2 := (Below.refl u2.heap.size u2).drew; have HPB2 := Lib.hid ((HPB1.out.call hb2).call hd2); have HKT2 := Lib.hid ((HKT1.out.trans (HPB1.out.kcall hb2)).trans (Kept.of hd2 fun k hk => ((HPB1.out.call hb2).tk k hk).1)); have HKO2 := Lib.hid ((HKO1.out.trans (keeps_below hb2)).trans (keeps_below hd2)); have HO2 := Lib.hid (OwnB.below ho2 hd2 (Nat.le_refl _)); have HDQ : Hid (A + 1 < u1.heap.size) := Lib.hid (blk_lt HPB1.out.cr); have HDP : Hid (A < u1.heap.size) := Lib.hid (blk_lt HPB1.out.cb); have HDV : Hid (∀ j, vr.ownBlock = some j → j < u1.heap.size) := Lib.hid (own_lt HPB1.out.rows); clear ho2 hb2 hd2))
    refine wp_region_two_round (fun wz => wz.cell? ⟨A + 1, 0, none⟩ = some vr ∧ wz.cell? ⟨A, 0, none⟩ = some (.slice ba (tabQ L).length bc)) (fun _ => True) [(0, 0), (0, 1), (0, 2), (0, 3), (0, 4), (0, 5), (2, 6), (2, 7), (2, 8), (3, 9)] [9] (by kernel_rfl) (by rintro ⟨_, _, h⟩; exact h) (by kernel_rfl) (by kernel_rfl) (by kernel_rfl) (by kernel_rfl) (by kernel_rfl) ⟨HPB2.out.cellR, HPB2.out.cellB⟩ trivial ?_
    simp only [planT, List.drop_succ_cons, List.drop_zero]
    refine PlanT.take0 (v := ?vR0) (by kernel_rfl) ?yR0 ?rR0
    case yR0 => (intro wz hz; have z1 := hz.1; have z2 := hz.2; go_simp; try with_reducible rfl)
    (try simp only [Act.put, List.setIfInBounds_toArray, List.set_cons_zero, List.set_cons_succ])
    refine PlanT.take0 (v := ?vR1) (by kernel_rfl) ?yR1 ?rR1
    case yR1 => (intro wz hz; have z1 := hz.1; have z2 := hz.2; go_simp; try with_reducible rfl)
    (try simp only [Act.put, List.setIfInBounds_toArray, List.set_cons_zero, List.set_cons_succ])
    refine PlanT.take0 (v := ?vR2) (by kernel_rfl) ?yR2 ?rR2
    case yR2 => (intro wz hz; have z1 := hz.1; have z2 := hz.2; go_simp; try with_reducible rfl)
    (try simp only [Act.put, List.setIfInBounds_toArray, List.set_cons_zero, List.set_cons_succ])
    refine PlanT.take0 (v := ?vR3) (by kernel_rfl) ?yR3 ?rR3
    case yR3 => (intro wz hz; have z1 := hz.1; have z2 := hz.2; go_simp; try with_reducible rfl)
    (try simp only [Act.put, List.setIfInBounds_toArray, List.set_cons_zero, List.set_cons_succ])
    refine PlanT.take0 (v := ?vR4) (by kernel_rfl) ?yR4 ?rR4
    case yR4 => (intro wz hz; have z1 := hz.1; have z2 := hz.2; go_simp; try with_reducible rfl)
    (try simp only [Act.put, List.setIfInBounds_toArray, List.set_cons_zero, List.set_cons_succ])
    refine PlanT.take0 (v := ?vR5) (by kernel_rfl) ?yR5 ?rR5
    case yR5 => (intro wz hz; have z1 := hz.1; have z2 := hz.2; go_simp; try with_reducible rfl)
    (try simp only [Act.put, List.setIfInBounds_toArray, List.set_cons_zero, List.set_cons_succ])
    refine PlanT.exec2 (fun K hK => ⟨by kernel_rfl, ?_⟩)
    go_simp
    refine (HRO.out _ HPB2.out.be).mono ?_
    rintro e u3 ⟨rfl, hb3⟩
    have HPB3 := Lib.hid (HPB2.out.call hb3)
    have HKT3 := Lib.hid (HKT2.out.trans (HPB2.out.kcall hb3))
    have HKO3 := Lib.hid (HKO2.out.trans (keeps_below hb3))
    have HO3 := Lib.hid (HO2.out.below hb3 (Nat.le_refl _))
    clear hb3
    refine hK.out _ _ ⟨HPB3.out.cellR, HPB3.out.cellB⟩ trivial ?_
    clear hK K
    (try simp only [Act.put, List.setIfInBounds_toArray, List.set_cons_zero, List.set_cons_succ])
    refine PlanT.exec2 (fun K hK => ⟨by kernel_rfl, ?_⟩)
    go_simp
    have hba : Below u3.heap.size u3 (u3.alloc (.cells #[.string (lastE x.1.2).u, .int .i64 (lastE x.1.2).s, .int .i64 (lastE x.1.2).k, .int .i64 ((tabQ L).length : Int), .int .i64 ((frRaw (blockL x.1.2)).length : Int)] 60)) := (Below.refl _ _).alloc (Nat.le_refl _) _
    have HPB4 := Lib.hid (HPB3.out.call hba)
    have HKT4 := Lib.hid (HKT3.out.trans (HPB3.out.kcall hba))
    have HKO4 := Lib.hid (HKO3.out.trans (keeps_below hba))
    have HO4 := Lib.hid (HO3.out.below hba (Nat.le_refl _))
    clear hba
    refine hK.out _ _ ⟨HPB4.out.cellR, HPB4.out.cellB⟩ trivial ?_
    clear hK K
    (try simp only [Act.put, List.setIfInBounds_toArray, List.set_cons_zero, List.set_cons_succ])
    refine PlanT.exec2 (fun K hK => ⟨by kernel_rfl, ?_⟩)
    refine wp_append_at (.tmp 41) (.tmp 48) 53 rfl 60 5 48 (.agg #[.string ⟨#[]⟩, .int .i64 0, .int .i64 0, .int .i64 0, .int .i64 0]) Tryz.underlying53 info_rw rfl (by decide) _ _ _ 1 _ ([rowP x.1.2 (tabQ L).length].flatMap Rw.cells) rfl rfl HPB4.out.rows0 (one_rw u3 (rowP x.1.2 (tabQ L).length)) (rwFlat_one _) (by have := HRL.out; omega) (by have := HRL.out; unfold maxLen; omega) ?kR
    intro v1 w5 hown5 hmv5
    obtain ⟨hPB6, hk6, ho6, c6, f6, d6⟩ := HPB4.out.putR (m := [rowP x.1.2 (tabQ L).length]) hown5 hmv5
    have HO6 := Lib.hid (own_past (q := A + 1) (u := v1) HO4.out hmv5 HDV.out HDQ.out)
    obtain ⟨ra, rc, hra, _, _⟩ := hPB6.rows.form
    rw [List.length_append, List.length_singleton] at hra
    subst hra
    have HPB6 := Lib.hid hPB6
    have HKT6 := Lib.hid (HKT4.out.trans hk6)
    have HKO6 := Lib.hid (HKO4.out.trans ho6)
    have p6 := hPB6.cellB
    clear hPB6 hk6 ho6 hown5 hmv5
    refine hK.out _ _ ⟨c6, d6⟩ trivial ?_
    clear hK K
    (try simp only [Act.put, List.setIfInBounds_toArray, List.set_cons_zero, List.set_cons_succ])
    refine PlanT.exec3 (fun K hK => ⟨by kernel_rfl, ?_⟩)
    go_simp
    refine hK.out _ _ trivial ?_
    clear hK K
    (try simp only [Act.put, List.setIfInBounds_toArray, List.set_cons_zero, List.set_cons_succ])
    refine PlanT.done (NoPanic.normal ?_)
    gi_wp2_with (gi_at_builtin; refine wpListIn_plain rfl fun K' hK' => ?_; refine wp_in_round (fun c h => by cases h) ?_; refine wp_append_at (.tmp 50) (.tmp 51) 24 rfl 5 1 1 (.int .u8 0) Tryz.underlying24 info_u8 rfl (by decide) _ _ _ _ _ _ rfl rfl HPB6.out.own0 HO6.out.read (bv_oneCell _) (by have h1 := HTL.out; have h2 := HBL.out.2; omega) (by have h1 := HTL.out; have h2 := HBL.out.2; unfold maxLen; omega) (fun v2 w7 hown7 hmv7 => hK' _ _ ?_); obtain ⟨hPB8, hk8, ho8, c8, f8⟩ := HPB6.out.putB hown7 hmv7; (obtain ⟨ra2, rc2, hra2, _, _⟩ := hPB8.own.read.form); (rw [List.length_append] at hra2); subst hra2; have HPB8 := Lib.hid hPB8; have HKT8 := Lib.hid (HKT6.out.trans hk8); have HKO8 := Lib.hid (HKO6.out.trans ho8); clear hPB8 hk8 ho8 hown7 hmv7)
    have hF := HPB8.out
    rw [← tabQ_snoc, ← rowsQ_snoc, ← HLS.out] at hF
    exact ⟨HKO8.out, HKT8.out, _, _, hF⟩
  case done =>
    rintro D xs W hD hS ⟨vb, vr, hPB⟩ hK
    rw [hS] at hPB
    have HTAB := Lib.hid (fun f => table_parts es per f)
    have HOK := Lib.hid (parts_ok HR.out h1 h2)
    have HLL : Hid ((partsE es per (nBlk es per)).length ≤ 256) := Lib.hid (by have h3 := nBlk_le (es := es) h1 HNE.out; rw [partsE_len]; omega)
    generalize partsE es per (nBlk es per) = LL at *
    have HFL := Lib.hid (makeL_few (hashes (usersL es)) b (by unfold hashes; rw [List.length_map]; have := HUL.out; unfold usersL; omega))
    have HUS : Hid (∀ wz, Below w.heap.size w wz → Calls Tryz.prog 24 #[.slice va es.length vc] wz fun e w' => ∃ x, e = .returned x ∧ OwnS w' wz.heap.size x (usersL es) ∧ Below wz.heap.size wz w') := Lib.hid fun wz hz => users_any _ es wz (HV.out.below hz (Nat.le_refl _)) (by omega)
    have HUI := Lib.hid (show ∀ s ∈ usersL es, s.size ≤ maxLen from fun s hs => by
      obtain ⟨e, he, rfl⟩ := usersN_in es es.length (Nat.le_refl _) s hs
      exact (Ent.may_fits (rising_all HR.out e he)).1)
    have HMK : Hid (∀ x wz B, OwnS wz B x (usersL es) → Calls Tryz.prog 23 #[x, .float .f64 b] wz (RetB wz.heap.size wz (makeL (hashes (usersL es)) b))) := Lib.hid fun x wz B hx => make_any x (usersL es) b HB.out wz (rd_of_own hx) HUI.out (by have := HUL.out; unfold usersL; omega)
    generalize hFE : makeL (hashes (usersL es)) b = F at *
    have HFE := Lib.hid hFE
    clear hFE
    have HRL : Hid ((rowsQ LL).length ≤ 256) := Lib.hid (by rw [rowsQ_len]; have := HLL.out; omega)
    have HTL : Hid ((tabQ LL).length ≤ 25602048) := Lib.hid (by have := tabQ_len HOK.out; have := HLL.out; omega)
    have HFP : Hid (∀ y wz, RdB wz y F → Calls Tryz.prog 21 #[y] wz (RetB wz.heap.size wz (frRaw F))) := Lib.hid fun y wz hy => by
      have h := fput_any wz y _ hy (by have := HFL.out; omega)
      unfold frL at h
      rw [if_pos (by have := HFL.out; omega)] at h
      exact h
    have HPE : Hid (∀ v wz fa la, RdR wz v (rowsQ LL) → Calls Tryz.prog 25 #[v, .int .i64 fa, .int .i64 la, .int .i64 (es.length : Int)] wz (RetB wz.heap.size wz (endB (rowsQ LL) fa la (es.length : Int)))) := Lib.hid fun v wz fa la hv => putEnd_any v _ fa la _ wz hv (rowsQ_ok HOK.out HLL.out) HRL.out
    obtain ⟨ba, bc, hba, _, _⟩ := hPB.own.read.form
    subst hba
    have zb := hPB.cellB
    have HP0 := Lib.hid (hPB.call (Below.refl _ _).drew)
    have HKO0 := Lib.hid (KeepsOthers.drew W)
    have HEL := Lib.hid (Nat.le_refl 0)
    have HKD := Lib.hid hK
    have HDS := Lib.hid hD
    clear hPB hK hS hD
    go_wp2
    refine wp_region_two (fun wz => wz.cell? ⟨A, 0, none⟩ = some (.slice ba (tabQ LL).length bc)) (fun _ => True) [(0, 0), (0, 1), (0, 3), (2, 2), (2, 4), (2, 5), (2, 6), (3, 7)] [7] (by kernel_rfl) (by kernel_rfl) (by kernel_rfl) (by kernel_rfl) (by kernel_rfl) HP0.out.cellB trivial ?_
    simp only [planT, List.drop_succ_cons, List.drop_zero]
    refine PlanT.take0 (v := ?vS0) (by kernel_rfl) ?yS0 ?rS0
    case yS0 => (intro wz hz; have z1 := hz; go_simp; try with_reducible rfl)
    (try simp only [Act.put, List.setIfInBounds_toArray, List.set_cons_zero, List.set_cons_succ])
    refine PlanT.take0 (v := ?vS1) (by kernel_rfl) ?yS1 ?rS1
    case yS1 => (intro wz hz; have z1 := hz; go_simp; try with_reducible rfl)
    (try simp only [Act.put, List.setIfInBounds_toArray, List.set_cons_zero, List.set_cons_succ])
    refine PlanT.take0 (v := ?vS3) (by kernel_rfl) ?yS3 ?rS3
    case yS3 => (intro wz hz; have z1 := hz; go_simp; try with_reducible rfl)
    (try simp only [Act.put, List.setIfInBounds_toArray, List.set_cons_zero, List.set_cons_succ])
    refine PlanT.exec2 (fun K hK => ⟨by kernel_rfl, ?_⟩)
    go_simp
    refine (HUS.out _ HP0.out.be).mono ?_
    rintro e u1 ⟨x1, rfl, ho1, hb1⟩
    have HP1 := Lib.hid (HP0.out.call hb1)
    have HKO1 := Lib.hid (HKO0.out.trans (keeps_below hb1))
    have HO1 := Lib.hid ho1
    clear ho1 hb1
    refine hK.out _ _ HP1.out.cellB trivial ?_
    clear hK K
    (try simp only [Act.put, List.setIfInBounds_toArray, List.set_cons_zero, List.set_cons_succ])
    refine PlanT.exec2 (fun K hK => ⟨by kernel_rfl, ?_⟩)
    go_simp
    refine (HMK.out _ _ _ HO1.out).mono ?_
    rintro e u2 ⟨x2, rfl, ho2, hb2⟩
    have HP2 := Lib.hid (HP1.out.call hb2)
    have HKO2 := Lib.hid (HKO1.out.trans (keeps_below hb2))
    have HO2 := Lib.hid ho2
    clear ho2 hb2
    refine hK.out _ _ HP2.out.cellB trivial ?_
    clear hK K
    (try simp only [Act.put, List.setIfInBounds_toArray, List.set_cons_zero, List.set_cons_succ])
    refine PlanT.exec2 (fun K hK => ⟨by kernel_rfl, ?_⟩)
    go_simp
    refine (HFP.out _ _ HO2.out.read).mono ?_
    rintro e u3 ⟨x3, rfl, ho3, hb3⟩
    have HP3 := Lib.hid (HP2.out.call hb3)
    have HKO3 := Lib.hid (HKO2.out.trans (keeps_below hb3))
    have HO3 := Lib.hid ho3
    clear ho3 hb3
    refine hK.out _ _ HP3.out.cellB trivial ?_
    clear hK K
    (try simp only [Act.put, List.setIfInBounds_toArray, List.set_cons_zero, List.set_cons_succ])
    refine PlanT.exec2 (fun K hK => ⟨by kernel_rfl, ?_⟩)
    refine wp_append_at (.tmp 55) (.tmp 60) 24 rfl 5 1 1 (.int .u8 0) Tryz.underlying24 info_u8 rfl (by decide) _ _ _ _ _ _ rfl rfl HP3.out.own0 HO3.out.read (bv_oneCell _) (by have h1 := HTL.out; have h2 := HFL.out; have h3 := HEL.out; (try simp only [frRaw_length]); omega) (by have h1 := HTL.out; have h2 := HFL.out; have h3 := HEL.out; (try simp only [frRaw_length]); unfold maxLen; omega) ?kS
    intro v4 w4 hown4 hmv4
    obtain ⟨hPB8, hk8, ho8, c8, f8⟩ := HP3.out.putB hown4 hmv4
    obtain ⟨ra2, rc2, hra2, _, _⟩ := hPB8.own.read.form
    rw [List.length_append] at hra2
    subst hra2
    have HP5 := Lib.hid hPB8
    have HKO5 := Lib.hid (HKO3.out.trans ho8)
    have zb5 := hPB8.cellB
    have zr5 := hPB8.cellR
    clear hPB8 hk8 ho8 hown4 hmv4
    refine hK.out _ _ c8 trivial ?_
    clear hK K
    (try simp only [Act.put, List.setIfInBounds_toArray, List.set_cons_zero, List.set_cons_succ])
    refine PlanT.exec3 (fun K hK => ⟨by kernel_rfl, ?_⟩)
    go_simp
    refine hK.out _ _ trivial ?_
    clear hK K
    (try simp only [Act.put, List.setIfInBounds_toArray, List.set_cons_zero, List.set_cons_succ])
    refine PlanT.done (NoPanic.normal ?_)
    have HP6 := Lib.hid (HP5.out.call (Below.refl _ _).drew)
    have HKO6 := Lib.hid (HKO5.out.trans (KeepsOthers.drew _))
    clear HEL
    have HEL := Lib.hid (show ∀ fa la, (endB (rowsQ LL) fa la (es.length : Int)).length ≤ 25624 from fun fa la => by
      have h := endB_len (rowsQ_ok HOK.out HLL.out) fa la (es.length : Int)
      have := HRL.out
      omega)
    go_wp2
    refine wp_region_two (fun wz => wz.cell? ⟨A + 1, 0, none⟩ = some vr ∧ wz.cell? ⟨A, 0, none⟩ = some (.slice ra2 ((tabQ LL).length + (frRaw F).length) rc2)) (fun _ => True) [(0, 0), (0, 1), (0, 2), (0, 3), (0, 4), (0, 5), (0, 6), (2, 7), (3, 8), (1, 9), (1, 10)] [8] (by kernel_rfl) (by kernel_rfl) (by kernel_rfl) (by kernel_rfl) (by kernel_rfl) ⟨HP6.out.cellR, HP6.out.cellB⟩ trivial ?_
    simp only [planT, List.drop_succ_cons, List.drop_zero]
    refine PlanT.take0 (v := ?vU0) (by kernel_rfl) ?yU0 ?rU0
    case yU0 => (intro wz hz; have z1 := hz.1; have z2 := hz.2; go_simp; try with_reducible rfl)
    (try simp only [Act.put, List.setIfInBounds_toArray, List.set_cons_zero, List.set_cons_succ])
    refine PlanT.take0 (v := ?vU1) (by kernel_rfl) ?yU1 ?rU1
    case yU1 => (intro wz hz; have z1 := hz.1; have z2 := hz.2; go_simp; try with_reducible rfl)
    (try simp only [Act.put, List.setIfInBounds_toArray, List.set_cons_zero, List.set_cons_succ])
    refine PlanT.take0 (v := ?vU2) (by kernel_rfl) ?yU2 ?rU2
    case yU2 => (intro wz hz; have z1 := hz.1; have z2 := hz.2; go_simp; try with_reducible rfl)
    (try simp only [Act.put, List.setIfInBounds_toArray, List.set_cons_zero, List.set_cons_succ])
    refine PlanT.take0 (v := ?vU3) (by kernel_rfl) ?yU3 ?rU3
    case yU3 => (intro wz hz; have z1 := hz.1; have z2 := hz.2; go_simp; try with_reducible rfl)
    (try simp only [Act.put, List.setIfInBounds_toArray, List.set_cons_zero, List.set_cons_succ])
    refine PlanT.take0 (v := ?vU4) (by kernel_rfl) ?yU4 ?rU4
    case yU4 => (intro wz hz; have z1 := hz.1; have z2 := hz.2; go_simp; try with_reducible rfl)
    (try simp only [Act.put, List.setIfInBounds_toArray, List.set_cons_zero, List.set_cons_succ])
    refine PlanT.take0 (v := ?vU5) (by kernel_rfl) ?yU5 ?rU5
    case yU5 => (intro wz hz; have z1 := hz.1; have z2 := hz.2; go_simp; try with_reducible rfl)
    (try simp only [Act.put, List.setIfInBounds_toArray, List.set_cons_zero, List.set_cons_succ])
    refine PlanT.take0 (v := ?vU6) (by kernel_rfl) ?yU6 ?rU6
    case yU6 => (intro wz hz; have z1 := hz.1; have z2 := hz.2; go_simp; try with_reducible rfl)
    (try simp only [Act.put, List.setIfInBounds_toArray, List.set_cons_zero, List.set_cons_succ])
    refine PlanT.exec2 (fun K hK => ⟨by kernel_rfl, ?_⟩)
    go_simp
    refine (HPE.out _ _ _ _ HP6.out.rows.read).mono ?_
    rintro e u7 ⟨x7, rfl, ho7, hb7⟩
    have HP7 := Lib.hid (HP6.out.call hb7)
    have HKO7 := Lib.hid (HKO6.out.trans (keeps_below hb7))
    have HO7 := Lib.hid ho7
    clear ho7 hb7
    refine hK.out _ _ ⟨HP7.out.cellR, HP7.out.cellB⟩ trivial ?_
    clear hK K
    (try simp only [Act.put, List.setIfInBounds_toArray, List.set_cons_zero, List.set_cons_succ])
    refine PlanT.exec3 (fun K hK => ⟨by kernel_rfl, ?_⟩)
    refine wp_append_at (.tmp 62) (.tmp 69) 24 rfl 5 1 1 (.int .u8 0) Tryz.underlying24 info_u8 rfl (by decide) _ _ _ _ _ _ rfl rfl HP7.out.own0 HO7.out.read (bv_oneCell _) (by have h1 := HTL.out; have h2 := HFL.out; have h5 := frRaw_length F; have h3 := HEL.out ((tabQ LL).length : Int) (((tabQ LL).length : Int) + ((frRaw F).length : Int)); (try simp only [List.length_append]); omega) (by have h1 := HTL.out; have h2 := HFL.out; have h5 := frRaw_length F; have h3 := HEL.out ((tabQ LL).length : Int) (((tabQ LL).length : Int) + ((frRaw F).length : Int)); (try simp only [List.length_append]); unfold maxLen; omega) ?kU
    intro v8 w8 hown8 hmv8
    have HO8 := Lib.hid (own_moved HP7.out.own HP7.out.bl hown8 hmv8)
    have HB8 := Lib.hid (below_moved HP7.out.own HP7.out.bl HP7.out.be hmv8)
    have HKO8 := Lib.hid (HKO7.out.trans (keeps_moves HP7.out.own0 hmv8))
    clear hown8 hmv8
    refine hK.out _ _ trivial ?_
    clear hK K
    (try simp only [Act.put, List.setIfInBounds_toArray, List.set_cons_zero, List.set_cons_succ])
    refine PlanT.take1 (v := ?vU9) (by kernel_rfl) ?yU9 ?rU9
    case yU9 => (intro wz hz; go_simp; try with_reducible rfl)
    (try simp only [Act.put, List.setIfInBounds_toArray, List.set_cons_zero, List.set_cons_succ])
    refine PlanT.take1 (v := ?vU10) (by kernel_rfl) ?yU10 ?rU10
    case yU10 => (intro wz hz; go_simp; try with_reducible rfl)
    (try simp only [Act.put, List.setIfInBounds_toArray, List.set_cons_zero, List.set_cons_succ])
    refine PlanT.done (NoPanic.normal ?_)
    go_wp2
    have hKF := HKO8.out.same D _ HKD.out rfl
    refine ⟨by simp, .inl ⟨_, _, rfl, run_takeDeferred hKF, ?_⟩⟩
    refine ⟨_, results_tmp2 rfl _ _ _, v8, rfl, ?_, ?_⟩
    · have e : ((tabQ LL).length : Int) + ((frRaw F).length : Int) = (((tabQ LL).length + (F.length + 8) : Nat) : Int) := by rw [frRaw_length]; omega
      have h := HO8.out
      rw [e, List.append_assoc, ← HTAB.out F] at h
      rw [HFE.out]
      exact ownsRow_putObj h _ hKF rfl
    · exact HB8.out.trans (belowK_b (w := w) (Nat.le_refl _) w8 D _ _ (by have h1 := HDS.out; have h2 := HSZ.out; have h3 := HB1S.out; omega) hKF rfl rfl)

theorem puttab_any : PutTC := fun v es per b w hv _ _ hb => by
  by_cases h : putTErr es per = 0
  · obtain ⟨hm, h1, h2⟩ := putT_ok h
    obtain ⟨pn, rfl⟩ : ∃ pn : Nat, per = (pn : Int) := ⟨per.toNat, by omega⟩
    refine (putt_yes v es pn b w hv hm (by omega) (by omega) hb).mono ?_
    rintro e w' ⟨x, rfl, ho, hbe⟩
    exact ⟨x, by rw [h], by rw [if_pos h]; exact ho, hbe⟩
  · exact putt_no v es per b w hv h
end Go.Proofs.YteeikmpfgbfeoaaGreat

/-
  A table that is being read: a box with how many entries a block has, entries, rows, a filter; entries and rows in memory of the call's own.
-/
namespace Go.Proofs.YteeikmpfgbfeoaaGreat
open Go.RowKit

structure OB (W0 : World) (B q : Nat) (w : World) (per : Nat) (ve vr vf : Value) (es : List Ent) (rs : List Rw) : Prop where
  box : w.heap[q]? = some (.cells #[.int .i64 (per : Int), ve, vr, vf] 68 (0, 0))
  ents : OwnE w B ve es
  rows : OwnR w B vr rs
  ap : ∀ j, ve.ownBlock = some j → vr.ownBlock ≠ some j
  ea : ve.ownBlock ≠ some q
  ra : vr.ownBlock ≠ some q
  be : Below B W0 w
  bl : B ≤ w.heap.size
  hq : B ≤ q

/-- What lies beyond is not touched by an append and a store. -/
theorem row_past {w w1 : World} {D e sz n q i : Nat} {y vr v' u : Value} {cs : List Value} (h : w.ownsRow D e sz y n cs) (hm : Moves w w1 vr v') (hv : ∀ j, vr.ownBlock = some j → j < D) (hq : q < D) : (w1.setCell ⟨q, i, none⟩ u).ownsRow D e sz y n cs := by
  have k1 : Kept (fun k => D ≤ k ∧ k < w.heap.size) w w1 := hm.kept fun k hk => ⟨hk.2, fun e => by have := hv k e; omega⟩
  have k2 := k1.setCell (p := ⟨q, i, none⟩) (by show ¬ (D ≤ q ∧ q < w.heap.size); omega) u
  exact own_kept h k2 fun j hj => World.ownsRow.lt h j hj
theorem row_set {w : World} {D e sz n q i : Nat} {y u : Value} {cs : List Value} (h : w.ownsRow D e sz y n cs) (hq : q < D) : (w.setCell ⟨q, i, none⟩ u).ownsRow D e sz y n cs := row_past h (Moves.refl w (.slice none 0 0)) (fun _ h => by cases h) hq

section
variable {W0 : World} {B q per : Nat} {w w' w1 : World} {ve vr vf v' : Value} {es xs : List Ent} {rs m : List Rw}
theorem OB.cell (h : OB W0 B q w per ve vr vf es rs) (i : Nat) : w.cell? ⟨q, i, none⟩ = #[.int .i64 (per : Int), ve, vr, vf][i]? := blk_cell (i := i) h.box
theorem OB.free (h : OB W0 B q w per ve vr vf es rs) (i : Nat) : w.frozen? ⟨q, i, none⟩ = false := blk_free (i := i) h.box
theorem OB.ents0 (h : OB W0 B q w per ve vr vf es rs) : w.ownsRow 0 39 4 ve es.length (es.flatMap Ent.cells) := own_base h.ents fun _ _ => Nat.zero_le _
theorem OB.rows0 (h : OB W0 B q w per ve vr vf es rs) : w.ownsRow 0 60 5 vr rs.length (rs.flatMap Rw.cells) := own_base h.rows fun _ _ => Nat.zero_le _
theorem OB.call (h : OB W0 B q w per ve vr vf es rs) (hb : Below w.heap.size w w') : OB W0 B q w' per ve vr vf es rs where
  box := (hb.block q (blk_lt h.box)).trans h.box
  ents := OwnE.below h.ents hb
  rows := OwnR.below h.rows hb
  ap := h.ap
  ea := h.ea
  ra := h.ra
  be := h.be.trans (hb.mono h.bl)
  bl := Nat.le_trans h.bl hb.size
  hq := h.hq
/-- A store into the box. -/
theorem OB.store (h : OB W0 B q w per ve vr vf es rs) {i per' : Nat} {vf' u : Value} (hs : #[.int .i64 (per : Int), ve, vr, vf].setIfInBounds i u = #[.int .i64 (per' : Int), ve, vr, vf']) : OB W0 B q (w.setCell ⟨q, i, none⟩ u) per' ve vr vf' es rs where
  box := by rw [blk_set h.box, hs]
  ents := own_kept h.ents ((Kept.refl (fun k => k ≠ q) w).setCell (p := ⟨q, i, none⟩) (fun e => e rfl) u) fun k hk e => h.ea (by rw [← e]; exact hk)
  rows := own_kept h.rows ((Kept.refl (fun k => k ≠ q) w).setCell (p := ⟨q, i, none⟩) (fun e => e rfl) u) fun k hk e => h.ra (by rw [← e]; exact hk)
  ap := h.ap
  ea := h.ea
  ra := h.ra
  be := Kept.below ((Kept.of h.be (R := fun k => k < B) fun _ h => h).setCell (p := ⟨q, i, none⟩) (by show ¬ q < B; have := h.hq; omega) u) fun _ h => h
  bl := Nat.le_trans h.bl (((Kept.refl (fun k => k ≠ q) w).setCell (p := ⟨q, i, none⟩) (fun e => e rfl) u).size)
  hq := h.hq
/-- More entries: appended, and stored. -/
theorem OB.putE (h : OB W0 B q w per ve vr vf es rs) (ho : w1.ownsRow 0 39 4 v' (es.length + xs.length) (es.flatMap Ent.cells ++ xs.flatMap Ent.cells)) (hm : Moves w w1 ve v') :
    OB W0 B q (w1.setCell ⟨q, 1, none⟩ v') per v' vr vf (es ++ xs) rs ∧ w1.cell? ⟨q, 1, none⟩ = some ve ∧ w1.frozen? ⟨q, 1, none⟩ = false := by
  have k1 : Kept (fun k => k < w.heap.size ∧ ve.ownBlock ≠ some k) w w1 := hm.kept fun _ h => h
  have c1 : w1.heap[q]? = some (.cells #[.int .i64 (per : Int), ve, vr, vf] 68 (0, 0)) := (k1.block q ⟨blk_lt h.box, h.ea⟩).trans h.box
  have hat : ∀ j, v'.ownBlock = some j → j ≠ q ∧ B ≤ j ∧ vr.ownBlock ≠ some j := by
    intro j hj
    rcases hm.at_ j hj with e | e
    · exact ⟨fun e' => h.ea (by rw [← e']; exact e), (World.ownsRow.lt h.ents j e).1, h.ap j e⟩
    · refine ⟨fun e' => ?_, Nat.le_trans h.bl e.1, fun e' => ?_⟩
      · have := blk_lt h.box; omega
      · have := own_lt h.rows j e'; omega
  have ho1 : OwnE w1 B v' (es ++ xs) := by
    have := own_base ho fun k hk => (hat k hk).2.1
    unfold OwnE
    rw [List.length_append, List.flatMap_append]
    exact this
  have k2 : Kept (fun k => k ≠ q) w1 (w1.setCell ⟨q, 1, none⟩ v') := (Kept.refl _ w1).setCell (p := ⟨q, 1, none⟩) (fun e => e rfl) _
  refine ⟨⟨by rw [blk_set c1]; rfl, own_kept ho1 k2 fun k hk => (hat k hk).1, ?_, fun j hj e => (hat j hj).2.2 e, fun e => (hat q e).1 rfl, h.ra, ?_, ?_, h.hq⟩, blk_cell (i := 1) c1, blk_free c1⟩
  · exact own_kept (own_kept h.rows k1 fun k hk => ⟨own_lt h.rows k hk, fun e => h.ap k e hk⟩) k2 fun k hk e => h.ra (by rw [← e]; exact hk)
  · have hb : Below B W0 w1 := Kept.below ((Kept.of h.be (R := fun k => k < B) fun _ h => h).trans (k1.mono fun k hk => ⟨Nat.lt_of_lt_of_le hk h.bl, fun e => by have := (World.ownsRow.lt h.ents k e).1; omega⟩)) fun _ h => h
    exact Kept.below ((Kept.of hb (R := fun k => k < B) fun _ h => h).setCell (p := ⟨q, 1, none⟩) (by show ¬ q < B; have := h.hq; omega) _) fun _ h => h
  · exact Nat.le_trans h.bl (Nat.le_trans k1.size k2.size)
/-- More rows: appended, and stored. -/
theorem OB.putR (h : OB W0 B q w per ve vr vf es rs) (ho : w1.ownsRow 0 60 5 v' (rs.length + m.length) (rs.flatMap Rw.cells ++ m.flatMap Rw.cells)) (hm : Moves w w1 vr v') :
    OB W0 B q (w1.setCell ⟨q, 2, none⟩ v') per ve v' vf es (rs ++ m) ∧ w1.cell? ⟨q, 2, none⟩ = some vr ∧ w1.frozen? ⟨q, 2, none⟩ = false := by
  have k1 : Kept (fun k => k < w.heap.size ∧ vr.ownBlock ≠ some k) w w1 := hm.kept fun _ h => h
  have c1 : w1.heap[q]? = some (.cells #[.int .i64 (per : Int), ve, vr, vf] 68 (0, 0)) := (k1.block q ⟨blk_lt h.box, h.ra⟩).trans h.box
  have hat : ∀ j, v'.ownBlock = some j → j ≠ q ∧ B ≤ j ∧ ve.ownBlock ≠ some j := by
    intro j hj
    rcases hm.at_ j hj with e | e
    · exact ⟨fun e' => h.ra (by rw [← e']; exact e), (World.ownsRow.lt h.rows j e).1, fun e' => h.ap j e' e⟩
    · refine ⟨fun e' => ?_, Nat.le_trans h.bl e.1, fun e' => ?_⟩
      · have := blk_lt h.box; omega
      · have := own_lt h.ents j e'; omega
  have ho1 : OwnR w1 B v' (rs ++ m) := by
    have := own_base ho fun k hk => (hat k hk).2.1
    unfold OwnR
    rw [List.length_append, List.flatMap_append]
    exact this
  have k2 : Kept (fun k => k ≠ q) w1 (w1.setCell ⟨q, 2, none⟩ v') := (Kept.refl _ w1).setCell (p := ⟨q, 2, none⟩) (fun e => e rfl) _
  refine ⟨⟨by rw [blk_set c1]; rfl, ?_, own_kept ho1 k2 fun k hk => (hat k hk).1, fun j hj e => (hat j e).2.2 hj, h.ea, fun e => (hat q e).1 rfl, ?_, ?_, h.hq⟩, blk_cell (i := 2) c1, blk_free c1⟩
  · exact own_kept (own_kept h.ents k1 fun k hk => ⟨own_lt h.ents k hk, fun e => h.ap k hk e⟩) k2 fun k hk e => h.ea (by rw [← e]; exact hk)
  · have hb : Below B W0 w1 := Kept.below ((Kept.of h.be (R := fun k => k < B) fun _ h => h).trans (k1.mono fun k hk => ⟨Nat.lt_of_lt_of_le hk h.bl, fun e => by have := (World.ownsRow.lt h.rows k e).1; omega⟩)) fun _ h => h
    exact Kept.below ((Kept.of hb (R := fun k => k < B) fun _ h => h).setCell (p := ⟨q, 2, none⟩) (by show ¬ q < B; have := h.hq; omega) _) fun _ h => h
  · exact Nat.le_trans h.bl (Nat.le_trans k1.size k2.size)
end
end Go.Proofs.YteeikmpfgbfeoaaGreat

/-
  Tables: takes: whether a block of so many entries may be the next one.
-/
namespace Go.Proofs.YteeikmpfgbfeoaaGreat
open Go.RowKit

def okNext (n per ne nr : Nat) : Bool := decide (n ≤ per) && (ne == per * nr) && decide (ne + n ≤ 256)

set_option maxRecDepth 100000 in
set_option maxHeartbeats 400000 in
theorem takes_any {w : World} {q n per ne nr : Nat} {ea ra : Option Addr} {ec rc : Nat} {vf : Value} (hbox : w.heap[q]? = some (.cells #[.int .i64 (per : Int), .slice ea ne ec, .slice ra nr rc, vf] 68 (0, 0))) (hn : n ≤ 1000) (hp : per ≤ 1000) (he : ne ≤ 1000) (hr : nr ≤ 1000) :
    Calls Tryz.prog 90 #[.pointer (some ⟨q, 0, none⟩), .int .i64 (n : Int)] w fun e w' => e = .returned (.bool (okNext n per ne nr)) ∧ Below w.heap.size w w' := by
  have z0 : w.cell? ⟨q, 0, none⟩ = some (.int .i64 (per : Int)) := blk_cell (i := 0) hbox
  have z1 : w.cell? ⟨q, 1, none⟩ = some (.slice ea ne ec) := blk_cell (i := 1) hbox
  have z2 : w.cell? ⟨q, 2, none⟩ = some (.slice ra nr rc) := blk_cell (i := 2) hbox
  clear hbox
  obtain ⟨pr, hpr⟩ : ∃ pr, per * nr = pr := ⟨_, rfl⟩
  have hpb : pr ≤ 1000000 := by rw [← hpr]; exact Nat.mul_le_mul hp hr
  have hcast : (per : Int) * (nr : Int) = (pr : Int) := by rw [← hpr]; push_cast; rfl
  have e1 : IntKind.i64.wrap ((per : Int) * (nr : Int)) = (pr : Int) := by rw [hcast]; exact IntWalk.i64_in _ (by omega)
  have e3 : IntKind.i64.wrap (pr : Int) = (pr : Int) := IntWalk.i64_in _ (by omega)
  have e2 : IntKind.i64.wrap ((ne : Int) + (n : Int)) = (ne : Int) + (n : Int) := IntWalk.i64_in _ (by omega)
  unfold okNext
  rw [hpr]
  clear hpr
  cases b1 : decide (n ≤ per) with
  | false =>
    have d1 : decide ((n : Int) ≤ (per : Int)) = false := by simp at b1 ⊢; omega
    have d1' : ¬ n ≤ per := by simpa using b1
    have d1'' : per < n := by omega
    clear b1
    go_enter Tryz.func90, Tryz.ntmps90
    go_upto_region 1 with (fail)
    refine wp_region_plan [(true, 0), (true, 1), (true, 2), (true, 3), (true, 4), (true, 5), (true, 6), (true, 7), (true, 8), (true, 9), (true, 10), (true, 11), (true, 12), (true, 13), (true, 14), (true, 15), (true, 16), (true, 17), (true, 18), (true, 19), (true, 20), (true, 21), (true, 22), (true, 23), (true, 24), (true, 25), (true, 26), (true, 27), (true, 28), (true, 29), (true, 30), (true, 31), (true, 32), (true, 33), (true, 34)] (by kernel_rfl) (by kernel_rfl) (by kernel_rfl) (by kernel_rfl) (by kernel_rfl) ?_
    simp only [planO, List.drop_succ_cons, List.drop_zero]
    refine PlanO.take (v := ?vA0) (by kernel_rfl) ?yA0 ?rA0
    case yA0 => (intro wz hz; go_simp; try with_reducible rfl)
    (try simp only [Act.put, List.setIfInBounds_toArray, List.set_cons_zero, List.set_cons_succ])
    refine PlanO.take (v := ?vA1) (by kernel_rfl) ?yA1 ?rA1
    case yA1 => (intro wz hz; go_simp; try with_reducible rfl)
    (try simp only [Act.put, List.setIfInBounds_toArray, List.set_cons_zero, List.set_cons_succ])
    refine PlanO.take (v := ?vA2) (by kernel_rfl) ?yA2 ?rA2
    case yA2 => (intro wz hz; go_simp; try with_reducible rfl)
    (try simp only [Act.put, List.setIfInBounds_toArray, List.set_cons_zero, List.set_cons_succ])
    refine PlanO.take (v := ?vA3) (by kernel_rfl) ?yA3 ?rA3
    case yA3 => (intro wz hz; go_simp; try with_reducible rfl)
    (try simp only [Act.put, List.setIfInBounds_toArray, List.set_cons_zero, List.set_cons_succ])
    refine PlanO.take (v := ?vA4) (by kernel_rfl) ?yA4 ?rA4
    case yA4 => (intro wz hz; have c0 := Ext.at_ hz z0; have c1 := Ext.at_ hz z1; have c2 := Ext.at_ hz z2; go_simp; try with_reducible rfl)
    (try simp only [Act.put, List.setIfInBounds_toArray, List.set_cons_zero, List.set_cons_succ])
    refine PlanO.take (v := .bool false) (by kernel_rfl) ?yA5 ?rA5
    case yA5 => (intro wz hz; go_simp; try with_reducible rfl)
    (try simp only [Act.put, List.setIfInBounds_toArray, List.set_cons_zero, List.set_cons_succ])
    refine PlanO.take (v := .bool false) (by kernel_rfl) ?yA6 ?rA6
    case yA6 => (intro wz hz; go_simp; try with_reducible rfl)
    (try simp only [Act.put, List.setIfInBounds_toArray, List.set_cons_zero, List.set_cons_succ])
    refine PlanO.skip (by kernel_rfl) ?_
    (try simp only [Act.put, List.setIfInBounds_toArray, List.set_cons_zero, List.set_cons_succ])
    refine PlanO.skip (by kernel_rfl) ?_
    (try simp only [Act.put, List.setIfInBounds_toArray, List.set_cons_zero, List.set_cons_succ])
    refine PlanO.skip (by kernel_rfl) ?_
    (try simp only [Act.put, List.setIfInBounds_toArray, List.set_cons_zero, List.set_cons_succ])
    refine PlanO.skip (by kernel_rfl) ?_
    (try simp only [Act.put, List.setIfInBounds_toArray, List.set_cons_zero, List.set_cons_succ])
    refine PlanO.skip (by kernel_rfl) ?_
    (try simp only [Act.put, List.setIfInBounds_toArray, List.set_cons_zero, List.set_cons_succ])
    refine PlanO.skip (by kernel_rfl) ?_
    (try simp only [Act.put, List.setIfInBounds_toArray, List.set_cons_zero, List.set_cons_succ])
    refine PlanO.skip (by kernel_rfl) ?_
    (try simp only [Act.put, List.setIfInBounds_toArray, List.set_cons_zero, List.set_cons_succ])
    refine PlanO.skip (by kernel_rfl) ?_
    (try simp only [Act.put, List.setIfInBounds_toArray, List.set_cons_zero, List.set_cons_succ])
    refine PlanO.skip (by kernel_rfl) ?_
    (try simp only [Act.put, List.setIfInBounds_toArray, List.set_cons_zero, List.set_cons_succ])
    refine PlanO.skip (by kernel_rfl) ?_
    (try simp only [Act.put, List.setIfInBounds_toArray, List.set_cons_zero, List.set_cons_succ])
    refine PlanO.skip (by kernel_rfl) ?_
    (try simp only [Act.put, List.setIfInBounds_toArray, List.set_cons_zero, List.set_cons_succ])
    refine PlanO.skip (by kernel_rfl) ?_
    (try simp only [Act.put, List.setIfInBounds_toArray, List.set_cons_zero, List.set_cons_succ])
    refine PlanO.skip (by kernel_rfl) ?_
    (try simp only [Act.put, List.setIfInBounds_toArray, List.set_cons_zero, List.set_cons_succ])
    refine PlanO.skip (by kernel_rfl) ?_
    (try simp only [Act.put, List.setIfInBounds_toArray, List.set_cons_zero, List.set_cons_succ])
    refine PlanO.skip (by kernel_rfl) ?_
    (try simp only [Act.put, List.setIfInBounds_toArray, List.set_cons_zero, List.set_cons_succ])
    refine PlanO.skip (by kernel_rfl) ?_
    (try simp only [Act.put, List.setIfInBounds_toArray, List.set_cons_zero, List.set_cons_succ])
    refine PlanO.take (v := .bool false) (by kernel_rfl) ?yA23 ?rA23
    case yA23 => (intro wz hz; go_simp; try with_reducible rfl)
    (try simp only [Act.put, List.setIfInBounds_toArray, List.set_cons_zero, List.set_cons_succ])
    refine PlanO.take (v := .bool false) (by kernel_rfl) ?yA24 ?rA24
    case yA24 => (intro wz hz; go_simp; try with_reducible rfl)
    (try simp only [Act.put, List.setIfInBounds_toArray, List.set_cons_zero, List.set_cons_succ])
    refine PlanO.skip (by kernel_rfl) ?_
    (try simp only [Act.put, List.setIfInBounds_toArray, List.set_cons_zero, List.set_cons_succ])
    refine PlanO.skip (by kernel_rfl) ?_
    (try simp only [Act.put, List.setIfInBounds_toArray, List.set_cons_zero, List.set_cons_succ])
    refine PlanO.skip (by kernel_rfl) ?_
    (try simp only [Act.put, List.setIfInBounds_toArray, List.set_cons_zero, List.set_cons_succ])
    refine PlanO.skip (by kernel_rfl) ?_
    (try simp only [Act.put, List.setIfInBounds_toArray, List.set_cons_zero, List.set_cons_succ])
    refine PlanO.skip (by kernel_rfl) ?_
    (try simp only [Act.put, List.setIfInBounds_toArray, List.set_cons_zero, List.set_cons_succ])
    refine PlanO.skip (by kernel_rfl) ?_
    (try simp only [Act.put, List.setIfInBounds_toArray, List.set_cons_zero, List.set_cons_succ])
    refine PlanO.skip (by kernel_rfl) ?_
    (try simp only [Act.put, List.setIfInBounds_toArray, List.set_cons_zero, List.set_cons_succ])
    refine PlanO.skip (by kernel_rfl) ?_
    (try simp only [Act.put, List.setIfInBounds_toArray, List.set_cons_zero, List.set_cons_succ])
    refine PlanO.take (v := ?vA33) (by kernel_rfl) ?yA33 ?rA33
    case yA33 => (intro wz hz; go_simp; try with_reducible rfl)
    (try simp only [Act.put, List.setIfInBounds_toArray, List.set_cons_zero, List.set_cons_succ])
    refine PlanO.take (v := ?vA34) (by kernel_rfl) ?yA34 ?rA34
    case yA34 => (intro wz hz; go_simp; try with_reducible rfl)
    (try simp only [Act.put, List.setIfInBounds_toArray, List.set_cons_zero, List.set_cons_succ])
    refine PlanO.done (NoPanic.normal ?_)
    go_wp2
    go_ret
    exact ⟨rfl, (Below.refl _ _).drew⟩
  | true =>
    have d1 : decide ((n : Int) ≤ (per : Int)) = true := by simp at b1 ⊢; omega
    have d1' : n ≤ per := by simpa using b1
    clear b1
    cases b2 : (ne == pr) with
    | false =>
      have d2 : (((ne : Nat) : Int) == (pr : Int)) = false := by simp at b2 ⊢; omega
      have d2' : ¬ ne = pr := by simpa using b2
      clear b2
      go_enter Tryz.func90, Tryz.ntmps90
      go_upto_region 1 with (fail)
      refine wp_region_plan [(true, 0), (true, 1), (true, 2), (true, 3), (true, 4), (true, 5), (true, 6), (true, 7), (true, 8), (true, 9), (true, 10), (true, 11), (true, 12), (true, 13), (true, 14), (true, 15), (true, 16), (true, 17), (true, 18), (true, 19), (true, 20), (true, 21), (true, 22), (true, 23), (true, 24), (true, 25), (true, 26), (true, 27), (true, 28), (true, 29), (true, 30), (true, 31), (true, 32), (true, 33), (true, 34)] (by kernel_rfl) (by kernel_rfl) (by kernel_rfl) (by kernel_rfl) (by kernel_rfl) ?_
      simp only [planO, List.drop_succ_cons, List.drop_zero]
      refine PlanO.take (v := ?vB0) (by kernel_rfl) ?yB0 ?rB0
      case yB0 => (intro wz hz; go_simp; try with_reducible rfl)
      (try simp only [Act.put, List.setIfInBounds_toArray, List.set_cons_zero, List.set_cons_succ])
      refine PlanO.take (v := ?vB1) (by kernel_rfl) ?yB1 ?rB1
      case yB1 => (intro wz hz; go_simp; try with_reducible rfl)
      (try simp only [Act.put, List.setIfInBounds_toArray, List.set_cons_zero, List.set_cons_succ])
      refine PlanO.take (v := ?vB2) (by kernel_rfl) ?yB2 ?rB2
      case yB2 => (intro wz hz; go_simp; try with_reducible rfl)
      (try simp only [Act.put, List.setIfInBounds_toArray, List.set_cons_zero, List.set_cons_succ])
      refine PlanO.take (v := ?vB3) (by kernel_rfl) ?yB3 ?rB3
      case yB3 => (intro wz hz; go_simp; try with_reducible rfl)
      (try simp only [Act.put, List.setIfInBounds_toArray, List.set_cons_zero, List.set_cons_succ])
      refine PlanO.take (v := ?vB4) (by kernel_rfl) ?yB4 ?rB4
      case yB4 => (intro wz hz; have c0 := Ext.at_ hz z0; have c1 := Ext.at_ hz z1; have c2 := Ext.at_ hz z2; go_simp; try with_reducible rfl)
      (try simp only [Act.put, List.setIfInBounds_toArray, List.set_cons_zero, List.set_cons_succ])
      refine PlanO.take (v := .bool true) (by kernel_rfl) ?yB5 ?rB5
      case yB5 => (intro wz hz; go_simp; try with_reducible rfl)
      (try simp only [Act.put, List.setIfInBounds_toArray, List.set_cons_zero, List.set_cons_succ])
      refine PlanO.take (v := .bool true) (by kernel_rfl) ?yB6 ?rB6
      case yB6 => (intro wz hz; go_simp; try with_reducible rfl)
      (try simp only [Act.put, List.setIfInBounds_toArray, List.set_cons_zero, List.set_cons_succ])
      refine PlanO.take (v := ?vB7) (by kernel_rfl) ?yB7 ?rB7
      case yB7 => (intro wz hz; go_simp; try with_reducible rfl)
      (try simp only [Act.put, List.setIfInBounds_toArray, List.set_cons_zero, List.set_cons_succ])
      refine PlanO.take (v := ?vB8) (by kernel_rfl) ?yB8 ?rB8
      case yB8 => (intro wz hz; go_simp; try with_reducible rfl)
      (try simp only [Act.put, List.setIfInBounds_toArray, List.set_cons_zero, List.set_cons_succ])
      refine PlanO.take (v := ?vB9) (by kernel_rfl) ?yB9 ?rB9
      case yB9 => (intro wz hz; go_simp; try with_reducible rfl)
      (try simp only [Act.put, List.setIfInBounds_toArray, List.set_cons_zero, List.set_cons_succ])
      refine PlanO.take (v := ?vB10) (by kernel_rfl) ?yB10 ?rB10
      case yB10 => (intro wz hz; have c0 := Ext.at_ hz z0; have c1 := Ext.at_ hz z1; have c2 := Ext.at_ hz z2; go_simp; try with_reducible rfl)
      (try simp only [Act.put, List.setIfInBounds_toArray, List.set_cons_zero, List.set_cons_succ])
      refine PlanO.take (v := ?vB11) (by kernel_rfl) ?yB11 ?rB11
      case yB11 => (intro wz hz; go_simp; try with_reducible rfl)
      (try simp only [Act.put, List.setIfInBounds_toArray, List.set_cons_zero, List.set_cons_succ])
      refine PlanO.take (v := ?vB12) (by kernel_rfl) ?yB12 ?rB12
      case yB12 => (intro wz hz; go_simp; try with_reducible rfl)
      (try simp only [Act.put, List.setIfInBounds_toArray, List.set_cons_zero, List.set_cons_succ])
      refine PlanO.take (v := ?vB13) (by kernel_rfl) ?yB13 ?rB13
      case yB13 => (intro wz hz; go_simp; try with_reducible rfl)
      (try simp only [Act.put, List.setIfInBounds_toArray, List.set_cons_zero, List.set_cons_succ])
      refine PlanO.take (v := ?vB14) (by kernel_rfl) ?yB14 ?rB14
      case yB14 => (intro wz hz; go_simp; try with_reducible rfl)
      (try simp only [Act.put, List.setIfInBounds_toArray, List.set_cons_zero, List.set_cons_succ])
      refine PlanO.take (v := ?vB15) (by kernel_rfl) ?yB15 ?rB15
      case yB15 => (intro wz hz; have c0 := Ext.at_ hz z0; have c1 := Ext.at_ hz z1; have c2 := Ext.at_ hz z2; go_simp; try with_reducible rfl)
      (try simp only [Act.put, List.setIfInBounds_toArray, List.set_cons_zero, List.set_cons_succ])
      refine PlanO.take (v := ?vB16) (by kernel_rfl) ?yB16 ?rB16
      case yB16 => (intro wz hz; go_simp; try with_reducible rfl)
      (try simp only [Act.put, List.setIfInBounds_toArray, List.set_cons_zero, List.set_cons_succ])
      refine PlanO.take (v := ?vB17) (by kernel_rfl) ?yB17 ?rB17
      case yB17 => (intro wz hz; go_simp; try with_reducible rfl)
      (try simp only [Act.put, List.setIfInBounds_toArray, List.set_cons_zero, List.set_cons_succ])
      refine PlanO.take (v := ?vB18) (by kernel_rfl) ?yB18 ?rB18
      case yB18 => (intro wz hz; go_simp; try with_reducible rfl)
      (try simp only [Act.put, List.setIfInBounds_toArray, List.set_cons_zero, List.set_cons_succ])
      refine PlanO.take (v := ?vB19) (by kernel_rfl) ?yB19 ?rB19
      case yB19 => (intro wz hz; have c0 := Ext.at_ hz z0; have c1 := Ext.at_ hz z1; have c2 := Ext.at_ hz z2; go_simp; try with_reducible rfl)
      (try simp only [Act.put, List.setIfInBounds_toArray, List.set_cons_zero, List.set_cons_succ])
      refine PlanO.take (v := ?vB20) (by kernel_rfl) ?yB20 ?rB20
      case yB20 => (intro wz hz; go_simp; try with_reducible rfl)
      (try simp only [Act.put, List.setIfInBounds_toArray, List.set_cons_zero, List.set_cons_succ])
      refine PlanO.take (v := .int .i64 (pr : Int)) (by kernel_rfl) ?yB21 ?rB21
      case yB21 => (intro wz hz; go_simp; try with_reducible rfl)
      (try simp only [Act.put, List.setIfInBounds_toArray, List.set_cons_zero, List.set_cons_succ])
      refine PlanO.take (v := .bool false) (by kernel_rfl) ?yB22 ?rB22
      case yB22 => (intro wz hz; go_simp; try with_reducible rfl)
      (try simp only [Act.put, List.setIfInBounds_toArray, List.set_cons_zero, List.set_cons_succ])
      refine PlanO.take (v := .bool false) (by kernel_rfl) ?yB23 ?rB23
      case yB23 => (intro wz hz; go_simp; try with_reducible rfl)
      (try simp only [Act.put, List.setIfInBounds_toArray, List.set_cons_zero, List.set_cons_succ])
      refine PlanO.take (v := .bool false) (by kernel_rfl) ?yB24 ?rB24
      case yB24 => (intro wz hz; go_simp; try with_reducible rfl)
      (try simp only [Act.put, List.setIfInBounds_toArray, List.set_cons_zero, List.set_cons_succ])
      refine PlanO.skip (by kernel_rfl) ?_
      (try simp only [Act.put, List.setIfInBounds_toArray, List.set_cons_zero, List.set_cons_succ])
      refine PlanO.skip (by kernel_rfl) ?_
      (try simp only [Act.put, List.setIfInBounds_toArray, List.set_cons_zero, List.set_cons_succ])
      refine PlanO.skip (by kernel_rfl) ?_
      (try simp only [Act.put, List.setIfInBounds_toArray, List.set_cons_zero, List.set_cons_succ])
      refine PlanO.skip (by kernel_rfl) ?_
      (try simp only [Act.put, List.setIfInBounds_toArray, List.set_cons_zero, List.set_cons_succ])
      refine PlanO.skip (by kernel_rfl) ?_
      (try simp only [Act.put, List.setIfInBounds_toArray, List.set_cons_zero, List.set_cons_succ])
      refine PlanO.skip (by kernel_rfl) ?_
      (try simp only [Act.put, List.setIfInBounds_toArray, List.set_cons_zero, List.set_cons_succ])
      refine PlanO.skip (by kernel_rfl) ?_
      (try simp only [Act.put, List.setIfInBounds_toArray, List.set_cons_zero, List.set_cons_succ])
      refine PlanO.skip (by kernel_rfl) ?_
      (try simp only [Act.put, List.setIfInBounds_toArray, List.set_cons_zero, List.set_cons_succ])
      refine PlanO.take (v := ?vB33) (by kernel_rfl) ?yB33 ?rB33
      case yB33 => (intro wz hz; go_simp; try with_reducible rfl)
      (try simp only [Act.put, List.setIfInBounds_toArray, List.set_cons_zero, List.set_cons_succ])
      refine PlanO.take (v := ?vB34) (by kernel_rfl) ?yB34 ?rB34
      case yB34 => (intro wz hz; go_simp; try with_reducible rfl)
      (try simp only [Act.put, List.setIfInBounds_toArray, List.set_cons_zero, List.set_cons_succ])
      refine PlanO.done (NoPanic.normal ?_)
      go_wp2
      go_ret
      exact ⟨rfl, (Below.refl _ _).drew⟩
    | true =>
      have d2 : (((ne : Nat) : Int) == (pr : Int)) = true := by simp at b2 ⊢; omega
      have d2' : ne = pr := by simpa using b2
      have HD := Lib.hid d2'
      clear b2 d2'
      have d3 : decide ((ne : Int) + (n : Int) ≤ 256) = decide (ne + n ≤ 256) := by
        by_cases h : ne + n ≤ 256
        · simp [h]; omega
        · simp [h]; omega
      go_enter Tryz.func90, Tryz.ntmps90
      go_upto_region 1 with (fail)
      refine wp_region_plan [(true, 0), (true, 1), (true, 2), (true, 3), (true, 4), (true, 5), (true, 6), (true, 7), (true, 8), (true, 9), (true, 10), (true, 11), (true, 12), (true, 13), (true, 14), (true, 15), (true, 16), (true, 17), (true, 18), (true, 19), (true, 20), (true, 21), (true, 22), (true, 23), (true, 24), (true, 25), (true, 26), (true, 27), (true, 28), (true, 29), (true, 30), (true, 31), (true, 32), (true, 33), (true, 34)] (by kernel_rfl) (by kernel_rfl) (by kernel_rfl) (by kernel_rfl) (by kernel_rfl) ?_
      simp only [planO, List.drop_succ_cons, List.drop_zero]
      refine PlanO.take (v := ?vC0) (by kernel_rfl) ?yC0 ?rC0
      case yC0 => (intro wz hz; go_simp; try with_reducible rfl)
      (try simp only [Act.put, List.setIfInBounds_toArray, List.set_cons_zero, List.set_cons_succ])
      refine PlanO.take (v := ?vC1) (by kernel_rfl) ?yC1 ?rC1
      case yC1 => (intro wz hz; go_simp; try with_reducible rfl)
      (try simp only [Act.put, List.setIfInBounds_toArray, List.set_cons_zero, List.set_cons_succ])
      refine PlanO.take (v := ?vC2) (by kernel_rfl) ?yC2 ?rC2
      case yC2 => (intro wz hz; go_simp; try with_reducible rfl)
      (try simp only [Act.put, List.setIfInBounds_toArray, List.set_cons_zero, List.set_cons_succ])
      refine PlanO.take (v := ?vC3) (by kernel_rfl) ?yC3 ?rC3
      case yC3 => (intro wz hz; go_simp; try with_reducible rfl)
      (try simp only [Act.put, List.setIfInBounds_toArray, List.set_cons_zero, List.set_cons_succ])
      refine PlanO.take (v := ?vC4) (by kernel_rfl) ?yC4 ?rC4
      case yC4 => (intro wz hz; have c0 := Ext.at_ hz z0; have c1 := Ext.at_ hz z1; have c2 := Ext.at_ hz z2; go_simp; try with_reducible rfl)
      (try simp only [Act.put, List.setIfInBounds_toArray, List.set_cons_zero, List.set_cons_succ])
      refine PlanO.take (v := .bool true) (by kernel_rfl) ?yC5 ?rC5
      case yC5 => (intro wz hz; go_simp; try with_reducible rfl)
      (try simp only [Act.put, List.setIfInBounds_toArray, List.set_cons_zero, List.set_cons_succ])
      refine PlanO.take (v := .bool true) (by kernel_rfl) ?yC6 ?rC6
      case yC6 => (intro wz hz; go_simp; try with_reducible rfl)
      (try simp only [Act.put, List.setIfInBounds_toArray, List.set_cons_zero, List.set_cons_succ])
      refine PlanO.take (v := ?vC7) (by kernel_rfl) ?yC7 ?rC7
      case yC7 => (intro wz hz; go_simp; try with_reducible rfl)
      (try simp only [Act.put, List.setIfInBounds_toArray, List.set_cons_zero, List.set_cons_succ])
      refine PlanO.take (v := ?vC8) (by kernel_rfl) ?yC8 ?rC8
      case yC8 => (intro wz hz; go_simp; try with_reducible rfl)
      (try simp only [Act.put, List.setIfInBounds_toArray, List.set_cons_zero, List.set_cons_succ])
      refine PlanO.take (v := ?vC9) (by kernel_rfl) ?yC9 ?rC9
      case yC9 => (intro wz hz; go_simp; try with_reducible rfl)
      (try simp only [Act.put, List.setIfInBounds_toArray, List.set_cons_zero, List.set_cons_succ])
      refine PlanO.take (v := ?vC10) (by kernel_rfl) ?yC10 ?rC10
      case yC10 => (intro wz hz; have c0 := Ext.at_ hz z0; have c1 := Ext.at_ hz z1; have c2 := Ext.at_ hz z2; go_simp; try with_reducible rfl)
      (try simp only [Act.put, List.setIfInBounds_toArray, List.set_cons_zero, List.set_cons_succ])
      refine PlanO.take (v := ?vC11) (by kernel_rfl) ?yC11 ?rC11
      case yC11 => (intro wz hz; go_simp; try with_reducible rfl)
      (try simp only [Act.put, List.setIfInBounds_toArray, List.set_cons_zero, List.set_cons_succ])
      refine PlanO.take (v := ?vC12) (by kernel_rfl) ?yC12 ?rC12
      case yC12 => (intro wz hz; go_simp; try with_reducible rfl)
      (try simp only [Act.put, List.setIfInBounds_toArray, List.set_cons_zero, List.set_cons_succ])
      refine PlanO.take (v := ?vC13) (by kernel_rfl) ?yC13 ?rC13
      case yC13 => (intro wz hz; go_simp; try with_reducible rfl)
      (try simp only [Act.put, List.setIfInBounds_toArray, List.set_cons_zero, List.set_cons_succ])
      refine PlanO.take (v := ?vC14) (by kernel_rfl) ?yC14 ?rC14
      case yC14 => (intro wz hz; go_simp; try with_reducible rfl)
      (try simp only [Act.put, List.setIfInBounds_toArray, List.set_cons_zero, List.set_cons_succ])
      refine PlanO.take (v := ?vC15) (by kernel_rfl) ?yC15 ?rC15
      case yC15 => (intro wz hz; have c0 := Ext.at_ hz z0; have c1 := Ext.at_ hz z1; have c2 := Ext.at_ hz z2; go_simp; try with_reducible rfl)
      (try simp only [Act.put, List.setIfInBounds_toArray, List.set_cons_zero, List.set_cons_succ])
      refine PlanO.take (v := ?vC16) (by kernel_rfl) ?yC16 ?rC16
      case yC16 => (intro wz hz; go_simp; try with_reducible rfl)
      (try simp only [Act.put, List.setIfInBounds_toArray, List.set_cons_zero, List.set_cons_succ])
      refine PlanO.take (v := ?vC17) (by kernel_rfl) ?yC17 ?rC17
      case yC17 => (intro wz hz; go_simp; try with_reducible rfl)
      (try simp only [Act.put, List.setIfInBounds_toArray, List.set_cons_zero, List.set_cons_succ])
      refine PlanO.take (v := ?vC18) (by kernel_rfl) ?yC18 ?rC18
      case yC18 => (intro wz hz; go_simp; try with_reducible rfl)
      (try simp only [Act.put, List.setIfInBounds_toArray, List.set_cons_zero, List.set_cons_succ])
      refine PlanO.take (v := ?vC19) (by kernel_rfl) ?yC19 ?rC19
      case yC19 => (intro wz hz; have c0 := Ext.at_ hz z0; have c1 := Ext.at_ hz z1; have c2 := Ext.at_ hz z2; go_simp; try with_reducible rfl)
      (try simp only [Act.put, List.setIfInBounds_toArray, List.set_cons_zero, List.set_cons_succ])
      refine PlanO.take (v := ?vC20) (by kernel_rfl) ?yC20 ?rC20
      case yC20 => (intro wz hz; go_simp; try with_reducible rfl)
      (try simp only [Act.put, List.setIfInBounds_toArray, List.set_cons_zero, List.set_cons_succ])
      refine PlanO.take (v := .int .i64 (pr : Int)) (by kernel_rfl) ?yC21 ?rC21
      case yC21 => (intro wz hz; go_simp; try with_reducible rfl)
      (try simp only [Act.put, List.setIfInBounds_toArray, List.set_cons_zero, List.set_cons_succ])
      refine PlanO.take (v := .bool true) (by kernel_rfl) ?yC22 ?rC22
      case yC22 => (intro wz hz; go_simp; try with_reducible rfl)
      (try simp only [Act.put, List.setIfInBounds_toArray, List.set_cons_zero, List.set_cons_succ])
      refine PlanO.take (v := .bool true) (by kernel_rfl) ?yC23 ?rC23
      case yC23 => (intro wz hz; go_simp; try with_reducible rfl)
      (try simp only [Act.put, List.setIfInBounds_toArray, List.set_cons_zero, List.set_cons_succ])
      refine PlanO.take (v := .bool true) (by kernel_rfl) ?yC24 ?rC24
      case yC24 => (intro wz hz; go_simp; try with_reducible rfl)
      (try simp only [Act.put, List.setIfInBounds_toArray, List.set_cons_zero, List.set_cons_succ])
      refine PlanO.take (v := ?vC25) (by kernel_rfl) ?yC25 ?rC25
      case yC25 => (intro wz hz; go_simp; try with_reducible rfl)
      (try simp only [Act.put, List.setIfInBounds_toArray, List.set_cons_zero, List.set_cons_succ])
      refine PlanO.take (v := ?vC26) (by kernel_rfl) ?yC26 ?rC26
      case yC26 => (intro wz hz; go_simp; try with_reducible rfl)
      (try simp only [Act.put, List.setIfInBounds_toArray, List.set_cons_zero, List.set_cons_succ])
      refine PlanO.take (v := ?vC27) (by kernel_rfl) ?yC27 ?rC27
      case yC27 => (intro wz hz; go_simp; try with_reducible rfl)
      (try simp only [Act.put, List.setIfInBounds_toArray, List.set_cons_zero, List.set_cons_succ])
      refine PlanO.take (v := ?vC28) (by kernel_rfl) ?yC28 ?rC28
      case yC28 => (intro wz hz; have c0 := Ext.at_ hz z0; have c1 := Ext.at_ hz z1; have c2 := Ext.at_ hz z2; go_simp; try with_reducible rfl)
      (try simp only [Act.put, List.setIfInBounds_toArray, List.set_cons_zero, List.set_cons_succ])
      refine PlanO.take (v := ?vC29) (by kernel_rfl) ?yC29 ?rC29
      case yC29 => (intro wz hz; go_simp; try with_reducible rfl)
      (try simp only [Act.put, List.setIfInBounds_toArray, List.set_cons_zero, List.set_cons_succ])
      refine PlanO.take (v := ?vC30) (by kernel_rfl) ?yC30 ?rC30
      case yC30 => (intro wz hz; go_simp; try with_reducible rfl)
      (try simp only [Act.put, List.setIfInBounds_toArray, List.set_cons_zero, List.set_cons_succ])
      refine PlanO.take (v := ?vC31) (by kernel_rfl) ?yC31 ?rC31
      case yC31 => (intro wz hz; go_simp; try with_reducible rfl)
      (try simp only [Act.put, List.setIfInBounds_toArray, List.set_cons_zero, List.set_cons_succ])
      refine PlanO.take (v := .bool (decide (ne + n ≤ 256))) (by kernel_rfl) ?yC32 ?rC32
      case yC32 => (intro wz hz; go_simp; try with_reducible rfl)
      (try simp only [Act.put, List.setIfInBounds_toArray, List.set_cons_zero, List.set_cons_succ])
      refine PlanO.take (v := .bool (decide (ne + n ≤ 256))) (by kernel_rfl) ?yC33 ?rC33
      case yC33 => (intro wz hz; go_simp; try with_reducible rfl)
      (try simp only [Act.put, List.setIfInBounds_toArray, List.set_cons_zero, List.set_cons_succ])
      refine PlanO.take (v := ?vC34) (by kernel_rfl) ?yC34 ?rC34
      case yC34 => (intro wz hz; go_simp; try with_reducible rfl)
      (try simp only [Act.put, List.setIfInBounds_toArray, List.set_cons_zero, List.set_cons_succ])
      refine PlanO.done (NoPanic.normal ?_)
      go_wp2
      go_ret
      exact ⟨by simp, (Below.refl _ _).drew⟩
end Go.Proofs.YteeikmpfgbfeoaaGreat
