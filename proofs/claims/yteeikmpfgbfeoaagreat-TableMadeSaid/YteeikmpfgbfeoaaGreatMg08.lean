import Derived.Test.YteeikmpfgbfeoaaGreatMg04
import Derived.RangeFuncNested
import Derived.RangeFuncBound
import Derived.RangeFuncCalls
import Derived.OrdersIn
import Derived.TacticsIn
import Derived.Test.YteeikmpfgbfeoaaGreatOwnEnt
import Derived.Test.YteeikmpfgbfeoaaGreatMoves
import Derived.Test.YteeikmpfgbfeoaaGreatBlkRPut
import Derived.Test.YteeikmpfgbfeoaaGreatMg00
import Derived.Test.YteeikmpfgbfeoaaGreatBlkShared
import Derived.Test.YteeikmpfgbfeoaaGreatKeyMay
import Derived.Deep.QuietTactic
import Derived.BigQuiet
import Derived.Test.YteeikmpfgbfeoaaGreatKeyGood
import Derived.Test.YteeikmpfgbfeoaaGreatRegion
import Derived.Test.YteeikmpfgbfeoaaGreatKeyRefCmp
import Derived.Test.YteeikmpfgbfeoaaGreatBlkGet
import Derived.Deep.Cut
import Derived.Test.YteeikmpfgbfeoaaGreatMg02
import Derived.Test.YteeikmpfgbfeoaaGreatMg06

/-
  A region whose order is open, in a round of a range over a function, at the wide fence: what is shown of it as of any region serves there.
-/
namespace Go.Proofs.YteeikmpfgbfeoaaGreat
open Go.RowKit
section
variable {P : Program} {ops : Array Oper} {Q : Exit → Act → World → Prop} {l n : Nat}

theorem rowsIn_wide {row : String} {args : Array Value} {w : World} {R : Value → World → Prop} (h : Rows P row args w R) : RowsIn Fence.wide n P row args w R := by
  intro c cs hr
  obtain ⟨v, w', r, s⟩ := h c cs
  exact ⟨v, w', r, stepsIn_wide.2 s⟩

theorem wp_in_round {o : Oper} {a : Act} {w : World} {K : Act → World → Prop} (hd : ∀ c, o.op ≠ .defer c) (h : Oper.wp P o a w K Q) : Oper.wpIn (Fence.wide.inRound l) n P o a w K Q := by
  unfold Oper.wpIn
  refine ⟨fun _ _ => trivial, ?_⟩
  rw [show (Fence.wide.inRound l).round = some l from rfl, Oper.semAt_some l _ _ hd]
  unfold Oper.wp at h
  generalize (execOp a.eval o).run P w = r at *
  cases r with
  | ok x w' =>
    cases x with
    | value v => exact h
    | skip => exact h
    | defer d => exact h
    | enter f args => 
      refine ⟨fun h => (by cases h), CallsIn.inRound l (callsIn_wide.2 ?_)⟩
      exact h
    | row row args => exact ⟨fun h => (by cases h), rowsIn_wide h⟩
    | round l' f tmps assign body => exact absurd h (by simp [Oper.upon])
    | _ => exact absurd h (by simp [Oper.upon])
  | halt x w' =>
    cases x with
    | panic v => exact h
    | _ => exact absurd h (by simp [Oper.upon])

/-- None is a defer statement. -/
def noDefer (ops : Array Oper) : Bool := ops.all fun o => match o.op with
  | .defer _ => false
  | _ => true

theorem wpOp_in_round {i : Nat} {a : Act} {w : World} {K : Act → World → Prop} (hd : noDefer ops = true) (hl : ¬ LetsOut Q) (h : wpOp P ops Q i K a w) : wpOpIn (Fence.wide.inRound l) n P ops Q i K a w := by
  unfold wpOp at h
  unfold wpOpIn
  split
  · rename_i hi
    rw [hi] at h
    exact h
  · rename_i o ho
    rw [ho] at h
    simp only at h
    have hdo : ∀ c, o.op ≠ .defer c := fun c hc => by
      have := (Array.all_eq_true_iff_forall_mem.1 hd) o (Array.mem_of_getElem? ho)
      rw [hc] at this
      cases this
    split
    · rename_i hw
      rw [if_pos hw] at h
      exact h.elim (fun h => wp_in_round hdo h) (fun h => absurd h.2 hl)
    · rename_i hw
      rw [if_neg hw] at h
      exact ⟨fun _ _ => trivial, h⟩

theorem wpAny_in_round (hd : noDefer ops = true) (hl : ¬ LetsOut Q) : ∀ (fuel : Nat) (listed : Array Bool) (a : Act) (w : World), wpAny P .any ops Q fuel listed a w → wpAnyIn (Fence.wide.inRound l) n P .any ops Q fuel listed a w
  | 0, _, _, _, h => h
  | fuel + 1, _, _, _, h => ⟨h.1, fun i hi => wpOpIn_mono (fun a' w' h' => wpAny_in_round hd hl fuel _ a' w' h') (wpOp_in_round hd hl (h.2 i hi))⟩

theorem noPanic_out (h : ¬ LetsOut Q) : ¬ LetsOut (NoPanic Q) := fun ⟨a, w, hq⟩ => h ⟨a, w, hq⟩

/-- **The region**, by a plan, in a round. -/
theorem wp_region_two_round {lo : List Oper} {id : Nat} {a : Act} {w : World} (S1 S2 : World → Prop) (p : List (Nat × Nat)) (EL : List Nat) (hd : noDefer lo.toArray = true) (hl : ¬ LetsOut Q) (hm : P.follows .mixedOrders = true) (hs : Region.noSelect lo.toArray = true) (hn : (p.length == lo.toArray.size) = true)
    (hi : (p.all fun x => decide (x.2 < lo.length)) = true) (hb : planTB lo.toArray EL false p (Array.replicate lo.toArray.size false) = true) (h1 : S1 w.drew) (h2 : S2 w.drew)
    (h : PlanT P lo.toArray (NoPanic Q) S1 S2 (planT lo p) a w.drew) : (Code.region id lo.toArray true).wpIn (Fence.wide.inRound l) n P Q a w := by
  refine wpIn_mono (Q := NoPanic Q) ?_ NoPanic.imp
  refine wpIn_region_any hm ?_
  have h1 := planT_sound (S1 := S1) (S2 := S2) (EL := EL) hs (Q := NoPanic Q) (fun _ _ _ _ h => h) p false _ a w.drew (Closed.start _) h2 (fun _ => h1) (fun h => by cases h) hi hb (by simp) h
  rw [beq_iff_eq.1 hn] at h1
  exact wpAny_in_round hd (noPanic_out hl) _ _ _ _ (wpAny_of_two _ _ _ _ h1)
end
end Go.Proofs.YteeikmpfgbfeoaaGreat

/-
  Tables: what the last frame says of a block: a last key, a place, a length; such rows in memory.
-/
namespace Go.Proofs.YteeikmpfgbfeoaaGreat
open Go.RowKit

/-- What the last frame says of a block. -/
structure Rw where
  u : ByteArray
  s : Int
  k : Int
  at_ : Int
  n : Int
def Rw.none_ : Rw := ⟨⟨#[]⟩, 0, 0, 0, 0⟩
def Rw.cells (r : Rw) : List Value := [.string r.u, .int .i64 r.s, .int .i64 r.k, .int .i64 r.at_, .int .i64 r.n]
abbrev rwV (r : Rw) : Value := .agg #[.string r.u, .int .i64 r.s, .int .i64 r.k, .int .i64 r.at_, .int .i64 r.n]

theorem info_rw : (Tryz.prog.info? 60).map (fun i => (i.zero, i.size, i.bytes)) = some (some (.agg #[.string ⟨#[]⟩, .int .i64 0, .int .i64 0, .int .i64 0, .int .i64 0]), 5, 48) := by kernel_rfl

theorem rwFlat_length : ∀ rs : List Rw, (rs.flatMap Rw.cells).length = rs.length * 5
  | [] => rfl
  | r :: rs => by
    rw [List.flatMap_cons, List.length_append, rwFlat_length rs, List.length_cons]
    simp only [Rw.cells, List.length_cons, List.length_nil]
    omega
theorem rwFlat_at : ∀ (rs : List Rw) (i t : Nat), i < rs.length → t < 5 → (rs.flatMap Rw.cells)[i * 5 + t]? = (rs.getD i Rw.none_).cells[t]?
  | [], i, t, h, _ => by simp at h
  | r :: rs, 0, t, _, ht => by
    rw [List.flatMap_cons, Nat.zero_mul, Nat.zero_add, List.getElem?_append_left (by simp [Rw.cells]; omega)]
    rfl
  | r :: rs, i + 1, t, h, ht => by
    rw [List.flatMap_cons, List.getElem?_append_right (by simp [Rw.cells]; omega)]
    have : (i + 1) * 5 + t - r.cells.length = i * 5 + t := by simp [Rw.cells]; omega
    rw [this, rwFlat_at rs i t (by simpa using h) ht]
    simp [List.getD]
theorem rwFlat_one (l : List Rw) : ∀ u ∈ l.flatMap Rw.cells, u.oneCell' = true := by
  intro u hu
  obtain ⟨o, _, ho⟩ := List.mem_flatMap.1 hu
  simp only [Rw.cells, List.mem_cons, List.not_mem_nil, or_false] at ho
  rcases ho with rfl | rfl | rfl | rfl | rfl <;> rfl

/-- The slice 'v' of rows lies in memory of the call's own, from block 'B' on. -/
def OwnR (w : World) (B : Nat) (v : Value) (rs : List Rw) : Prop := w.ownsRow B 60 5 v rs.length (rs.flatMap Rw.cells)
/-- The slice 'v' reads as the rows. -/
def RdR (w : World) (v : Value) (rs : List Rw) : Prop := Rd w 5 v rs.length (rs.flatMap Rw.cells)
theorem OwnR.read {w : World} {B : Nat} {v : Value} {rs : List Rw} (h : OwnR w B v rs) : RdR w v rs := rd_of_own h
theorem OwnR.below {w w' : World} {B : Nat} {v : Value} {rs : List Rw} (h : OwnR w B v rs) (hb : Below w.heap.size w w') : OwnR w' B v rs := by
  refine own_base (B := 0) (own_kept (own_base h (B' := 0) fun _ _ => Nat.zero_le _) (R := fun k => k < w.heap.size) (Kept.of hb fun _ h => h) fun k hk => (World.ownsRow.lt h k hk).2) fun k hk => (World.ownsRow.lt h k hk).1
theorem OwnR.form {w : World} {B : Nat} {v : Value} {rs : List Rw} (h : OwnR w B v rs) : ∃ a cap, v = .slice a rs.length cap ∧ rs.length ≤ cap ∧ cap ≤ maxLen := by
  obtain ⟨a, cap, rfl, h1, h2, _⟩ := rd_of_own h
  exact ⟨a, cap, rfl, h1, h2⟩
theorem RdR.below {w w' : World} {v : Value} {rs : List Rw} (h : RdR w v rs) {B : Nat} (hb : Below B w w') (hB : w.heap.size ≤ B) : RdR w' v rs := Rd.below h hb hB
theorem RdR.form {w : World} {v : Value} {rs : List Rw} (h : RdR w v rs) : ∃ a cap, v = .slice a rs.length cap ∧ rs.length ≤ cap ∧ cap ≤ maxLen := by
  obtain ⟨a, cap, rfl, h1, h2, _⟩ := h
  exact ⟨a, cap, rfl, h1, h2⟩
theorem own_monoR {w : World} {B B' : Nat} {v : Value} {rs : List Rw} (h : OwnR w B v rs) (hB : B' ≤ B) : OwnR w B' v rs := own_base h fun k hk => Nat.le_trans hB (World.ownsRow.lt h k hk).1
theorem RdR.one {w : World} {v : Value} {l : List Rw} (h : RdR w v l) : ∃ a c, v = .slice a l.length c ∧ ∀ i, i < l.length → ∃ b off, a = some ⟨b, off, none⟩ ∧ b < w.heap.size ∧ w.cell? ⟨b, off + i * 5, none⟩ = some (.string (l.getD i Rw.none_).u) ∧ w.cell? ⟨b, off + i * 5 + 1, none⟩ = some (.int .i64 (l.getD i Rw.none_).s) ∧
      w.cell? ⟨b, off + i * 5 + 2, none⟩ = some (.int .i64 (l.getD i Rw.none_).k) ∧ w.cell? ⟨b, off + i * 5 + 3, none⟩ = some (.int .i64 (l.getD i Rw.none_).at_) ∧ w.cell? ⟨b, off + i * 5 + 4, none⟩ = some (.int .i64 (l.getD i Rw.none_).n) := by
  obtain ⟨a, cap, rfl, h1, h2, h0, h3 | ⟨b, off, rfl, h4, h5⟩⟩ := h
  · exact ⟨a, cap, rfl, fun i hi => by omega⟩
  · refine ⟨_, cap, rfl, fun i hi => ⟨b, off, rfl, h4, ?_, ?_, ?_, ?_, ?_⟩⟩
    · exact h5 (i * 5) _ (rwFlat_at l i 0 hi (by omega))
    · rw [Nat.add_assoc]; exact h5 (i * 5 + 1) _ (rwFlat_at l i 1 hi (by omega))
    · rw [Nat.add_assoc]; exact h5 (i * 5 + 2) _ (rwFlat_at l i 2 hi (by omega))
    · rw [Nat.add_assoc]; exact h5 (i * 5 + 3) _ (rwFlat_at l i 3 hi (by omega))
    · rw [Nat.add_assoc]; exact h5 (i * 5 + 4) _ (rwFlat_at l i 4 hi (by omega))
/-- One row, laid by itself. -/
theorem one_rw (w : World) (r : Rw) : Rd (w.alloc (.cells #[.string r.u, .int .i64 r.s, .int .i64 r.k, .int .i64 r.at_, .int .i64 r.n] 60)) 5 (.slice (some ⟨w.heap.size, 0, none⟩) 1 1) 1 ([r].flatMap Rw.cells) := by
  refine ⟨_, 1, rfl, Nat.le_refl _, by unfold maxLen; omega, rfl, .inr ⟨w.heap.size, 0, rfl, by simp, fun j u hj => ?_⟩⟩
  rw [Nat.zero_add, cell_of_row _ w.heap.size j _ 60 (0, 0) (heap_alloc_new w _)]
  simpa [Rw.cells] using hj

theorem set5 {w w1 w2 w3 w4 w5 : World} {q t : Nat} {c0 c1 c2 c3 c4 v0 v1 v2 v3 v4 : Value} (h : w.heap[q]? = some (.cells #[c0, c1, c2, c3, c4] t (0, 0))) (h1 : w1 = w.setCell ⟨q, 0, none⟩ v0) (h2 : w2 = w1.setCell ⟨q, 1, none⟩ v1) (h3 : w3 = w2.setCell ⟨q, 2, none⟩ v2) (h4 : w4 = w3.setCell ⟨q, 3, none⟩ v3) (h5 : w5 = w4.setCell ⟨q, 4, none⟩ v4) :
    w5.heap[q]? = some (.cells #[v0, v1, v2, v3, v4] t (0, 0)) ∧ ∀ B, B ≤ q → ∀ a : World, Below B a w → Below B a w5 := by
  have r1 : w1.heap[q]? = some (.cells #[v0, c1, c2, c3, c4] t (0, 0)) := by rw [h1, blk_set h]; rfl
  have r2 : w2.heap[q]? = some (.cells #[v0, v1, c2, c3, c4] t (0, 0)) := by rw [h2, blk_set r1]; rfl
  have r3 : w3.heap[q]? = some (.cells #[v0, v1, v2, c3, c4] t (0, 0)) := by rw [h3, blk_set r2]; rfl
  have r4 : w4.heap[q]? = some (.cells #[v0, v1, v2, v3, c4] t (0, 0)) := by rw [h4, blk_set r3]; rfl
  have r5 : w5.heap[q]? = some (.cells #[v0, v1, v2, v3, v4] t (0, 0)) := by rw [h5, blk_set r4]; rfl
  refine ⟨r5, fun B hB a hb => ?_⟩
  have k0 := Kept.of hb (R := fun k => k < B) fun _ h => h
  have k1 : Kept (fun k => k < B) a w1 := by rw [h1]; exact k0.setCell (by show ¬ q < B; omega) _
  have k2 : Kept (fun k => k < B) a w2 := by rw [h2]; exact k1.setCell (by show ¬ q < B; omega) _
  have k3 : Kept (fun k => k < B) a w3 := by rw [h3]; exact k2.setCell (by show ¬ q < B; omega) _
  have k4 : Kept (fun k => k < B) a w4 := by rw [h4]; exact k3.setCell (by show ¬ q < B; omega) _
  have k5 : Kept (fun k => k < B) a w5 := by rw [h5]; exact k4.setCell (by show ¬ q < B; omega) _
  exact Kept.below k5 fun _ h => h

set_option maxRecDepth 100000 in
set_option maxHeartbeats 400000 in
/-- rowOf: the row of a block. -/
theorem rowOf_any (v : Value) (es : List Ent) (at_ n : Int) (w : World) (hv : RdE w v es) (hne : es ≠ []) :
    Calls Tryz.prog 22 #[v, .int .i64 at_, .int .i64 n] w fun e w' => e = .returned (rwV ⟨(es.getD (es.length - 1) Ent.none_).u, (es.getD (es.length - 1) Ent.none_).s, (es.getD (es.length - 1) Ent.none_).k, at_, n⟩) ∧ Below w.heap.size w w' := by
  have hp := List.length_pos_iff.2 hne
  obtain ⟨va, vc, rfl, hc1, hc2⟩ := hv.form
  unfold maxLen at hc2
  obtain ⟨_, _, hva, hone⟩ := hv.one
  cases hva
  obtain ⟨b, off, rfl, hbw, z0, z1, z2, _, _⟩ := hone (es.length - 1) (by omega)
  obtain ⟨m, hm⟩ : ∃ m, es.length = m + 1 := ⟨es.length - 1, by omega⟩
  rw [hm] at hc1 z0 z1 z2 ⊢
  rw [Nat.add_sub_cancel] at z0 z1 z2 ⊢
  generalize es.getD m Ent.none_ = X at *
  obtain ⟨xu, xs, xk, xv⟩ := X
  simp only at z0 z1 z2 ⊢
  have e1 : IntKind.i64.wrap (((m + 1 : Nat) : Int) - 1) = (m : Int) := by rw [IntWalk.i64_in _ (by omega)]; omega
  have e2 : ((m + 1 : Nat) : Int) - 1 = (m : Int) := by omega
  clear hone hm hv hp hne
  go_enter Tryz.func22, Tryz.ntmps22
  go_wp2
  refine bodyPost_ret (results_cell_row rfl _ _ w.heap.size 60 #[.string xu, .int .i64 xs, .int .i64 xk, .int .i64 at_, .int .i64 n] (0, 0) _ rfl (heap_alloc_new w _) Tryz.underlying60 rfl (by kernel_rfl)) rfl ?_
  exact ⟨rfl, (Below.refl _ _).alloc (Nat.le_refl _) _⟩
end Go.Proofs.YteeikmpfgbfeoaaGreat

/-
  Blocks: one entry as bytes, as the program tells it.
-/
namespace Go.Proofs.YteeikmpfgbfeoaaGreat
open Go.RowKit

theorem take_rest (u : ByteArray) (s : Nat) (hs : s ≤ u.size) : (u.extract s u.size).size ≤ u.size := by
  have := congrArg List.length (extract_drop u s)
  rw [size_list, List.length_drop, size_list] at this
  omega

set_option maxRecDepth 100000 in
set_option maxHeartbeats 1000000 in
theorem putEntry_any (u : ByteArray) (q k : Int) (v : ByteArray) (s : Nat) (hs : s ≤ u.size) (hm : Ent.may ⟨u, q, k, v⟩ = true) (w : World) :
    Calls Tryz.prog 44 #[.agg #[.string u, .int .i64 q, .int .i64 k, .string v], .int .i64 (s : Int)] w (RetB w.heap.size w (entB ⟨u, q, k, v⟩ s)) := by
  obtain ⟨m1, m2, m3, m4, m5⟩ := may_facts hm
  simp only at m1 m2 m3 m4 m5
  have su : u.size ≤ 64 := by rw [size_list] at m1; exact m1
  have sv : v.size ≤ 512 := by rw [size_list] at m5; exact m5
  have sr := take_rest u s hs
  have HX := Lib.hid (extract_drop u s)
  obtain ⟨nm, hnm⟩ : ∃ nm, numE ⟨u, q, k, v⟩ = nm := ⟨_, rfl⟩
  have HKP : Hid (∀ wz, Calls Tryz.prog 52 #[.agg #[.string (u.extract s u.size), .int .i64 q, .int .i64 k]] wz (RetB wz.heap.size wz (putT (u.data.toList.drop s) ++ putL nm))) := Lib.hid fun wz => by
    have := kput_yes (u.extract s u.size) q k (by omega) m2 m3 (by omega) (by omega) wz
    rw [HX.out] at this
    rw [← hnm]
    exact this
  have HVP : Hid (∀ wz, Calls Tryz.prog 77 #[.string v] wz (RetB wz.heap.size wz (putT v.data.toList))) := Lib.hid fun wz => putText_any v (by omega) wz
  have HLS := Lib.hid (putL_length s (by omega))
  have HLK : Hid ((putT (u.data.toList.drop s) ++ putL nm).length ≤ 200) := Lib.hid (by
    have h1 := putL_length nm (by rw [← hnm]; unfold numE; simp only; omega)
    have h2 := putT_le (u.data.toList.drop s) (by rw [List.length_drop, size_list]; omega)
    rw [List.length_drop, size_list] at h2
    rw [List.length_append]
    omega)
  have HLV : Hid ((putT v.data.toList).length ≤ 600) := Lib.hid (by have h2 := putT_le v.data.toList (by rw [size_list]; omega); rw [size_list] at h2; omega)
  have HEND : Hid (putL s ++ (putT (u.data.toList.drop s) ++ putL nm) ++ putT v.data.toList = entB ⟨u, q, k, v⟩ s) := Lib.hid (by unfold entB; rw [hnm]; simp only [List.append_assoc])
  have hs9 : (s : Int) ≤ 9223372036854775807 := by omega
  have hsu : (s : Int) ≤ (u.size : Int) := by omega
  clear m1 m5 hm sr hnm
  go_enter Tryz.func44, Tryz.ntmps44
  go_upto_region 3 with (fail)
  obtain ⟨w1, hw1⟩ : ∃ w1, w1 = ((w.alloc (.cells #[.string u, .int .i64 q, .int .i64 k, .string v] 39)).alloc (.cells #[.string (u.extract s u.size), .int .i64 q, .int .i64 k] 37)) := ⟨_, rfl⟩
  rw [← hw1]
  have hB : Below w.heap.size w w1 := by rw [hw1]; exact ((Below.refl _ _).alloc (Nat.le_refl _) _).alloc (by simp) _
  have d0 : w1.cell? ⟨w.heap.size + 1, 0, none⟩ = some (.string (u.extract s u.size)) := by rw [hw1]; go_simp
  have d1 : w1.cell? ⟨w.heap.size + 1, 1, none⟩ = some (.int .i64 q) := by rw [hw1]; go_simp
  have d2 : w1.cell? ⟨w.heap.size + 1, 2, none⟩ = some (.int .i64 k) := by rw [hw1]; go_simp
  have d3 : w1.cell? ⟨w.heap.size, 3, none⟩ = some (.string v) := by rw [hw1]; go_simp
  have HS1 := Lib.hid (show w.heap.size < w1.heap.size by rw [hw1]; simp; omega)
  clear hw1
  refine wp_region_plan [(true, 0), (true, 2), (false, 1), (false, 3), (false, 4), (true, 5)] (by kernel_rfl) (by kernel_rfl) (by kernel_rfl) (by kernel_rfl) (by kernel_rfl) ?_
  simp only [planO, List.drop_succ_cons, List.drop_zero]
  refine PlanO.take (v := ?v0) (by kernel_rfl) ?y0 ?r0
  case y0 => (intro wz hz; go_simp; try with_reducible rfl)
  (try simp only [Act.put, List.setIfInBounds_toArray, List.set_cons_zero, List.set_cons_succ])
  refine PlanO.take (v := .agg #[.string (u.extract s u.size), .int .i64 q, .int .i64 k]) (by kernel_rfl) ?y2 ?r2
  case y2 => (intro wz hz; have c0 := Ext.at_ hz d0; have c1 := Ext.at_ hz d1; have c2 := Ext.at_ hz d2; go_simp; try with_reducible rfl)
  (try simp only [Act.put, List.setIfInBounds_toArray, List.set_cons_zero, List.set_cons_succ])
  refine PlanO.keep (fun K hK => ?_)
  go_simp
  go_at_call 53
  refine (put_nat s hs9 _).mono ?_
  rintro e u1 ⟨p1, rfl, ho1, hb1⟩
  have hE1 : Ext w1.drew u1 := hb1
  go_wp2_with fail
  refine hK.out _ _ hb1 ?_
  clear hK K
  (try simp only [Act.put, List.setIfInBounds_toArray, List.set_cons_zero, List.set_cons_succ])
  refine PlanO.keep (fun K hK => ?_)
  go_simp
  go_at_call 52
  refine (HKP.out _).mono ?_
  rintro e u2 ⟨p2, rfl, ho2, hb2⟩
  have hr2 := ho2.read
  clear ho2
  have hE2 : Ext w1.drew u2 := Ext.trans hE1 hb2
  have ho1' := ho1.below hb2 (Nat.le_refl _)
  clear ho1
  go_wp2_with fail
  refine hK.out _ _ (hb2.mono hE1.size) ?_
  clear hK K
  (try simp only [Act.put, List.setIfInBounds_toArray, List.set_cons_zero, List.set_cons_succ])
  refine PlanO.keep (fun K hK => ?_)
  refine step_append_bytes rfl (.tmp 15) (.tmp 17) 24 rfl w1.drew.heap.size 5 Tryz.underlying24 info_u8 _ _ _ _ rfl rfl ho1' hr2 ?b1 ?b2 ?_
  case b1 => exact hE2.size
  case b2 => have := HLS.out; have := HLK.out; omega
  intro v' w' hown' hb'
  have hE3 : Ext w1.drew w' := hb' _ _ (Nat.le_refl _) hE2
  refine hK.out _ _ (hb' _ _ (Nat.le_refl _) (Below.refl _ _)) ?_
  clear hK K
  (try simp only [Act.put, List.setIfInBounds_toArray, List.set_cons_zero, List.set_cons_succ])
  refine PlanO.take (v := ?v5) (by kernel_rfl) ?y5 ?r5
  case y5 => (intro wz hz; go_simp; try with_reducible rfl)
  (try simp only [Act.put, List.setIfInBounds_toArray, List.set_cons_zero, List.set_cons_succ])
  refine PlanO.done (NoPanic.normal ?_)
  have x3 := Ext.at_ hE3 d3
  have hs3 : w1.drew.heap.size ≤ w'.heap.size := hE3.size
  go_wp2_with (first | (go_at_call 77; (refine (HVP.out _).mono ?_); rintro e u5 ⟨p5, rfl, ho5, hb5⟩; have hr5 := ho5.read; have ho6 := hown'.below hb5 (Nat.le_refl _); clear ho5) | (at_builtin; refine wpList_append_bytes rfl (.tmp 19) (.tmp 22) 24 rfl w1.drew.heap.size 5 Tryz.underlying24 info_u8 _ _ _ _ rfl rfl ho6 hr5 (Nat.le_trans hs3 hb5.size) (by have := HLS.out; have := HLK.out; have := HLV.out; simp only [List.length_append] at *; omega) ?ap))
  case ap =>
    intro v6 w6 hown6 hb6
    have h5 : Below w.heap.size w w6 := hb6 _ _ hB.size ((hB.trans ((below_draw hE3).mono hB.size)).trans (hb5.mono (Nat.le_trans hB.size hs3)))
    have HO6 : Hid (OwnB w6 w1.heap.size 5 v6 (entB ⟨u, q, k, v⟩ s)) := Lib.hid (by rw [← HEND.out]; simpa only [List.append_assoc] using hown6)
    have HB6 := Lib.hid h5
    have HSZ := Lib.hid hB.size
    clear hown6 h5 hb6
    go_wp2
    go_ret
    exact ⟨_, rfl, HO6.out.mono_B HSZ.out, HB6.out⟩
end Go.Proofs.YteeikmpfgbfeoaaGreat

/-
  Blocks: how many bytes two texts begin with alike, as the program counts.
-/
namespace Go.Proofs.YteeikmpfgbfeoaaGreat
open Go.RowKit

set_option maxRecDepth 100000 in
set_option maxHeartbeats 2000000 in
theorem common_any (a b : ByteArray) (ha : a.size ≤ maxLen) (w : World) :
    Calls Tryz.prog 43 #[.string a, .string b] w fun e w' => e = .returned (.int .i64 (comL a.data.toList b.data.toList : Int)) ∧ Below w.heap.size w w' := by
  have sa := size_list a
  have sb := size_list b
  unfold maxLen at ha
  obtain ⟨mn, hmn⟩ : ∃ mn : Int, min (a.size : Int) (b.size : Int) = mn := ⟨_, rfl⟩
  have hmn2 : (if b.size < a.size then (b.size : Int) else (a.size : Int)) = mn := by split <;> omega
  have hm1 : mn ≤ a.size ∧ mn ≤ b.size ∧ (mn = a.size ∨ mn = b.size) := by omega
  go_enter Tryz.func43, Tryz.ntmps43
  go_wp2
  go_loopw [5] (fun i wr => ∃ n : Nat, n ≤ a.size ∧ n ≤ b.size ∧ i = .int .i64 (n : Int) ∧ Hid (a.data.toList.take n = b.data.toList.take n) ∧ Hid (Below w.heap.size w wr)) (fun i _ => a.size - (intOf i).toNat)
  case atStart => exact ⟨0, Nat.zero_le _, Nat.zero_le _, rfl, Lib.hid rfl, Lib.hid (Below.refl _ _)⟩
  case round =>
    obtain ⟨n, hna, hnb, rfl, HT, HB⟩ := hrel
    by_cases g0 : (n : Int) < mn
    · have g1 : n < a.size := by omega
      have g2 : n < b.size := by omega
      obtain ⟨x, hx⟩ : ∃ x, a[n].toNat = x := ⟨_, rfl⟩
      obtain ⟨y, hy⟩ : ∃ y, b[n].toNat = y := ⟨_, rfl⟩
      have xa := getD_list a n g1
      have yb := getD_list b n g2
      by_cases hxy : x = y
      · have HN := Lib.hid (take_next (by omega) (by omega) HT.out (by rw [xa, yb]; exact UInt8.toNat_inj.1 (hx.trans (hxy.trans hy.symm))))
        clear xa yb
        go_upto_region 2 with (fail)
        refine wp_region_plan [(true, 0), (true, 1), (true, 2), (true, 3), (true, 4), (true, 5), (true, 6), (true, 7), (true, 8), (true, 9), (true, 10), (true, 11), (true, 12), (true, 13), (true, 14), (true, 15)] (by kernel_rfl) (by kernel_rfl) (by kernel_rfl) (by kernel_rfl) (by kernel_rfl) ?_
        simp only [planO, List.drop_succ_cons, List.drop_zero]
        refine PlanO.take (v := ?vC0) (by kernel_rfl) ?yC0 ?rC0
        case yC0 => (intro wz hz; go_simp; try with_reducible rfl)
        (try simp only [Act.put, List.setIfInBounds_toArray, List.set_cons_zero, List.set_cons_succ])
        refine PlanO.take (v := ?vC1) (by kernel_rfl) ?yC1 ?rC1
        case yC1 => (intro wz hz; go_simp; try with_reducible rfl)
        (try simp only [Act.put, List.setIfInBounds_toArray, List.set_cons_zero, List.set_cons_succ])
        refine PlanO.take (v := ?vC2) (by kernel_rfl) ?yC2 ?rC2
        case yC2 => (intro wz hz; go_simp; try with_reducible rfl)
        (try simp only [Act.put, List.setIfInBounds_toArray, List.set_cons_zero, List.set_cons_succ])
        refine PlanO.take (v := ?vC3) (by kernel_rfl) ?yC3 ?rC3
        case yC3 => (intro wz hz; go_simp; try with_reducible rfl)
        (try simp only [Act.put, List.setIfInBounds_toArray, List.set_cons_zero, List.set_cons_succ])
        refine PlanO.take (v := ?vC4) (by kernel_rfl) ?yC4 ?rC4
        case yC4 => (intro wz hz; go_simp; try with_reducible rfl)
        (try simp only [Act.put, List.setIfInBounds_toArray, List.set_cons_zero, List.set_cons_succ])
        refine PlanO.take (v := .int .i64 mn) (by kernel_rfl) ?yC5 ?rC5
        case yC5 => (intro wz hz; go_simp; try exact hmn2)
        (try simp only [Act.put, List.setIfInBounds_toArray, List.set_cons_zero, List.set_cons_succ])
        refine PlanO.take (v := .bool true) (by kernel_rfl) ?yC6 ?rC6
        case yC6 => (intro wz hz; go_simp; try simp; try omega)
        (try simp only [Act.put, List.setIfInBounds_toArray, List.set_cons_zero, List.set_cons_succ])
        refine PlanO.take (v := .bool true) (by kernel_rfl) ?yC7 ?rC7
        case yC7 => (intro wz hz; go_simp; try simp; try omega)
        (try simp only [Act.put, List.setIfInBounds_toArray, List.set_cons_zero, List.set_cons_succ])
        refine PlanO.take (v := ?vC8) (by kernel_rfl) ?yC8 ?rC8
        case yC8 => (intro wz hz; go_simp; try with_reducible rfl)
        (try simp only [Act.put, List.setIfInBounds_toArray, List.set_cons_zero, List.set_cons_succ])
        refine PlanO.take (v := ?vC9) (by kernel_rfl) ?yC9 ?rC9
        case yC9 => (intro wz hz; go_simp; try with_reducible rfl)
        (try simp only [Act.put, List.setIfInBounds_toArray, List.set_cons_zero, List.set_cons_succ])
        refine PlanO.take (v := .int .u8 (x : Int)) (by kernel_rfl) ?yC10 ?rC10
        case yC10 => (intro wz hz; go_simp; try simpa using hx)
        (try simp only [Act.put, List.setIfInBounds_toArray, List.set_cons_zero, List.set_cons_succ])
        refine PlanO.take (v := ?vC11) (by kernel_rfl) ?yC11 ?rC11
        case yC11 => (intro wz hz; go_simp; try with_reducible rfl)
        (try simp only [Act.put, List.setIfInBounds_toArray, List.set_cons_zero, List.set_cons_succ])
        refine PlanO.take (v := ?vC12) (by kernel_rfl) ?yC12 ?rC12
        case yC12 => (intro wz hz; go_simp; try with_reducible rfl)
        (try simp only [Act.put, List.setIfInBounds_toArray, List.set_cons_zero, List.set_cons_succ])
        refine PlanO.take (v := .int .u8 (y : Int)) (by kernel_rfl) ?yC13 ?rC13
        case yC13 => (intro wz hz; go_simp; try simpa using hy)
        (try simp only [Act.put, List.setIfInBounds_toArray, List.set_cons_zero, List.set_cons_succ])
        refine PlanO.take (v := .bool true) (by kernel_rfl) ?yC14 ?rC14
        case yC14 => (intro wz hz; go_simp; (try simp [hxy]))
        (try simp only [Act.put, List.setIfInBounds_toArray, List.set_cons_zero, List.set_cons_succ])
        refine PlanO.take (v := .bool true) (by kernel_rfl) ?yC15 ?rC15
        case yC15 => (intro wz hz; go_simp; try simp; try omega)
        (try simp only [Act.put, List.setIfInBounds_toArray, List.set_cons_zero, List.set_cons_succ])
        refine PlanO.done (NoPanic.normal ?_)
        go_wp2
        exact ⟨⟨n + 1, by omega, by omega, by go_num, HN, Lib.hid HB.out.drew⟩, by simp [intOf]; omega⟩
      · have HR := Lib.hid (comL_at a.data.toList b.data.toList n (by omega) (by omega) HT.out (.inr (.inr (by rw [xa, yb]; exact fun e => hxy (hx.symm.trans ((congrArg UInt8.toNat e).trans hy))))))
        clear xa yb
        go_upto_region 2 with (fail)
        refine wp_region_plan [(true, 0), (true, 1), (true, 2), (true, 3), (true, 4), (true, 5), (true, 6), (true, 7), (true, 8), (true, 9), (true, 10), (true, 11), (true, 12), (true, 13), (true, 14), (true, 15)] (by kernel_rfl) (by kernel_rfl) (by kernel_rfl) (by kernel_rfl) (by kernel_rfl) ?_
        simp only [planO, List.drop_succ_cons, List.drop_zero]
        refine PlanO.take (v := ?vD0) (by kernel_rfl) ?yD0 ?rD0
        case yD0 => (intro wz hz; go_simp; try with_reducible rfl)
        (try simp only [Act.put, List.setIfInBounds_toArray, List.set_cons_zero, List.set_cons_succ])
        refine PlanO.take (v := ?vD1) (by kernel_rfl) ?yD1 ?rD1
        case yD1 => (intro wz hz; go_simp; try with_reducible rfl)
        (try simp only [Act.put, List.setIfInBounds_toArray, List.set_cons_zero, List.set_cons_succ])
        refine PlanO.take (v := ?vD2) (by kernel_rfl) ?yD2 ?rD2
        case yD2 => (intro wz hz; go_simp; try with_reducible rfl)
        (try simp only [Act.put, List.setIfInBounds_toArray, List.set_cons_zero, List.set_cons_succ])
        refine PlanO.take (v := ?vD3) (by kernel_rfl) ?yD3 ?rD3
        case yD3 => (intro wz hz; go_simp; try with_reducible rfl)
        (try simp only [Act.put, List.setIfInBounds_toArray, List.set_cons_zero, List.set_cons_succ])
        refine PlanO.take (v := ?vD4) (by kernel_rfl) ?yD4 ?rD4
        case yD4 => (intro wz hz; go_simp; try with_reducible rfl)
        (try simp only [Act.put, List.setIfInBounds_toArray, List.set_cons_zero, List.set_cons_succ])
        refine PlanO.take (v := .int .i64 mn) (by kernel_rfl) ?yD5 ?rD5
        case yD5 => (intro wz hz; go_simp; try exact hmn2)
        (try simp only [Act.put, List.setIfInBounds_toArray, List.set_cons_zero, List.set_cons_succ])
        refine PlanO.take (v := .bool true) (by kernel_rfl) ?yD6 ?rD6
        case yD6 => (intro wz hz; go_simp; try simp; try omega)
        (try simp only [Act.put, List.setIfInBounds_toArray, List.set_cons_zero, List.set_cons_succ])
        refine PlanO.take (v := .bool true) (by kernel_rfl) ?yD7 ?rD7
        case yD7 => (intro wz hz; go_simp; try simp; try omega)
        (try simp only [Act.put, List.setIfInBounds_toArray, List.set_cons_zero, List.set_cons_succ])
        refine PlanO.take (v := ?vD8) (by kernel_rfl) ?yD8 ?rD8
        case yD8 => (intro wz hz; go_simp; try with_reducible rfl)
        (try simp only [Act.put, List.setIfInBounds_toArray, List.set_cons_zero, List.set_cons_succ])
        refine PlanO.take (v := ?vD9) (by kernel_rfl) ?yD9 ?rD9
        case yD9 => (intro wz hz; go_simp; try with_reducible rfl)
        (try simp only [Act.put, List.setIfInBounds_toArray, List.set_cons_zero, List.set_cons_succ])
        refine PlanO.take (v := .int .u8 (x : Int)) (by kernel_rfl) ?yD10 ?rD10
        case yD10 => (intro wz hz; go_simp; try simpa using hx)
        (try simp only [Act.put, List.setIfInBounds_toArray, List.set_cons_zero, List.set_cons_succ])
        refine PlanO.take (v := ?vD11) (by kernel_rfl) ?yD11 ?rD11
        case yD11 => (intro wz hz; go_simp; try with_reducible rfl)
        (try simp only [Act.put, List.setIfInBounds_toArray, List.set_cons_zero, List.set_cons_succ])
        refine PlanO.take (v := ?vD12) (by kernel_rfl) ?yD12 ?rD12
        case yD12 => (intro wz hz; go_simp; try with_reducible rfl)
        (try simp only [Act.put, List.setIfInBounds_toArray, List.set_cons_zero, List.set_cons_succ])
        refine PlanO.take (v := .int .u8 (y : Int)) (by kernel_rfl) ?yD13 ?rD13
        case yD13 => (intro wz hz; go_simp; try simpa using hy)
        (try simp only [Act.put, List.setIfInBounds_toArray, List.set_cons_zero, List.set_cons_succ])
        refine PlanO.take (v := .bool false) (by kernel_rfl) ?yD14 ?rD14
        case yD14 => (intro wz hz; go_simp; (try simp); exact_mod_cast hxy)
        (try simp only [Act.put, List.setIfInBounds_toArray, List.set_cons_zero, List.set_cons_succ])
        refine PlanO.take (v := .bool false) (by kernel_rfl) ?yD15 ?rD15
        case yD15 => (intro wz hz; go_simp; try simp; try omega)
        (try simp only [Act.put, List.setIfInBounds_toArray, List.set_cons_zero, List.set_cons_succ])
        refine PlanO.done (NoPanic.normal ?_)
        go_wp2
        go_ret
        exact ⟨by rw [HR.out]; rfl, HB.out.drew⟩
    · have HR := Lib.hid (comL_at a.data.toList b.data.toList n (by omega) (by omega) HT.out (by omega))
      go_upto_region 2 with (fail)
      refine wp_region_plan [(true, 0), (true, 1), (true, 2), (true, 3), (true, 4), (true, 5), (true, 6), (true, 7), (true, 8), (true, 9), (true, 10), (true, 11), (true, 12), (true, 13), (true, 14), (true, 15)] (by kernel_rfl) (by kernel_rfl) (by kernel_rfl) (by kernel_rfl) (by kernel_rfl) ?_
      simp only [planO, List.drop_succ_cons, List.drop_zero]
      refine PlanO.take (v := ?vA0) (by kernel_rfl) ?yA0 ?rA0
      case yA0 => (intro wz hz; go_simp; try with_reducible rfl)
      (try simp only [Act.put, List.setIfInBounds_toArray, List.set_cons_zero, List.set_cons_succ])
      refine PlanO.take (v := ?vA1) (by kernel_rfl) ?yA1 ?rA1
      case yA1 => (intro wz hz; go_simp; try with_reducible rfl)
      (try simp only [Act.put, List.setIfInBounds_toArray, List.set_cons_zero, List.set_cons_succ])
      refine PlanO.take (v := ?vA2) (by kernel_rfl) ?yA2 ?rA2
      case yA2 => (intro wz hz; go_simp; try with_reducible rfl)
      (try simp only [Act.put, List.setIfInBounds_toArray, List.set_cons_zero, List.set_cons_succ])
      refine PlanO.take (v := ?vA3) (by kernel_rfl) ?yA3 ?rA3
      case yA3 => (intro wz hz; go_simp; try with_reducible rfl)
      (try simp only [Act.put, List.setIfInBounds_toArray, List.set_cons_zero, List.set_cons_succ])
      refine PlanO.take (v := ?vA4) (by kernel_rfl) ?yA4 ?rA4
      case yA4 => (intro wz hz; go_simp; try with_reducible rfl)
      (try simp only [Act.put, List.setIfInBounds_toArray, List.set_cons_zero, List.set_cons_succ])
      refine PlanO.take (v := .int .i64 mn) (by kernel_rfl) ?yA5 ?rA5
      case yA5 => (intro wz hz; go_simp; try exact hmn2)
      (try simp only [Act.put, List.setIfInBounds_toArray, List.set_cons_zero, List.set_cons_succ])
      refine PlanO.take (v := .bool false) (by kernel_rfl) ?yA6 ?rA6
      case yA6 => (intro wz hz; go_simp; try simp; try omega)
      (try simp only [Act.put, List.setIfInBounds_toArray, List.set_cons_zero, List.set_cons_succ])
      refine PlanO.take (v := .bool false) (by kernel_rfl) ?yA7 ?rA7
      case yA7 => (intro wz hz; go_simp; try simp; try omega)
      (try simp only [Act.put, List.setIfInBounds_toArray, List.set_cons_zero, List.set_cons_succ])
      refine PlanO.skip (by kernel_rfl) ?_
      (try simp only [Act.put, List.setIfInBounds_toArray, List.set_cons_zero, List.set_cons_succ])
      refine PlanO.skip (by kernel_rfl) ?_
      (try simp only [Act.put, List.setIfInBounds_toArray, List.set_cons_zero, List.set_cons_succ])
      refine PlanO.skip (by kernel_rfl) ?_
      (try simp only [Act.put, List.setIfInBounds_toArray, List.set_cons_zero, List.set_cons_succ])
      refine PlanO.skip (by kernel_rfl) ?_
      (try simp only [Act.put, List.setIfInBounds_toArray, List.set_cons_zero, List.set_cons_succ])
      refine PlanO.skip (by kernel_rfl) ?_
      (try simp only [Act.put, List.setIfInBounds_toArray, List.set_cons_zero, List.set_cons_succ])
      refine PlanO.skip (by kernel_rfl) ?_
      (try simp only [Act.put, List.setIfInBounds_toArray, List.set_cons_zero, List.set_cons_succ])
      refine PlanO.skip (by kernel_rfl) ?_
      (try simp only [Act.put, List.setIfInBounds_toArray, List.set_cons_zero, List.set_cons_succ])
      refine PlanO.take (v := .bool false) (by kernel_rfl) ?yA15 ?rA15
      case yA15 => (intro wz hz; go_simp; try simp; try omega)
      (try simp only [Act.put, List.setIfInBounds_toArray, List.set_cons_zero, List.set_cons_succ])
      refine PlanO.done (NoPanic.normal ?_)
      go_wp2
      go_ret
      exact ⟨by rw [HR.out]; rfl, HB.out.drew⟩
end Go.Proofs.YteeikmpfgbfeoaaGreat

/-
  What cmp.Compare does at bytes and numbers; what key.Cmp does, for every two keys.
-/
namespace Go.Proofs.YteeikmpfgbfeoaaGreat
open Go.RowKit

set_option maxRecDepth 100000 in
theorem isNaN_int (a : Int) (w : World) : Calls Tryz.prog 96 #[.int .i64 a] w fun e w' => e = .returned (.bool false) ∧ w = w' := by
  go_enter Tryz.func96, Tryz.ntmps96
  go_wp2
  go_ret
  exact ⟨rfl, rfl⟩

set_option maxRecDepth 100000 in
theorem isNaN_byte (a : Int) (w : World) : Calls Tryz.prog 95 #[.int .u8 a] w fun e w' => e = .returned (.bool false) ∧ w = w' := by
  go_enter Tryz.func95, Tryz.ntmps95
  go_wp2
  go_ret
  exact ⟨rfl, rfl⟩

set_option maxRecDepth 100000 in
theorem compare_int (a b : Int) (w : World) : Calls Tryz.prog 76 #[.int .i64 a, .int .i64 b] w fun e w' => e = .returned (.int .i64 (cmpZ a b)) ∧ w = w' := by
  go_enter Tryz.func76, Tryz.ntmps76
  go_wp2_with (go_at_call 96; refine (isNaN_int _ _).mono ?_; rintro e w' ⟨rfl, rfl⟩)
  all_goals
    go_ret
    refine ⟨ret_num ?_, rfl⟩
    unfold cmpZ
    (repeat' split) <;> omega

set_option maxRecDepth 100000 in
theorem compare_byte (a b : Int) (w : World) : Calls Tryz.prog 75 #[.int .u8 a, .int .u8 b] w fun e w' => e = .returned (.int .i64 (cmpZ a b)) ∧ w = w' := by
  go_enter Tryz.func75, Tryz.ntmps75
  go_wp2_with (go_at_call 95; refine (isNaN_byte _ _).mono ?_; rintro e w' ⟨rfl, rfl⟩)
  all_goals
    go_ret
    refine ⟨ret_num ?_, rfl⟩
    unfold cmpZ
    (repeat' split) <;> omega

/-- A callee that leaves the world as it is. -/
theorem quiet_eq {P : Program} {f : FuncId} {args : Array Value} {w : World} {n : Nat} {v : Value} (h : Calls P f args (w.drewN n) fun e w' => e = .returned v ∧ w.drewN n = w') :
    Calls P f args (w.drewN n) fun e w'' => e = .returned v ∧ ∃ m, w'' = w.drewN m :=
  h.mono fun _ _ ⟨he, hm⟩ => ⟨he, n, hm.symm⟩

set_option maxRecDepth 100000 in
set_option maxHeartbeats 1000000 in
theorem cmp_any (u1 : ByteArray) (s1 k1 : Int) (u2 : ByteArray) (s2 k2 : Int) (hu1 : u1.size ≤ maxLen) (hu2 : u2.size ≤ maxLen) (w : World) :
    Calls Tryz.prog 40 #[.agg #[.string u1, .int .i64 s1, .int .i64 k1], .agg #[.string u2, .int .i64 s2, .int .i64 k2]] w
      fun e w' => e = .returned (.int .i64 (cmpK u1.data.toList s1 k1 u2.data.toList s2 k2)) ∧ Below w.heap.size w w' := by
  unfold maxLen at hu1 hu2
  go_enter Tryz.func40, Tryz.ntmps40
  go_wp2
  go_loopw [5, 6] (fun c p wr => Below w.heap.size w wr ∧ wr.cell? ⟨w.heap.size, 0, none⟩ = some (.string u1) ∧ wr.cell? ⟨w.heap.size, 1, none⟩ = some (.int .i64 s1) ∧ wr.cell? ⟨w.heap.size, 2, none⟩ = some (.int .i64 k1) ∧
      wr.cell? ⟨w.heap.size + 1, 0, none⟩ = some (.string u2) ∧ wr.cell? ⟨w.heap.size + 1, 1, none⟩ = some (.int .i64 s2) ∧ wr.cell? ⟨w.heap.size + 1, 2, none⟩ = some (.int .i64 k2) ∧
      ((p = .int .i64 0 ∧ c = .int .i64 0) ∨ (p = .int .i64 1 ∧ ∃ x : Int, c = .int .i64 x ∧ x = cmpL u1.data.toList u2.data.toList) ∨
       (p = .int .i64 2 ∧ cmpL u1.data.toList u2.data.toList = 0 ∧ ∃ x : Int, c = .int .i64 x ∧ x = cmpZ s2 s1) ∨
       (p = .int .i64 3 ∧ cmpL u1.data.toList u2.data.toList = 0 ∧ cmpZ s2 s1 = 0 ∧ ∃ x : Int, c = .int .i64 x ∧ x = cmpZ k2 k1)))
    (fun _ p _ => 3 - (intOf p).toNat)
  case atStart =>
    refine ⟨((Below.refl _ _).alloc (Nat.le_refl _) _).alloc (by simp) _, ?_, ?_, ?_, ?_, ?_, ?_, .inl ⟨rfl, rfl⟩⟩
    all_goals go_simp
  case round =>
    obtain ⟨hb, d0, d1, d2, e0, e1, e2, hp⟩ := hrel
    rcases hp with ⟨rfl, rfl⟩ | ⟨rfl, x, rfl, hx⟩ | ⟨rfl, h1, x, rfl, hx⟩ | ⟨rfl, h1, h2, x, rfl, hx⟩
    · rcases Nat.lt_or_ge u2.size u1.size with hmin | hmin
      all_goals
        go_wp2
        go_step3
        go_wp2
        go_step3
        go_wp2
        go_loopw [5, 26] (fun c i wq => ∃ k : Nat, k ≤ u1.size ∧ k ≤ u2.size ∧ i = .int .i64 k ∧ c = .int .i64 0 ∧ cmpL u1.data.toList u2.data.toList = cmpL (u1.data.toList.drop k) (u2.data.toList.drop k) ∧ Below w.heap.size w wq ∧
      wq.cell? ⟨w.heap.size, 0, none⟩ = some (.string u1) ∧ wq.cell? ⟨w.heap.size, 1, none⟩ = some (.int .i64 s1) ∧ wq.cell? ⟨w.heap.size, 2, none⟩ = some (.int .i64 k1) ∧
      wq.cell? ⟨w.heap.size + 1, 0, none⟩ = some (.string u2) ∧ wq.cell? ⟨w.heap.size + 1, 1, none⟩ = some (.int .i64 s2) ∧ wq.cell? ⟨w.heap.size + 1, 2, none⟩ = some (.int .i64 k2))
          (fun _ i _ => u1.size - (intOf i).toNat)
        case atStart => exact ⟨0, Nat.zero_le _, Nat.zero_le _, rfl, rfl, rfl, hb, d0, d1, d2, e0, e1, e2⟩
        case round =>
          clear hb d0 d1 d2 e0 e1 e2
          obtain ⟨k, hk1, hk2, rfl, rfl, hc, hb, d0, d1, d2, e0, e1, e2⟩ := hrel
          have HC := Lib.hid hc
          clear hc
          by_cases hlt : k < u1.size ∧ k < u2.size
          · obtain ⟨hlt1, hlt2⟩ := hlt
            by_cases hz : u1[k].toNat = u2[k].toNat
            · have hz0 : cmpZ (u1[k].toNat : Int) (u2[k].toNat : Int) = 0 := (cmpZ_zero _ _).2 (by omega)
              have hz1 : (cmpZ (u1[k].toNat : Int) (u2[k].toNat : Int) != 0) = false := by rw [hz0]; rfl
              have hc' := cmpL_same u1.data.toList u2.data.toList k (by rw [str_len]; exact hlt1) (by rw [str_len]; exact hlt2) (by rw [str_at u1 k hlt1, str_at u2 k hlt2]; exact hz) HC.out
              have HC' := Lib.hid hc'
              have HZ := Lib.hid hz0
              clear hc' hz0 hz HC
              go_wp2
              go_quiet ((go_at_call 75; exact quiet_eq (compare_byte _ _ _)))
              go_wp2
              go_roundw
              case rel => exact ⟨k + 1, by omega, by omega, by go_num, congrArg (Value.int .i64) HZ.out, HC'.out, below_drewN hb _, d0, d1, d2, e0, e1, e2⟩
              case measure => simp [intOf]; omega
            · have hz1 : (cmpZ (u1[k].toNat : Int) (u2[k].toNat : Int) != 0) = true := by
                have : cmpZ (u1[k].toNat : Int) (u2[k].toNat : Int) ≠ 0 := fun h => hz (by have := (cmpZ_zero _ _).1 h; omega)
                simpa using this
              have hc' := cmpL_differ u1.data.toList u2.data.toList k (by rw [str_len]; exact hlt1) (by rw [str_len]; exact hlt2) (by rw [str_at u1 k hlt1, str_at u2 k hlt2]; exact hz) HC.out
              rw [str_at u1 k hlt1, str_at u2 k hlt2] at hc'
              have HC' := Lib.hid hc'
              clear hc' hz HC
              go_wp2
              go_quiet ((go_at_call 75; exact quiet_eq (compare_byte _ _ _)))
              go_wp2
              rw [Exit.noGoto_normal]
              go_wp2
              go_roundw
              case rel => exact ⟨below_drewN hb _, d0, d1, d2, e0, e1, e2, .inr (.inl ⟨rfl, _, rfl, HC'.out.symm⟩)⟩
              case measure => simp [intOf]
          · have hc' := cmpL_end u1.data.toList u2.data.toList k (by rw [str_len]; exact hk1) (by rw [str_len]; exact hk2) (by rw [str_len, str_len]; omega) HC.out
            rw [str_len, str_len] at hc'
            have HC' := Lib.hid hc'
            clear hc' HC
            rcases Nat.lt_or_ge k u1.size with g1 | g1
            · have g2 : ¬ k < u2.size := by omega
              clear hlt
              first
              | (exfalso; omega)
              | (have g3 : ¬ (k : Int) < (u2.size : Int) := (by omega)
                 go_wp2_with (go_at_call 76; refine (compare_int _ _ _).mono ?_; rintro e w' ⟨rfl, rfl⟩)
                 rw [Exit.noGoto_normal]
                 go_wp2
                 go_roundw
                 case rel => exact ⟨hb, d0, d1, d2, e0, e1, e2, .inr (.inl ⟨rfl, _, rfl, HC'.out.symm⟩)⟩
                 case measure => simp [intOf])
            · clear hlt
              rcases Nat.lt_or_ge k u2.size with g2 | g2
              · have g3 : ¬ (k : Int) < (u1.size : Int) := by omega
                have g4 : (k : Int) < (u2.size : Int) := by omega
                first
                | (exfalso; omega)
                | (go_wp2_with (go_at_call 76; refine (compare_int _ _ _).mono ?_; rintro e w' ⟨rfl, rfl⟩)
                   rw [Exit.noGoto_normal]
                   go_wp2
                   go_roundw
                   case rel => exact ⟨hb, d0, d1, d2, e0, e1, e2, .inr (.inl ⟨rfl, _, rfl, HC'.out.symm⟩)⟩
                   case measure => simp [intOf])
              · have g3 : ¬ (k : Int) < (u1.size : Int) := by omega
                have g4 : ¬ (k : Int) < (u2.size : Int) := by omega
                first
                | (exfalso; omega)
                | (go_wp2_with (go_at_call 76; refine (compare_int _ _ _).mono ?_; rintro e w' ⟨rfl, rfl⟩)
                   rw [Exit.noGoto_normal]
                   go_wp2
                   go_roundw
                   case rel => exact ⟨hb, d0, d1, d2, e0, e1, e2, .inr (.inl ⟨rfl, _, rfl, HC'.out.symm⟩)⟩
                   case measure => simp [intOf])
    · by_cases h0 : x = 0
      · subst h0
        have HX := Lib.hid hx.symm
        clear hx
        go_wp2
        go_step3
        go_wp2
        go_step3
        go_wp2_with (go_at_call 76; refine (compare_int _ _ _).mono ?_; rintro e w' ⟨rfl, rfl⟩)
        rw [Exit.noGoto_normal]
        go_wp2
        go_roundw
        case rel => exact ⟨hb, d0, d1, d2, e0, e1, e2, .inr (.inr (.inl ⟨rfl, HX.out, _, rfl, rfl⟩))⟩
        case measure => simp [intOf]
      · have HX := Lib.hid hx
        have g0 : (x == 0) = false := by simpa using h0
        have HF : Hid (x = cmpK u1.data.toList s1 k1 u2.data.toList s2 k2) := Lib.hid (by unfold cmpK lex; rw [← HX.out, if_neg h0])
        clear hx h0
        go_wp2
        go_ret
        exact ⟨ret_num HF.out, hb⟩
    · by_cases h0 : x = 0
      · subst h0
        have HX := Lib.hid hx.symm
        have H1 := Lib.hid h1
        clear hx h1
        go_wp2
        go_step3
        go_wp2
        go_step3
        go_wp2_with (go_at_call 76; refine (compare_int _ _ _).mono ?_; rintro e w' ⟨rfl, rfl⟩)
        rw [Exit.noGoto_normal]
        go_wp2
        go_roundw
        case rel => exact ⟨hb, d0, d1, d2, e0, e1, e2, .inr (.inr (.inr ⟨rfl, H1.out, HX.out, _, rfl, rfl⟩))⟩
        case measure => simp [intOf]
      · have g0 : (x == 0) = false := by simpa using h0
        have HF : Hid (x = cmpK u1.data.toList s1 k1 u2.data.toList s2 k2) := Lib.hid (by unfold cmpK lex; rw [if_pos h1, ← hx, if_neg h0])
        clear hx h0 h1
        go_wp2
        go_ret
        exact ⟨ret_num HF.out, hb⟩
    · have HF : Hid (x = cmpK u1.data.toList s1 k1 u2.data.toList s2 k2) := Lib.hid (by unfold cmpK lex; rw [if_pos h1, if_pos h2, ← hx])
      clear hx h1 h2
      go_wp2
      go_ret
      exact ⟨ret_num HF.out, hb⟩
end Go.Proofs.YteeikmpfgbfeoaaGreat

/-
  What key.Rising and the document's Rising do, for every list of entries.
-/
namespace Go.Proofs.YteeikmpfgbfeoaaGreat
open Go.RowKit

set_option maxRecDepth 100000 in
set_option maxHeartbeats 4000000 in
theorem rising_any (v : Value) (es : List Ent) (w : World) (hv : RdE w v es) :
    Calls Tryz.prog 18 #[v] w fun e w' => e = .returned (.bool (risingB es)) ∧ Below w.heap.size w w' := by
  obtain ⟨a, cap, rfl, hc1, hc2⟩ := hv.form
  unfold maxLen at hc2
  go_enter Tryz.func18, Tryz.ntmps18
  go_wp2
  go_loopw [7] (fun i wr => ∃ k : Nat, k ≤ es.length ∧ i = .int .i64 k ∧ Hid (∀ j, j < k → goodAt es j = true) ∧ Below w.heap.size w wr) (fun i _ => es.length - (intOf i).toNat)
  case atStart => exact ⟨0, Nat.zero_le _, rfl, Lib.hid (fun j h => by omega), Below.refl _ _⟩
  case round =>
    obtain ⟨k, hk, rfl, HG, hb⟩ := hrel
    by_cases hlt : k < es.length
    · obtain ⟨b, off, cap', hve, _, _, hbw, hcells⟩ := (hv.below hb (Nat.le_refl _)).at_ (by intro h; subst h; simp at hlt)
      cases hve
      obtain ⟨d0, d1, d2, d3⟩ := hcells k hlt
      obtain ⟨f1, f2, _, _⟩ := fits_at hv.2 k hlt
      have hmay := mayE_any (es.getD k Ent.none_).u (es.getD k Ent.none_).s (es.getD k Ent.none_).k (es.getD k Ent.none_).v f1 f2
      have hmb : mayE (es.getD k Ent.none_).u.data.toList (es.getD k Ent.none_).s (es.getD k Ent.none_).k (es.getD k Ent.none_).v.data.toList = (es.getD k Ent.none_).may := rfl
      rw [hmb] at hmay
      clear hmb
      generalize he : es.getD k Ent.none_ = e at *
      cases hmb : e.may with
      | false =>
        have HN : Hid (goodAt es k = false) := Lib.hid (goodAt_no he hmb)
        rw [hmb] at hmay
        obtain ⟨eu, es', ek, ev⟩ := e
        simp only at d0 d1 d2 d3 hmay
        have HM := Lib.hid hmay
        clear he hmay hcells hmb
        go_wp2
        obtain ⟨wB, hwB⟩ : ∃ wB, wB = wr.alloc (.cells #[.string eu, .int .i64 es', .int .i64 ek, .string ev] 39) := ⟨_, rfl⟩
        rw [← hwB]
        have e0 : wB.cell? ⟨wr.heap.size, 0, none⟩ = some (.string eu) := by rw [hwB]; go_simp
        have e1 : wB.cell? ⟨wr.heap.size, 1, none⟩ = some (.int .i64 es') := by rw [hwB]; go_simp
        have e2 : wB.cell? ⟨wr.heap.size, 2, none⟩ = some (.int .i64 ek) := by rw [hwB]; go_simp
        have e3 : wB.cell? ⟨wr.heap.size, 3, none⟩ = some (.string ev) := by rw [hwB]; go_simp
        have hB : Below w.heap.size w wB := by rw [hwB]; exact hb.alloc hb.size _
        clear hwB d0 d1 d2 d3
        refine wp_region_plan [(true, 0), (false, 1), (true, 2), (true, 3), (true, 4), (true, 5), (true, 6), (true, 7), (true, 8), (true, 9), (true, 10), (true, 11), (true, 12), (true, 13), (true, 14), (false, 15), (true, 16), (true, 17), (true, 18)] (by kernel_rfl) (by kernel_rfl) (by kernel_rfl) (by kernel_rfl) (by kernel_rfl) ?_
        simp only [planO, List.drop_succ_cons, List.drop_zero]
        refine PlanO.take (v := ?va0) (by kernel_rfl) ?ya0 ?ra0
        case ya0 => (intro wz hz; have c0 := Ext.at_ hz e0; have c1 := Ext.at_ hz e1; have c2 := Ext.at_ hz e2; have c3 := Ext.at_ hz e3; go_simp; try with_reducible rfl)
        (try simp only [Act.put, List.setIfInBounds_toArray, List.set_cons_zero, List.set_cons_succ])
        refine PlanO.exec (fun K hK => ?_)
        go_simp
        go_at_call 39
        refine (HM.out _).mono ?_
        rintro e u1 ⟨rfl, hb1⟩
        have hE1 : Ext wB.drew u1 := hb1
        go_wp2_with fail
        refine hK.out _ _ hb1 ?_
        clear hK K
        (try simp only [Act.put, List.setIfInBounds_toArray, List.set_cons_zero, List.set_cons_succ])
        refine PlanO.take (v := ?va2) (by kernel_rfl) ?ya2 ?ra2
        case ya2 => (intro wz hz; go_simp; try with_reducible rfl)
        (try simp only [Act.put, List.setIfInBounds_toArray, List.set_cons_zero, List.set_cons_succ])
        refine PlanO.take (v := ?va3) (by kernel_rfl) ?ya3 ?ra3
        case ya3 => (intro wz hz; go_simp; try with_reducible rfl)
        (try simp only [Act.put, List.setIfInBounds_toArray, List.set_cons_zero, List.set_cons_succ])
        refine PlanO.skip (by kernel_rfl) ?_
        (try simp only [Act.put, List.setIfInBounds_toArray, List.set_cons_zero, List.set_cons_succ])
        refine PlanO.skip (by kernel_rfl) ?_
        (try simp only [Act.put, List.setIfInBounds_toArray, List.set_cons_zero, List.set_cons_succ])
        refine PlanO.skip (by kernel_rfl) ?_
        (try simp only [Act.put, List.setIfInBounds_toArray, List.set_cons_zero, List.set_cons_succ])
        refine PlanO.skip (by kernel_rfl) ?_
        (try simp only [Act.put, List.setIfInBounds_toArray, List.set_cons_zero, List.set_cons_succ])
        refine PlanO.skip (by kernel_rfl) ?_
        (try simp only [Act.put, List.setIfInBounds_toArray, List.set_cons_zero, List.set_cons_succ])
        refine PlanO.skip (by kernel_rfl) ?_
        (try simp only [Act.put, List.setIfInBounds_toArray, List.set_cons_zero, List.set_cons_succ])
        refine PlanO.skip (by kernel_rfl) ?_
        (try simp only [Act.put, List.setIfInBounds_toArray, List.set_cons_zero, List.set_cons_succ])
        refine PlanO.skip (by kernel_rfl) ?_
        (try simp only [Act.put, List.setIfInBounds_toArray, List.set_cons_zero, List.set_cons_succ])
        refine PlanO.skip (by kernel_rfl) ?_
        (try simp only [Act.put, List.setIfInBounds_toArray, List.set_cons_zero, List.set_cons_succ])
        refine PlanO.skip (by kernel_rfl) ?_
        (try simp only [Act.put, List.setIfInBounds_toArray, List.set_cons_zero, List.set_cons_succ])
        refine PlanO.skip (by kernel_rfl) ?_
        (try simp only [Act.put, List.setIfInBounds_toArray, List.set_cons_zero, List.set_cons_succ])
        refine PlanO.skip (by kernel_rfl) ?_
        (try simp only [Act.put, List.setIfInBounds_toArray, List.set_cons_zero, List.set_cons_succ])
        refine PlanO.skip (by kernel_rfl) ?_
        (try simp only [Act.put, List.setIfInBounds_toArray, List.set_cons_zero, List.set_cons_succ])
        refine PlanO.skip (by kernel_rfl) ?_
        (try simp only [Act.put, List.setIfInBounds_toArray, List.set_cons_zero, List.set_cons_succ])
        refine PlanO.take (v := ?va18) (by kernel_rfl) ?ya18 ?ra18
        case ya18 => (intro wz hz; go_simp; try with_reducible rfl)
        (try simp only [Act.put, List.setIfInBounds_toArray, List.set_cons_zero, List.set_cons_succ])
        refine PlanO.done (NoPanic.normal ?_)
        go_wp2
        go_ret
        exact ⟨ret_bool (rising_no hlt HN.out), hB.trans ((below_draw hE1).mono hB.size)⟩
      | true =>
        rw [hmb] at hmay
        by_cases hk0 : k = 0
        · subst hk0
          have HN : Hid (goodAt es 0 = true) := Lib.hid (goodAt_zero he hmb)
          obtain ⟨eu, es', ek, ev⟩ := e
          simp only at d0 d1 d2 d3 hmay
          have HM := Lib.hid hmay
          clear he hmay hcells hmb
          simp only [Nat.zero_mul, Nat.add_zero] at d0 d1 d2 d3
          go_wp2
          obtain ⟨wB, hwB⟩ : ∃ wB, wB = wr.alloc (.cells #[.string eu, .int .i64 es', .int .i64 ek, .string ev] 39) := ⟨_, rfl⟩
          rw [← hwB]
          have e0 : wB.cell? ⟨wr.heap.size, 0, none⟩ = some (.string eu) := by rw [hwB]; go_simp
          have e1 : wB.cell? ⟨wr.heap.size, 1, none⟩ = some (.int .i64 es') := by rw [hwB]; go_simp
          have e2 : wB.cell? ⟨wr.heap.size, 2, none⟩ = some (.int .i64 ek) := by rw [hwB]; go_simp
          have e3 : wB.cell? ⟨wr.heap.size, 3, none⟩ = some (.string ev) := by rw [hwB]; go_simp
          have hB : Below w.heap.size w wB := by rw [hwB]; exact hb.alloc hb.size _
          clear hwB d0 d1 d2 d3
          refine wp_region_plan [(true, 0), (false, 1), (true, 2), (true, 3), (true, 4), (true, 5), (true, 6), (true, 7), (true, 8), (true, 9), (true, 10), (true, 11), (true, 12), (true, 13), (true, 14), (false, 15), (true, 16), (true, 17), (true, 18)] (by kernel_rfl) (by kernel_rfl) (by kernel_rfl) (by kernel_rfl) (by kernel_rfl) ?_
          simp only [planO, List.drop_succ_cons, List.drop_zero]
          refine PlanO.take (v := ?vb0) (by kernel_rfl) ?yb0 ?rb0
          case yb0 => (intro wz hz; have c0 := Ext.at_ hz e0; have c1 := Ext.at_ hz e1; have c2 := Ext.at_ hz e2; have c3 := Ext.at_ hz e3; go_simp; try with_reducible rfl)
          (try simp only [Act.put, List.setIfInBounds_toArray, List.set_cons_zero, List.set_cons_succ])
          refine PlanO.exec (fun K hK => ?_)
          go_simp
          go_at_call 39
          refine (HM.out _).mono ?_
          rintro e u1 ⟨rfl, hb1⟩
          have hE1 : Ext wB.drew u1 := hb1
          go_wp2_with fail
          refine hK.out _ _ hb1 ?_
          clear hK K
          (try simp only [Act.put, List.setIfInBounds_toArray, List.set_cons_zero, List.set_cons_succ])
          refine PlanO.take (v := ?vb2) (by kernel_rfl) ?yb2 ?rb2
          case yb2 => (intro wz hz; go_simp; try with_reducible rfl)
          (try simp only [Act.put, List.setIfInBounds_toArray, List.set_cons_zero, List.set_cons_succ])
          refine PlanO.take (v := ?vb3) (by kernel_rfl) ?yb3 ?rb3
          case yb3 => (intro wz hz; go_simp; try with_reducible rfl)
          (try simp only [Act.put, List.setIfInBounds_toArray, List.set_cons_zero, List.set_cons_succ])
          refine PlanO.take (v := ?vb4) (by kernel_rfl) ?yb4 ?rb4
          case yb4 => (intro wz hz; go_simp; try with_reducible rfl)
          (try simp only [Act.put, List.setIfInBounds_toArray, List.set_cons_zero, List.set_cons_succ])
          refine PlanO.take (v := ?vb5) (by kernel_rfl) ?yb5 ?rb5
          case yb5 => (intro wz hz; go_simp; try with_reducible rfl)
          (try simp only [Act.put, List.setIfInBounds_toArray, List.set_cons_zero, List.set_cons_succ])
          refine PlanO.take (v := ?vb6) (by kernel_rfl) ?yb6 ?rb6
          case yb6 => (intro wz hz; go_simp; try with_reducible rfl)
          (try simp only [Act.put, List.setIfInBounds_toArray, List.set_cons_zero, List.set_cons_succ])
          refine PlanO.skip (by kernel_rfl) ?_
          (try simp only [Act.put, List.setIfInBounds_toArray, List.set_cons_zero, List.set_cons_succ])
          refine PlanO.skip (by kernel_rfl) ?_
          (try simp only [Act.put, List.setIfInBounds_toArray, List.set_cons_zero, List.set_cons_succ])
          refine PlanO.skip (by kernel_rfl) ?_
          (try simp only [Act.put, List.setIfInBounds_toArray, List.set_cons_zero, List.set_cons_succ])
          refine PlanO.skip (by kernel_rfl) ?_
          (try simp only [Act.put, List.setIfInBounds_toArray, List.set_cons_zero, List.set_cons_succ])
          refine PlanO.skip (by kernel_rfl) ?_
          (try simp only [Act.put, List.setIfInBounds_toArray, List.set_cons_zero, List.set_cons_succ])
          refine PlanO.skip (by kernel_rfl) ?_
          (try simp only [Act.put, List.setIfInBounds_toArray, List.set_cons_zero, List.set_cons_succ])
          refine PlanO.skip (by kernel_rfl) ?_
          (try simp only [Act.put, List.setIfInBounds_toArray, List.set_cons_zero, List.set_cons_succ])
          refine PlanO.skip (by kernel_rfl) ?_
          (try simp only [Act.put, List.setIfInBounds_toArray, List.set_cons_zero, List.set_cons_succ])
          refine PlanO.skip (by kernel_rfl) ?_
          (try simp only [Act.put, List.setIfInBounds_toArray, List.set_cons_zero, List.set_cons_succ])
          refine PlanO.skip (by kernel_rfl) ?_
          (try simp only [Act.put, List.setIfInBounds_toArray, List.set_cons_zero, List.set_cons_succ])
          refine PlanO.take (v := ?vb17) (by kernel_rfl) ?yb17 ?rb17
          case yb17 => (intro wz hz; go_simp; try with_reducible rfl)
          (try simp only [Act.put, List.setIfInBounds_toArray, List.set_cons_zero, List.set_cons_succ])
          refine PlanO.take (v := ?vb18) (by kernel_rfl) ?yb18 ?rb18
          case yb18 => (intro wz hz; go_simp; try with_reducible rfl)
          (try simp only [Act.put, List.setIfInBounds_toArray, List.set_cons_zero, List.set_cons_succ])
          refine PlanO.done (NoPanic.normal ?_)
          go_wp2
          go_roundw
          case rel => exact ⟨1, by omega, by go_num, Lib.hid (good_more HG.out HN.out), hB.trans ((below_draw hE1).mono hB.size)⟩
          case measure => simp [intOf]; omega
        · obtain ⟨m, rfl⟩ : ∃ m, k = m + 1 := ⟨k - 1, by omega⟩
          clear hk0
          obtain ⟨q0, q1, q2, q3⟩ := hcells m (by omega)
          obtain ⟨f3, f4, _, _⟩ := fits_at hv.2 m (by omega)
          have hcmp := cmp_any (es.getD m Ent.none_).u (es.getD m Ent.none_).s (es.getD m Ent.none_).k e.u e.s e.k f3 f1
          have hcb : cmpK (es.getD m Ent.none_).u.data.toList (es.getD m Ent.none_).s (es.getD m Ent.none_).k e.u.data.toList e.s e.k = (es.getD m Ent.none_).cmp e := rfl
          rw [hcb] at hcmp
          clear hcb
          generalize hd : es.getD m Ent.none_ = d at *
          have HN := Lib.hid (goodAt_next he hd hmb)
          generalize hx : d.cmp e = x at *
          obtain ⟨eu, es', ek, ev⟩ := e
          obtain ⟨du, ds', dk, dv⟩ := d
          simp only at d0 d1 d2 d3 q0 q1 q2 q3 hmay hcmp
          have HM := Lib.hid hmay
          have HC := Lib.hid hcmp
          clear he hd hmay hcmp hcells hmb hx
          cases hxb : decide (x < 0) with
          | true =>
            have hx0 : ¬ (0 : Int) ≤ x := by simpa using hxb
            have HX := Lib.hid hxb
            clear hxb
            go_wp2
            obtain ⟨wB, hwB⟩ : ∃ wB, wB = wr.alloc (.cells #[.string eu, .int .i64 es', .int .i64 ek, .string ev] 39) := ⟨_, rfl⟩
            rw [← hwB]
            have e0 : wB.cell? ⟨wr.heap.size, 0, none⟩ = some (.string eu) := by rw [hwB]; go_simp
            have e1 : wB.cell? ⟨wr.heap.size, 1, none⟩ = some (.int .i64 es') := by rw [hwB]; go_simp
            have e2 : wB.cell? ⟨wr.heap.size, 2, none⟩ = some (.int .i64 ek) := by rw [hwB]; go_simp
            have e3 : wB.cell? ⟨wr.heap.size, 3, none⟩ = some (.string ev) := by rw [hwB]; go_simp
            have hB : Below w.heap.size w wB := by rw [hwB]; exact hb.alloc hb.size _
            have p0 : wB.cell? ⟨b, off + m * 4, none⟩ = some (.string du) := by rw [hwB]; go_simp
            have p1 : wB.cell? ⟨b, off + m * 4 + 1, none⟩ = some (.int .i64 ds') := by rw [hwB]; go_simp
            have p2 : wB.cell? ⟨b, off + m * 4 + 2, none⟩ = some (.int .i64 dk) := by rw [hwB]; go_simp
            have p3 : wB.cell? ⟨b, off + m * 4 + 3, none⟩ = some (.string dv) := by rw [hwB]; go_simp
            clear hwB d0 d1 d2 d3 q0 q1 q2 q3
            have hmn : (m : Int) < (es.length : Int) := by omega
            have hmw : IntKind.i64.wrap (m : Int) = (m : Int) := IntWalk.i64_in _ (by omega)
            refine wp_region_plan [(true, 0), (false, 1), (true, 2), (true, 3), (true, 4), (true, 5), (true, 6), (true, 7), (true, 8), (true, 9), (true, 10), (true, 11), (true, 12), (true, 13), (true, 14), (false, 15), (true, 16), (true, 17), (true, 18)] (by kernel_rfl) (by kernel_rfl) (by kernel_rfl) (by kernel_rfl) (by kernel_rfl) ?_
            simp only [planO, List.drop_succ_cons, List.drop_zero]
            refine PlanO.take (v := ?vc0) (by kernel_rfl) ?yc0 ?rc0
            case yc0 => (intro wz hz; have c0 := Ext.at_ hz e0; have c1 := Ext.at_ hz e1; have c2 := Ext.at_ hz e2; have c3 := Ext.at_ hz e3; go_simp; try with_reducible rfl)
            (try simp only [Act.put, List.setIfInBounds_toArray, List.set_cons_zero, List.set_cons_succ])
            refine PlanO.exec (fun K hK => ?_)
            go_simp
            go_at_call 39
            refine (HM.out _).mono ?_
            rintro e u1 ⟨rfl, hb1⟩
            have hE1 : Ext wB.drew u1 := hb1
            go_wp2_with fail
            refine hK.out _ _ hb1 ?_
            clear hK K
            (try simp only [Act.put, List.setIfInBounds_toArray, List.set_cons_zero, List.set_cons_succ])
            refine PlanO.take (v := ?vc2) (by kernel_rfl) ?yc2 ?rc2
            case yc2 => (intro wz hz; go_simp; try with_reducible rfl)
            (try simp only [Act.put, List.setIfInBounds_toArray, List.set_cons_zero, List.set_cons_succ])
            refine PlanO.take (v := ?vc3) (by kernel_rfl) ?yc3 ?rc3
            case yc3 => (intro wz hz; go_simp; try with_reducible rfl)
            (try simp only [Act.put, List.setIfInBounds_toArray, List.set_cons_zero, List.set_cons_succ])
            refine PlanO.take (v := ?vc4) (by kernel_rfl) ?yc4 ?rc4
            case yc4 => (intro wz hz; go_simp; try with_reducible rfl)
            (try simp only [Act.put, List.setIfInBounds_toArray, List.set_cons_zero, List.set_cons_succ])
            refine PlanO.take (v := ?vc5) (by kernel_rfl) ?yc5 ?rc5
            case yc5 => (intro wz hz; go_simp; try with_reducible rfl)
            (try simp only [Act.put, List.setIfInBounds_toArray, List.set_cons_zero, List.set_cons_succ])
            refine PlanO.take (v := ?vc6) (by kernel_rfl) ?yc6 ?rc6
            case yc6 => (intro wz hz; go_simp; try with_reducible rfl)
            (try simp only [Act.put, List.setIfInBounds_toArray, List.set_cons_zero, List.set_cons_succ])
            refine PlanO.take (v := ?vc7) (by kernel_rfl) ?yc7 ?rc7
            case yc7 => (intro wz hz; go_simp; try with_reducible rfl)
            (try simp only [Act.put, List.setIfInBounds_toArray, List.set_cons_zero, List.set_cons_succ])
            refine PlanO.take (v := ?vc8) (by kernel_rfl) ?yc8 ?rc8
            case yc8 => (intro wz hz; go_simp; try with_reducible rfl)
            (try simp only [Act.put, List.setIfInBounds_toArray, List.set_cons_zero, List.set_cons_succ])
            refine PlanO.take (v := ?vc9) (by kernel_rfl) ?yc9 ?rc9
            case yc9 => (intro wz hz; go_simp; try with_reducible rfl)
            (try simp only [Act.put, List.setIfInBounds_toArray, List.set_cons_zero, List.set_cons_succ])
            refine PlanO.take (v := ?vc10) (by kernel_rfl) ?yc10 ?rc10
            case yc10 => (intro wz hz; go_simp; try with_reducible rfl)
            (try simp only [Act.put, List.setIfInBounds_toArray, List.set_cons_zero, List.set_cons_succ])
            refine PlanO.take (v := ?vc11) (by kernel_rfl) ?yc11 ?rc11
            case yc11 => (intro wz hz; go_simp; try with_reducible rfl)
            (try simp only [Act.put, List.setIfInBounds_toArray, List.set_cons_zero, List.set_cons_succ])
            refine PlanO.take (v := ?vc12) (by kernel_rfl) ?yc12 ?rc12
            case yc12 => (intro wz hz; have hw := Ext.trans hE1 hz; have c0 := Ext.at_ hw e0; have c1 := Ext.at_ hw e1; have c2 := Ext.at_ hw e2; have c3 := Ext.at_ hw e3; have b0 := Ext.at_ hw p0; have b1 := Ext.at_ hw p1; have b2 := Ext.at_ hw p2; have b3 := Ext.at_ hw p3; go_simp; try with_reducible rfl)
            (try simp only [Act.put, List.setIfInBounds_toArray, List.set_cons_zero, List.set_cons_succ])
            refine PlanO.take (v := ?vc13) (by kernel_rfl) ?yc13 ?rc13
            case yc13 => (intro wz hz; go_simp; try with_reducible rfl)
            (try simp only [Act.put, List.setIfInBounds_toArray, List.set_cons_zero, List.set_cons_succ])
            refine PlanO.take (v := ?vc14) (by kernel_rfl) ?yc14 ?rc14
            case yc14 => (intro wz hz; have hw := Ext.trans hE1 hz; have c0 := Ext.at_ hw e0; have c1 := Ext.at_ hw e1; have c2 := Ext.at_ hw e2; have c3 := Ext.at_ hw e3; have b0 := Ext.at_ hw p0; have b1 := Ext.at_ hw p1; have b2 := Ext.at_ hw p2; have b3 := Ext.at_ hw p3; go_simp; try with_reducible rfl)
            (try simp only [Act.put, List.setIfInBounds_toArray, List.set_cons_zero, List.set_cons_succ])
            refine PlanO.exec (fun K hK => ?_)
            go_simp
            go_at_call 40
            refine (HC.out _).mono ?_
            rintro e u2 ⟨rfl, hb2⟩
            have hE2 : Ext wB.drew u2 := Ext.trans hE1 hb2
            go_wp2_with fail
            refine hK.out _ _ hb2 ?_
            clear hK K
            (try simp only [Act.put, List.setIfInBounds_toArray, List.set_cons_zero, List.set_cons_succ])
            refine PlanO.take (v := ?vc16) (by kernel_rfl) ?yc16 ?rc16
            case yc16 => (intro wz hz; go_simp; try with_reducible rfl)
            (try simp only [Act.put, List.setIfInBounds_toArray, List.set_cons_zero, List.set_cons_succ])
            refine PlanO.take (v := ?vc17) (by kernel_rfl) ?yc17 ?rc17
            case yc17 => (intro wz hz; go_simp; try with_reducible rfl)
            (try simp only [Act.put, List.setIfInBounds_toArray, List.set_cons_zero, List.set_cons_succ])
            refine PlanO.take (v := ?vc18) (by kernel_rfl) ?yc18 ?rc18
            case yc18 => (intro wz hz; go_simp; try with_reducible rfl)
            (try simp only [Act.put, List.setIfInBounds_toArray, List.set_cons_zero, List.set_cons_succ])
            refine PlanO.done (NoPanic.normal ?_)
            clear hmw
            go_wp2
            go_roundw
            case rel => exact ⟨m + 2, by omega, by go_num, Lib.hid (good_more HG.out (HN.out.trans HX.out)), hB.trans ((below_draw hE2).mono hB.size)⟩
            case measure => simp [intOf]; omega
          | false =>
            have hx0 : (0 : Int) ≤ x := by simpa using hxb
            have HX := Lib.hid hxb
            clear hxb
            go_wp2
            obtain ⟨wB, hwB⟩ : ∃ wB, wB = wr.alloc (.cells #[.string eu, .int .i64 es', .int .i64 ek, .string ev] 39) := ⟨_, rfl⟩
            rw [← hwB]
            have e0 : wB.cell? ⟨wr.heap.size, 0, none⟩ = some (.string eu) := by rw [hwB]; go_simp
            have e1 : wB.cell? ⟨wr.heap.size, 1, none⟩ = some (.int .i64 es') := by rw [hwB]; go_simp
            have e2 : wB.cell? ⟨wr.heap.size, 2, none⟩ = some (.int .i64 ek) := by rw [hwB]; go_simp
            have e3 : wB.cell? ⟨wr.heap.size, 3, none⟩ = some (.string ev) := by rw [hwB]; go_simp
            have hB : Below w.heap.size w wB := by rw [hwB]; exact hb.alloc hb.size _
            have p0 : wB.cell? ⟨b, off + m * 4, none⟩ = some (.string du) := by rw [hwB]; go_simp
            have p1 : wB.cell? ⟨b, off + m * 4 + 1, none⟩ = some (.int .i64 ds') := by rw [hwB]; go_simp
            have p2 : wB.cell? ⟨b, off + m * 4 + 2, none⟩ = some (.int .i64 dk) := by rw [hwB]; go_simp
            have p3 : wB.cell? ⟨b, off + m * 4 + 3, none⟩ = some (.string dv) := by rw [hwB]; go_simp
            clear hwB d0 d1 d2 d3 q0 q1 q2 q3
            have hmn : (m : Int) < (es.length : Int) := by omega
            have hmw : IntKind.i64.wrap (m : Int) = (m : Int) := IntWalk.i64_in _ (by omega)
            refine wp_region_plan [(true, 0), (false, 1), (true, 2), (true, 3), (true, 4), (true, 5), (true, 6), (true, 7), (true, 8), (true, 9), (true, 10), (true, 11), (true, 12), (true, 13), (true, 14), (false, 15), (true, 16), (true, 17), (true, 18)] (by kernel_rfl) (by kernel_rfl) (by kernel_rfl) (by kernel_rfl) (by kernel_rfl) ?_
            simp only [planO, List.drop_succ_cons, List.drop_zero]
            refine PlanO.take (v := ?vd0) (by kernel_rfl) ?yd0 ?rd0
            case yd0 => (intro wz hz; have c0 := Ext.at_ hz e0; have c1 := Ext.at_ hz e1; have c2 := Ext.at_ hz e2; have c3 := Ext.at_ hz e3; go_simp; try with_reducible rfl)
            (try simp only [Act.put, List.setIfInBounds_toArray, List.set_cons_zero, List.set_cons_succ])
            refine PlanO.exec (fun K hK => ?_)
            go_simp
            go_at_call 39
            refine (HM.out _).mono ?_
            rintro e u1 ⟨rfl, hb1⟩
            have hE1 : Ext wB.drew u1 := hb1
            go_wp2_with fail
            refine hK.out _ _ hb1 ?_
            clear hK K
            (try simp only [Act.put, List.setIfInBounds_toArray, List.set_cons_zero, List.set_cons_succ])
            refine PlanO.take (v := ?vd2) (by kernel_rfl) ?yd2 ?rd2
            case yd2 => (intro wz hz; go_simp; try with_reducible rfl)
            (try simp only [Act.put, List.setIfInBounds_toArray, List.set_cons_zero, List.set_cons_succ])
            refine PlanO.take (v := ?vd3) (by kernel_rfl) ?yd3 ?rd3
            case yd3 => (intro wz hz; go_simp; try with_reducible rfl)
            (try simp only [Act.put, List.setIfInBounds_toArray, List.set_cons_zero, List.set_cons_succ])
            refine PlanO.take (v := ?vd4) (by kernel_rfl) ?yd4 ?rd4
            case yd4 => (intro wz hz; go_simp; try with_reducible rfl)
            (try simp only [Act.put, List.setIfInBounds_toArray, List.set_cons_zero, List.set_cons_succ])
            refine PlanO.take (v := ?vd5) (by kernel_rfl) ?yd5 ?rd5
            case yd5 => (intro wz hz; go_simp; try with_reducible rfl)
            (try simp only [Act.put, List.setIfInBounds_toArray, List.set_cons_zero, List.set_cons_succ])
            refine PlanO.take (v := ?vd6) (by kernel_rfl) ?yd6 ?rd6
            case yd6 => (intro wz hz; go_simp; try with_reducible rfl)
            (try simp only [Act.put, List.setIfInBounds_toArray, List.set_cons_zero, List.set_cons_succ])
            refine PlanO.take (v := ?vd7) (by kernel_rfl) ?yd7 ?rd7
            case yd7 => (intro wz hz; go_simp; try with_reducible rfl)
            (try simp only [Act.put, List.setIfInBounds_toArray, List.set_cons_zero, List.set_cons_succ])
            refine PlanO.take (v := ?vd8) (by kernel_rfl) ?yd8 ?rd8
            case yd8 => (intro wz hz; go_simp; try with_reducible rfl)
            (try simp only [Act.put, List.setIfInBounds_toArray, List.set_cons_zero, List.set_cons_succ])
            refine PlanO.take (v := ?vd9) (by kernel_rfl) ?yd9 ?rd9
            case yd9 => (intro wz hz; go_simp; try with_reducible rfl)
            (try simp only [Act.put, List.setIfInBounds_toArray, List.set_cons_zero, List.set_cons_succ])
            refine PlanO.take (v := ?vd10) (by kernel_rfl) ?yd10 ?rd10
            case yd10 => (intro wz hz; go_simp; try with_reducible rfl)
            (try simp only [Act.put, List.setIfInBounds_toArray, List.set_cons_zero, List.set_cons_succ])
            refine PlanO.take (v := ?vd11) (by kernel_rfl) ?yd11 ?rd11
            case yd11 => (intro wz hz; go_simp; try with_reducible rfl)
            (try simp only [Act.put, List.setIfInBounds_toArray, List.set_cons_zero, List.set_cons_succ])
            refine PlanO.take (v := ?vd12) (by kernel_rfl) ?yd12 ?rd12
            case yd12 => (intro wz hz; have hw := Ext.trans hE1 hz; have c0 := Ext.at_ hw e0; have c1 := Ext.at_ hw e1; have c2 := Ext.at_ hw e2; have c3 := Ext.at_ hw e3; have b0 := Ext.at_ hw p0; have b1 := Ext.at_ hw p1; have b2 := Ext.at_ hw p2; have b3 := Ext.at_ hw p3; go_simp; try with_reducible rfl)
            (try simp only [Act.put, List.setIfInBounds_toArray, List.set_cons_zero, List.set_cons_succ])
            refine PlanO.take (v := ?vd13) (by kernel_rfl) ?yd13 ?rd13
            case yd13 => (intro wz hz; go_simp; try with_reducible rfl)
            (try simp only [Act.put, List.setIfInBounds_toArray, List.set_cons_zero, List.set_cons_succ])
            refine PlanO.take (v := ?vd14) (by kernel_rfl) ?yd14 ?rd14
            case yd14 => (intro wz hz; have hw := Ext.trans hE1 hz; have c0 := Ext.at_ hw e0; have c1 := Ext.at_ hw e1; have c2 := Ext.at_ hw e2; have c3 := Ext.at_ hw e3; have b0 := Ext.at_ hw p0; have b1 := Ext.at_ hw p1; have b2 := Ext.at_ hw p2; have b3 := Ext.at_ hw p3; go_simp; try with_reducible rfl)
            (try simp only [Act.put, List.setIfInBounds_toArray, List.set_cons_zero, List.set_cons_succ])
            refine PlanO.exec (fun K hK => ?_)
            go_simp
            go_at_call 40
            refine (HC.out _).mono ?_
            rintro e u2 ⟨rfl, hb2⟩
            have hE2 : Ext wB.drew u2 := Ext.trans hE1 hb2
            go_wp2_with fail
            refine hK.out _ _ hb2 ?_
            clear hK K
            (try simp only [Act.put, List.setIfInBounds_toArray, List.set_cons_zero, List.set_cons_succ])
            refine PlanO.take (v := ?vd16) (by kernel_rfl) ?yd16 ?rd16
            case yd16 => (intro wz hz; go_simp; try with_reducible rfl)
            (try simp only [Act.put, List.setIfInBounds_toArray, List.set_cons_zero, List.set_cons_succ])
            refine PlanO.take (v := ?vd17) (by kernel_rfl) ?yd17 ?rd17
            case yd17 => (intro wz hz; go_simp; try with_reducible rfl)
            (try simp only [Act.put, List.setIfInBounds_toArray, List.set_cons_zero, List.set_cons_succ])
            refine PlanO.take (v := ?vd18) (by kernel_rfl) ?yd18 ?rd18
            case yd18 => (intro wz hz; go_simp; try with_reducible rfl)
            (try simp only [Act.put, List.setIfInBounds_toArray, List.set_cons_zero, List.set_cons_succ])
            refine PlanO.done (NoPanic.normal ?_)
            clear hmw
            go_wp2
            go_ret
            exact ⟨ret_bool (rising_no hlt (HN.out.trans HX.out)), hB.trans ((below_draw hE2).mono hB.size)⟩
    · have : k = es.length := by omega
      subst this
      clear hlt
      go_wp2
      go_ret
      exact ⟨ret_bool (rising_yes HG.out), hb⟩
end Go.Proofs.YteeikmpfgbfeoaaGreat

/-
  The first entry of a list that is not below a key, as the document seeks it.
-/
namespace Go.Proofs.YteeikmpfgbfeoaaGreat
open Go.RowKit

end Go.Proofs.YteeikmpfgbfeoaaGreat

/-
  Chapter 12, what is asked of package block: as contracts, which the walks take and the program's own texts give.
-/
namespace Go.Proofs.YteeikmpfgbfeoaaGreat
open Go.RowKit

def PutC : Prop := ∀ (v : Value) (es : List Ent) (w : World) (_ : RdE w v es) (_ : SmallE es), Calls Tryz.prog 20 #[v] w (RetPut w es)
def GetC : Prop := ∀ (v : Value) (b : List UInt8) (w : World) (_ : RdB w v b) (_ : b.length ≤ 1000000), Calls Tryz.prog 89 #[v] w (RetGet w b)
def SeekC : Prop := ∀ (v : Value) (b : List UInt8) (u : ByteArray) (s k : Int) (_ : u.size ≤ 1000) (_ : (Lit.int .i64 s).wf = true) (_ : (Lit.int .i64 k).wf = true) (w : World) (_ : RdB w v b) (_ : b.length ≤ 1000000),
    Calls Tryz.prog 73 #[v, .agg #[.string u, .int .i64 s, .int .i64 k]] w fun e w' => e = .returned (ansN (aboveL ((getB b).getD []) u s k)) ∧ Below w.heap.size w w'

end Go.Proofs.YteeikmpfgbfeoaaGreat
