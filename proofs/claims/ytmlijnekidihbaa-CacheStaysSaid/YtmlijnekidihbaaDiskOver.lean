/-
  A write laid over bytes (what 'over' of a write does).
-/
import Derived.Test.YtmlijnekidihbaaDiskAppend
namespace Go.Proofs.Ytmlijnekidihbaa
open Go.RowKit

theorem wr_split (l : List UInt8) (a : Nat) (p : List UInt8) (h : a ≤ l.length) : wr l a (p.take (l.length - a)) ++ p.drop (min p.length (l.length - a)) = wr l a p := by
  by_cases hp : p.length ≤ l.length - a
  · rw [Nat.min_eq_left hp, List.drop_length, List.append_nil, List.take_of_length_le hp]
  · rw [Nat.min_eq_right (by omega)]
    unfold wr
    have hd1 : l.drop (a + (l.length - a)) = [] := List.drop_eq_nil_of_le (by omega)
    have hd2 : l.drop (a + p.length) = [] := List.drop_eq_nil_of_le (by omega)
    have h1 : (p.take (l.length - a)).length = l.length - a := by rw [List.length_take]; omega
    rw [h1, hd1, hd2, List.append_nil, List.append_nil, List.append_assoc, List.take_append_drop]

set_option maxRecDepth 100000 in
set_option maxHeartbeats 2000000 in
set_option linter.unusedSimpArgs false in
theorem over_any (w : World) (at_ : Nat) (p : List UInt8) (v : Value) (l : List UInt8) (ho : OwnB w 0 5 v l) (hat : at_ ≤ l.length) (hl : l.length + p.length < 1000000000000) :
    Calls Try.prog 51 #[.agg #[.int .i64 (at_ : Int), .string (strB p)], v] w fun e w' => ∃ v', e = .returned v' ∧ OwnB w' 0 5 v' (wr l at_ p) ∧ Moves w w' v v' := by
  have hps := strB_size p
  obtain ⟨B, hB⟩ : ∃ B, w.heap.size = B := ⟨_, rfl⟩
  obtain ⟨w1, hw1⟩ : ∃ w1, w1 = (w.alloc (.cells #[.int .i64 (at_ : Int), .string (strB p)] 96)).drew := ⟨_, rfl⟩
  have hbx : w1.heap[B]? = some (.cells #[.int .i64 (at_ : Int), .string (strB p)] 96 (0, 0)) := by
    subst hB; subst hw1
    exact heap_alloc_new w _
  have hbel : Below w.heap.size w w1 := by
    subst hw1
    exact ((Below.refl _ _).alloc (Nat.le_refl _) _).drew
  have ho1 : OwnB w1 0 5 v l := own_kept ho (Kept.of hbel (R := fun k => k < w.heap.size) fun _ h => h) fun k hk => own_lt ho k hk
  have hBv : some B ≠ v.ownBlock := fun e => by have := own_lt ho B e.symm; omega
  have hat1 : (at_ : Int) ≤ (l.length : Int) := by omega
  have hat2 : (0 : Int) ≤ (at_ : Int) := by omega
  obtain ⟨ad, cap, hv, hc1, hc2⟩ := ho.read.form
  have hform := ho.2
  have hw2 := Lib.hid hw1
  clear hw1
  have hB2 := Lib.hid hB
  clear hB
  have hsplit := Lib.hid (wr_split l at_ p hat)
  have hmin1 : min p.length (l.length - at_) ≤ p.length := Nat.min_le_left _ _
  have hmin2 : min p.length (l.length - at_) ≤ l.length - at_ := Nat.min_le_right _ _
  obtain ⟨n, hn⟩ : ∃ n, n = min p.length (l.length - at_) := ⟨_, rfl⟩
  subst hv
  have hext : (strB p).extract n p.length = strB (p.drop n) := by
    apply ByteArray.ext
    apply Array.ext'
    rw [ByteArray.data_extract]
    simp [List.extract_eq_take_drop, List.take_of_length_le]
  have hn1 : (n : Int) ≤ (p.length : Int) := by omega
  have hn0 : (0 : Int) ≤ (n : Int) := by omega
  have hnL : l.length + p.length < 1000000000000 := hl
  have hwl := wr_length l (p.take (l.length - at_)) at_ hat
  rw [List.length_take] at hwl
  have Hwl := Lib.hid hwl
  clear hwl
  have Hn := Lib.hid hn
  have Hext := Lib.hid hext
  clear hn hext
  have hdp : ∀ g, at_ < l.length → (Value.slice ad l.length cap).ownBlock = some g → (if cap = at_ then ad else ad.map fun a => a.add at_) = some ⟨g, at_, none⟩ := by
    intro g hg he
    obtain ⟨g', cap', cur, hv, h1, h2, _⟩ := own_form ho (by omega)
    cases hv
    cases he
    rw [if_neg (by omega)]
    simp [Addr.add]
    exact fun h => h.symm
  go_enter Try.func51, Try.ntmps51
  go_wp2
  refine wp_region_two (fun wz => wz.heap[B]? = some (.cells #[.int .i64 (at_ : Int), .string (strB p)] 96 (0, 0))) (fun wz => wz.heap[B]? = some (.cells #[.int .i64 (at_ : Int), .string (strB p)] 96 (0, 0))) [(0, 0), (0, 1), (0, 2), (0, 3), (0, 4), (0, 5), (2, 6), (0, 7)] [] (by kernel_rfl) (by kernel_rfl) (by kernel_rfl) (by kernel_rfl) (by kernel_rfl) (by rw [← hw2.out]; exact hbx) (by rw [← hw2.out]; exact hbx) ?_
  simp only [planT, List.drop_succ_cons, List.drop_zero]
  rw [hB2.out, ← hw2.out]
  refine PlanT.take0 (v := ?v0) (by kernel_rfl) ?y0 ?r0
  case y0 => (intro wz hz; have q0 : wz.cell? ⟨B, 0, none⟩ = some (.int .i64 (at_ : Int)) := blk_cell hz; have q1 : wz.cell? ⟨B, 1, none⟩ = some (.string (strB p)) := blk_cell hz; go_simp; try with_reducible rfl)
  (try simp only [Act.put, List.setIfInBounds_toArray, List.set_cons_zero, List.set_cons_succ])
  refine PlanT.take0 (v := ?v1) (by kernel_rfl) ?y1 ?r1
  case y1 => (intro wz hz; have q0 : wz.cell? ⟨B, 0, none⟩ = some (.int .i64 (at_ : Int)) := blk_cell hz; have q1 : wz.cell? ⟨B, 1, none⟩ = some (.string (strB p)) := blk_cell hz; go_simp; try with_reducible rfl)
  (try simp only [Act.put, List.setIfInBounds_toArray, List.set_cons_zero, List.set_cons_succ])
  refine PlanT.take0 (v := ?v2) (by kernel_rfl) ?y2 ?r2
  case y2 => (intro wz hz; have q0 : wz.cell? ⟨B, 0, none⟩ = some (.int .i64 (at_ : Int)) := blk_cell hz; have q1 : wz.cell? ⟨B, 1, none⟩ = some (.string (strB p)) := blk_cell hz; go_simp; try with_reducible rfl)
  (try simp only [Act.put, List.setIfInBounds_toArray, List.set_cons_zero, List.set_cons_succ])
  refine PlanT.take0 (v := ?v3) (by kernel_rfl) ?y3 ?r3
  case y3 => (intro wz hz; have q0 : wz.cell? ⟨B, 0, none⟩ = some (.int .i64 (at_ : Int)) := blk_cell hz; have q1 : wz.cell? ⟨B, 1, none⟩ = some (.string (strB p)) := blk_cell hz; go_simp; try with_reducible rfl)
  (try simp only [Act.put, List.setIfInBounds_toArray, List.set_cons_zero, List.set_cons_succ])
  refine PlanT.take0 (v := ?v4) (by kernel_rfl) ?y4 ?r4
  case y4 => (intro wz hz; have q0 : wz.cell? ⟨B, 0, none⟩ = some (.int .i64 (at_ : Int)) := blk_cell hz; have q1 : wz.cell? ⟨B, 1, none⟩ = some (.string (strB p)) := blk_cell hz; go_simp; try with_reducible rfl)
  (try simp only [Act.put, List.setIfInBounds_toArray, List.set_cons_zero, List.set_cons_succ])
  refine PlanT.take0 (v := ?v5) (by kernel_rfl) ?y5 ?r5
  case y5 => (intro wz hz; have q0 : wz.cell? ⟨B, 0, none⟩ = some (.int .i64 (at_ : Int)) := blk_cell hz; have q1 : wz.cell? ⟨B, 1, none⟩ = some (.string (strB p)) := blk_cell hz; go_simp; try with_reducible rfl)
  (try simp only [Act.put, List.setIfInBounds_toArray, List.set_cons_zero, List.set_cons_succ])
  refine PlanT.exec2 (fun K hK => ⟨by kernel_rfl, ?_⟩)
  refine wp_copy_str (.tmp 9) (.tmp 11) 22 9 rfl 5 Try.underlying22 info_u8 _ l p ho1 _ at_ _ rfl rfl hat hdp n Hn.out ?_
  intro w2 ho2 hm2 hz2
  clear hz2
  have hbx2 := (hm2.grown.block B (blk_lt hbx) hBv).trans hbx
  refine hK.out _ _ hbx2 hbx2 ?_
  clear hK K
  (try simp only [Act.put, List.setIfInBounds_toArray, List.set_cons_zero, List.set_cons_succ])
  refine PlanT.take0 (v := ?v7) (by kernel_rfl) ?y7 ?r7
  case y7 => (intro wz hz; have q0 : wz.cell? ⟨B, 0, none⟩ = some (.int .i64 (at_ : Int)) := blk_cell hz; have q1 : wz.cell? ⟨B, 1, none⟩ = some (.string (strB p)) := blk_cell hz; go_simp; try with_reducible rfl)
  (try simp only [Act.put, List.setIfInBounds_toArray, List.set_cons_zero, List.set_cons_succ])
  refine PlanT.done (NoPanic.normal ?_)
  have q0 : w2.cell? ⟨B, 0, none⟩ = some (.int .i64 (at_ : Int)) := blk_cell hbx2
  have q1 : w2.cell? ⟨B, 1, none⟩ = some (.string (strB p)) := blk_cell hbx2
  generalize (if cap = at_ then ad else Option.map (fun x => x.add at_) ad) = dp
  go_wp2_with (at_builtin; refine wpList_plain rfl fun K' hK' => ?_; refine wp_append_str (.tmp 13) (.tmp 17) 22 9 rfl 5 Try.underlying22 Try.underlying9 info_u8 (.slice ad l.length cap) _ (p.drop n) rfl (congrArg Value.string Hext.out) ho2 (by rw [Hwl.out, List.length_drop]; omega) (fun v' w' ho3 hm3 => hK' _ _ ?_))
  go_ret
  refine ⟨v', rfl, ?_, Moves.after hbel (hm2.trans hm3)⟩
  have := hsplit.out
  rw [← Hn.out] at this
  rw [this] at ho3
  exact ho3
end Go.Proofs.Ytmlijnekidihbaa
