/-
  The list with towers: a node is linked behind others.
-/
import Derived.Test.YtjiefffmcohcbaaMemAll
import Derived.Test.YtjiefffmcohcbaaTwo
namespace Go.Proofs.Ytjiefffmcohcbaa
open Go.RowKit

/-- While a node is entered. -/
def MS.mid (m : MS) (e : Ent) (t j : Nat) : MS := ⟨m.linked e (m.es.length + 1) j, fun a => if a = m.es.length + 1 then t else m.ht a, m.es ++ [e], m.ord, m.sz⟩

theorem MS.Ok.mid_path {m : MS} (hok : m.Ok) (e : Ent) {t j : Nat} (ht : t ≤ 12) (hj : j < t) (i : Nat) : LinkIn (m.mid e t i) (m.path e j) j := by
  rcases hok.path_at e j with h | ⟨h1, h2, h3⟩
  · exact .inl ⟨h, by omega⟩
  · refine .inr ⟨h1, ?_, ?_⟩
    · show _ ≤ (m.es ++ [e]).length
      rw [List.length_append]; omega
    · show j < (if m.path e j = m.es.length + 1 then t else m.ht (m.path e j))
      rw [if_neg (by omega)]; exact h3
theorem MS.mid_new (m : MS) (e : Ent) {t j : Nat} (hj : j < t) (i : Nat) : LinkIn (m.mid e t i) (m.es.length + 1) j := by
  refine .inr ⟨by omega, ?_, ?_⟩
  · show _ ≤ (m.es ++ [e]).length
    rw [List.length_append]; simp
  · show j < (if m.es.length + 1 = m.es.length + 1 then t else m.ht (m.es.length + 1))
    rw [if_pos rfl]; exact hj
theorem MS.Ok.mid_ht {m : MS} (hok : m.Ok) (e : Ent) {t : Nat} (ht : t ≤ 12) (i : Nat) : ∀ b, 1 ≤ b → b ≤ (m.mid e t i).es.length → (m.mid e t i).ht b ≤ 12 := by
  intro b h1 h2
  have h2' : b ≤ (m.es ++ [e]).length := h2
  rw [List.length_append, List.length_singleton] at h2'
  show (if b = m.es.length + 1 then t else m.ht b) ≤ 12
  by_cases h : b = m.es.length + 1
  · rw [if_pos h]; exact ht
  · rw [if_neg h]; exact (hok.ht b h1 (by omega)).2
theorem MS.mid_lk (m : MS) (e : Ent) (t j : Nat) : (m.mid e t j).lk (m.path e j) j = m.lk (m.path e j) j := by
  show m.linked e (m.es.length + 1) j (m.path e j) j = _
  unfold MS.linked
  rw [if_neg (by omega)]

/-- The two stores of a round. -/
theorem enter_round {g : GM} {w : World} {p : Nat} {m : MS} (hok : m.Ok) (e : Ent) {t j : Nat} (ht : t ≤ 12) (hj : j < t) (hm : MemAt g w p (m.mid e t j)) :
    MemAt g (w.setCell (laddr g p (m.es.length + 1) j) (.int .i64 (m.lk (m.path e j) j : Int))) p { m.mid e t j with lk := upd (m.mid e t j).lk (m.es.length + 1) j (m.lk (m.path e j) j) } ∧
    MemAt g ((w.setCell (laddr g p (m.es.length + 1) j) (.int .i64 (m.lk (m.path e j) j : Int))).setCell (laddr g p (m.path e j) j) (.int .i64 ((m.es.length + 1 : Nat) : Int))) p (m.mid e t (j + 1)) := by
  have h1 := hm.set (m.mid_new e hj j) (m.lk (m.path e j) j)
  have h2 := h1.set (a := m.path e j) (h := j) (hok.mid_path e ht hj j) (m.es.length + 1)
  refine ⟨h1, ?_⟩
  have hne : m.path e j ≠ m.es.length + 1 := by have := hok.path_le e j; omega
  have key := m.linked_succ e (m.es.length + 1) j hne
  have hl : m.linked e (m.es.length + 1) j (m.path e j) j = m.lk (m.path e j) j := m.mid_lk e t j
  rw [hl] at key
  have e1 : ({ ({ m.mid e t j with lk := upd (m.mid e t j).lk (m.es.length + 1) j (m.lk (m.path e j) j) } : MS) with lk := upd (upd (m.mid e t j).lk (m.es.length + 1) j (m.lk (m.path e j) j)) (m.path e j) j (m.es.length + 1) } : MS) = m.mid e t (j + 1) := by
    unfold MS.mid
    simp only
    rw [key]
  rw [← e1]
  exact h2

theorem pathB_at (m : MS) (K : Ent) {j : Nat} (hj : j < 12) : (pathC m K 0).toArray[j]? = some (.int .i64 (m.path K j : Int)) := by
  rw [List.getElem?_toArray]
  unfold pathC
  rw [lkCells_at _ _ hj, if_neg (by omega)]

structure EnterW (g : GM) (p : Nat) (m : MS) (e : Ent) (t : Nat) (w wr : World) (j : Nat) : Prop where
  at_ : MemAt g wr p (m.mid e t j)
  box : wr.heap[w.heap.size]? = some (.cells (pathC m e 0).toArray 50 (0, 0))
  tch : Touch g.F w wr

theorem EnterW.next {g : GM} {p : Nat} {m : MS} {e : Ent} {t j : Nat} {w wr : World} (h : EnterW g p m e t w wr j) (hok : m.Ok) (ht : t ≤ 12) (hj : j < t) (hS : ∀ k, g.F k → k < w.heap.size) :
    EnterW g p m e t w ((wr.setCell (laddr g p (m.es.length + 1) j) (.int .i64 (m.lk (m.path e j) j : Int))).setCell (laddr g p (m.path e j) j) (.int .i64 ((m.es.length + 1 : Nat) : Int))) (j + 1) := by
  have f1 := h.at_.laddr_F (m.mid_new e hj j)
  have f2 := h.at_.laddr_F (hok.mid_path e ht hj j)
  have g1 := hS _ f1
  have g2 := hS _ f2
  exact {
    at_ := (enter_round hok e ht hj h.at_).2
    box := ((Below.heap_setCell _ _ _ _ (by omega)).trans (Below.heap_setCell _ _ _ _ (by omega))).trans h.box
    tch := by
      refine Kept.setCell (Kept.setCell h.tch ?_ _) ?_ _
      · exact fun hk => hk.2 f1
      · exact fun hk => hk.2 f2 }

set_option maxRecDepth 100000 in
set_option maxHeartbeats 8000000 in
theorem enter_at {g : GM} {w : World} {p : Nat} {m : MS} (hok : m.Ok) (e : Ent) {t : Nat} (ht1 : 1 ≤ t) (ht2 : t ≤ 12) (hlen : m.es.length < 1000000) (hm : MemAt g w p (m.mid e t 0)) (v : Nat) (hv : m.es.length + 1 = v) :
    Calls Try.prog 24 #[.pointer (some ⟨p, 0, none⟩), .int .i64 (v : Int), .agg (pathC m e 0).toArray] w fun r w' => r = .returned (.tuple #[]) ∧ MemAt g w' p (m.mid e t t) ∧ Touch g.F w w' := by
  have hm1 := hm.below ((Below.refl _ _).alloc (Nat.le_refl _) (.cells (pathC m e 0).toArray 50))
  have hE0 : EnterW g p m e t w (w.alloc (.cells (pathC m e 0).toArray 50)) 0 := ⟨hm1, heap_alloc_new w _, Touch.of_below ((Below.refl _ _).alloc (Nat.le_refl _) _)⟩
  have hS := hm.olt
  obtain ⟨b, cap, hnv, hn, hcm, hob, _, _, _, _, c4⟩ := hm.node (a := v) (by omega) (by show v ≤ (m.es ++ [e]).length; rw [List.length_append]; simp; omega)
  obtain ⟨f1, _, _, _⟩ := hm.fields
  have hpw : p < w.heap.size := blk_lt hm.blk
  have hbw : b < w.heap.size := hm.olt b (by rw [hob]; decide)
  rw [hnv] at f1
  have htv : (m.mid e t 0).ht v = t := by show (if v = m.es.length + 1 then t else _) = t; rw [if_pos hv.symm]
  rw [htv] at c4
  have hln : (m.mid e t 0).es.length = v := by show (m.es ++ [e]).length = v; rw [List.length_append]; simp; omega
  rw [hln] at f1 hn
  obtain ⟨u, rfl⟩ : ∃ u, v = u + 1 := ⟨v - 1, by omega⟩
  rw [Nat.add_sub_cancel] at c4
  have e1 : ((u + 1 : Nat) : Int) = (u : Int) + 1 := by omega
  rw [e1]
  clear e1
  have d2 : IntKind.i64.wrap ((u : Int) + 1 - 1) = (u : Int) := by rw [IntWalk.i64_in _ (by omega)]; omega
  have d3 : (u : Int) < (u : Int) + 1 := by omega
  have HE0 := Lib.hid hE0
  have HS := Lib.hid (show ∀ k, g.F k → k < w.heap.size from hS)
  have HOK := Lib.hid hok
  have HV := Lib.hid hv
  unfold maxLen at hcm
  clear hm1 hE0 hS hm hnv htv hln hok hv hob
  generalize g.tb (u + 1) = tb at c4
  go_enter Try.func24, Try.ntmps24
  go_wp2
  go_loopw [18] (fun i wr => ∃ j : Nat, j ≤ t ∧ i = .int .i64 (j : Int) ∧ Hid (EnterW g p m e t w wr j)) (fun i _ => t - (intOf i).toNat)
  case atStart => exact ⟨0, Nat.zero_le _, rfl, HE0⟩
  case round =>
    obtain ⟨j, hj, rfl, HW⟩ := hrel
    by_cases hlt : j < t
    · have hlt' : (j : Int) < (t : Int) := by omega
      have hj12 : (j : Int) < 12 := by omega
      have hma := HW.out.at_
      have hk := (blk_cell (i := j) HW.out.box).trans (pathB_at m e (by omega))
      have l1 := HOK.out.mid_path e ht2 hlt j
      have l2 := m.mid_new e hlt j
      have hlp := link_at hma l1 (HOK.out.mid_ht e ht2 j)
      obtain ⟨w1, hw1⟩ : ∃ w1, w1 = wr.drew := ⟨_, rfl⟩
      have hwd : EnterW g p m e t w w1 j := by rw [hw1]; exact ⟨HW.out.at_.drew, HW.out.box, HW.out.tch.drew⟩
      have hlv := link_at hwd.at_ l2 (HOK.out.mid_ht e ht2 j)
      have cp := hwd.at_.cell l1
      have cv := hwd.at_.cell l2
      have c2 := (enter_round HOK.out e ht2 hlt hwd.at_).1.cell (a := m.path e j) (h := j) l1
      have hnx := hwd.next HOK.out ht2 hlt HS.out
      rw [m.mid_lk e t j] at cp
      rw [HV.out] at hlv cv hnx c2
      obtain ⟨ap, hap⟩ := laddr_form g p (m.path e j) j
      obtain ⟨av, hav⟩ := laddr_form g p (u + 1) j
      rw [hap] at hlp cp c2 hnx
      rw [hav] at hlv cv c2 hnx
      obtain ⟨cp1, cp2⟩ := cp
      obtain ⟨cv1, cv2⟩ := cv
      obtain ⟨c21, c22⟩ := c2
      have e1 : ((u + 1 : Nat) : Int) = (u : Int) + 1 := by omega
      rw [e1] at hlv hnx
      clear e1
      have HLP := Lib.hid hlp
      have HLV := Lib.hid hlv
      have HNX := Lib.hid hnx
      have w1' : IntKind.i64.wrap ((j : Int) + 1) = ((j + 1 : Nat) : Int) := by rw [IntWalk.i64_in _ (by omega)]; omega
      have Hw1 := Lib.hid hw1
      clear hma l1 l2 hlp hlv hnx hap hav hw1 hwd
      generalize m.lk (m.path e j) j = x at *
      generalize (upd (m.mid e t j).lk (u + 1) j x (m.path e j) j : Int) = y at *
      generalize m.path e j = q at *
      go_wp2_with (go_at_call 22; (with_reducible refine HLP.out.mono ?_); rintro e w9 ⟨rfl, rfl⟩)
      refine wp_region_two (fun wz => wz = w1) (fun _ => True) [(0, 0), (0, 1), (0, 2), (0, 4), (0, 5), (0, 6), (2, 3), (0, 7), (3, 8)] [8] (by kernel_rfl) (by kernel_rfl) (by kernel_rfl) (by kernel_rfl) (by kernel_rfl) Hw1.out.symm trivial ?_
      simp only [planT, List.drop_succ_cons, List.drop_zero]
      rw [← Hw1.out]
      refine PlanT.take0 (v := ?vE0) (by kernel_rfl) ?yE0 ?rE0
      case yE0 => (intro wz hz; cases hz; go_simp; try with_reducible rfl)
      (try simp only [Act.put, List.setIfInBounds_toArray, List.set_cons_zero, List.set_cons_succ])
      refine PlanT.take0 (v := ?vE1) (by kernel_rfl) ?yE1 ?rE1
      case yE1 => (intro wz hz; cases hz; go_simp; try with_reducible rfl)
      (try simp only [Act.put, List.setIfInBounds_toArray, List.set_cons_zero, List.set_cons_succ])
      refine PlanT.take0 (v := ?vE2) (by kernel_rfl) ?yE2 ?rE2
      case yE2 => (intro wz hz; cases hz; go_simp; try with_reducible rfl)
      (try simp only [Act.put, List.setIfInBounds_toArray, List.set_cons_zero, List.set_cons_succ])
      refine PlanT.take0 (v := ?vE4) (by kernel_rfl) ?yE4 ?rE4
      case yE4 => (intro wz hz; cases hz; go_simp; try with_reducible rfl)
      (try simp only [Act.put, List.setIfInBounds_toArray, List.set_cons_zero, List.set_cons_succ])
      refine PlanT.take0 (v := ?vE5) (by kernel_rfl) ?yE5 ?rE5
      case yE5 => (intro wz hz; cases hz; go_simp; try with_reducible rfl)
      (try simp only [Act.put, List.setIfInBounds_toArray, List.set_cons_zero, List.set_cons_succ])
      refine PlanT.take0 (v := ?vE6) (by kernel_rfl) ?yE6 ?rE6
      case yE6 => (intro wz hz; cases hz; go_simp; try with_reducible rfl)
      (try simp only [Act.put, List.setIfInBounds_toArray, List.set_cons_zero, List.set_cons_succ])
      refine PlanT.exec2 (fun K hK => ⟨by kernel_rfl, ?_⟩)
      go_simp
      go_at_call 22
      (with_reducible refine HLV.out.mono ?_)
      rintro e w9 ⟨rfl, rfl⟩
      go_wp2_with fail
      refine hK.out _ _ rfl trivial ?_
      clear hK K
      (try simp only [Act.put, List.setIfInBounds_toArray, List.set_cons_zero, List.set_cons_succ])
      refine PlanT.take0 (v := ?vE7) (by kernel_rfl) ?yE7 ?rE7
      case yE7 => (intro wz hz; cases hz; go_simp; try with_reducible rfl)
      (try simp only [Act.put, List.setIfInBounds_toArray, List.set_cons_zero, List.set_cons_succ])
      refine PlanT.exec3 (fun K hK => ⟨by kernel_rfl, ?_⟩)
      go_simp
      refine hK.out _ _ trivial ?_
      clear hK K
      (try simp only [Act.put, List.setIfInBounds_toArray, List.set_cons_zero, List.set_cons_succ])
      refine PlanT.done (NoPanic.normal ?_)
      go_wp2
      go_roundw
      case rel => exact ⟨j + 1, hlt, rfl, HNX⟩
      case measure => (simp [intOf]; try omega)
    · obtain rfl : j = t := by omega
      go_wp2
      go_end0
      exact ⟨rfl, HW.out.at_, HW.out.tch⟩
end Go.Proofs.Ytjiefffmcohcbaa
