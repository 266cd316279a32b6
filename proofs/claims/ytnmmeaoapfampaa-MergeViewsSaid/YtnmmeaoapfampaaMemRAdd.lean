/-
  What the document's Add does.
-/
import Derived.Test.YtnmmeaoapfampaaOwnEnt
import Derived.Test.YtnmmeaoapfampaaMemMath
import Derived.Test.YtnmmeaoapfampaaMoves
import Derived.Test.YtnmmeaoapfampaaTwo
import Derived.Test.YtnmmeaoapfampaaKeyRefCmp
import Derived.Deep.QuietTactic
import Derived.BigQuiet
namespace Go.Proofs.Ytnmmeaoapfampaa
open Go.RowKit

/-- The document's memory 'q', with the blocks 'G', keeps the entries 'L'. -/
def Ro (G : Nat → Prop) (w : World) (q : Nat) (L : List Ent) : Prop :=
  ∃ v, w.heap[q]? = some (.cells #[v] 57 (0, 0)) ∧ OwnE w 0 v L ∧ v.ownBlock ≠ some q ∧ (∀ k, G k ↔ k = q ∨ v.ownBlock = some k) ∧ (∀ e ∈ L, e.fits)

theorem Ro.lt {G : Nat → Prop} {w : World} {q : Nat} {L : List Ent} (h : Ro G w q L) : ∀ k, G k → k < w.heap.size := by
  obtain ⟨v, h1, h2, _, h4, _⟩ := h
  intro k hk
  rcases (h4 k).1 hk with rfl | hk
  · exact blk_lt h1
  · exact (World.ownsRow.lt h2 k hk).2
theorem Ro.kept {G R : Nat → Prop} {w w' : World} {q : Nat} {L : List Ent} (h : Ro G w q L) (hk : Kept R w w') (hR : ∀ k, G k → R k) : Ro G w' q L := by
  obtain ⟨v, h1, h2, h3, h4, h5⟩ := h
  exact ⟨v, (hk.block q (hR q ((h4 q).2 (.inl rfl)))).trans h1, own_kept h2 hk fun k e => hR k ((h4 k).2 (.inr e)), h3, h4, h5⟩
theorem Ro.below {G : Nat → Prop} {w w' : World} {q : Nat} {L : List Ent} (h : Ro G w q L) (hb : Below w.heap.size w w') : Ro G w' q L := h.kept (R := G) (Kept.of hb fun k hk => h.lt k hk) fun _ h => h
theorem Ro.touch {G F : Nat → Prop} {w w' : World} {q : Nat} {L : List Ent} (h : Ro G w q L) (hk : Touch F w w') (hF : ∀ k, G k → ¬ F k) : Ro G w' q L := h.kept (R := G) (Kept.mono hk fun k hk' => ⟨h.lt k hk', hF k hk'⟩) fun _ h => h

/-- What the document's Add makes of it. -/
def RAddTo (G : Nat → Prop) (q : Nat) (L : List Ent) (e : Ent) (w : World) (r : Ending) (w' : World) : Prop :=
  r = .returned (.bool (addB e L)) ∧ ∃ G', Ro G' w' q (addL e L) ∧ Touch G w w' ∧ Grows G G' w w'

theorem raddTo_no {G : Nat → Prop} {q : Nat} {L : List Ent} {e : Ent} {w w' : World} (h : Ro G w q L) (hb : Below w.heap.size w w') (hn : addB e L = false) : RAddTo G q L e w (.returned (.bool false)) w' :=
  ⟨by rw [hn], G, by unfold addL; rw [hn]; exact h.below hb, Touch.of_below hb, Grows.refl _ _ _⟩

theorem made_E (w : World) : (w.alloc (.cells #[] 38)).ownsRow w.heap.size 38 4 (.slice (some ⟨w.heap.size, 0, none⟩) 0 0) 0 [] := World.ownsRow_made w #[] 0 (Nat.le_refl _) (Nat.zero_le _) rfl

/-- Where the key comes to lie. -/
theorem cutE {e : Ent} : ∀ {l : List Ent} {k : Nat}, k ≤ l.length → (∀ j, j < k → (l.getD j Ent.none_).cmp e < 0) → (k < l.length → ¬ (l.getD k Ent.none_).cmp e < 0) → lowE e l = l.take k ∧ highE e l = l.drop k
  | [], 0, _, _, _ => ⟨rfl, rfl⟩
  | [], k + 1, h, _, _ => by simp at h
  | x :: r, 0, _, _, h2 => by
    have h0 : ¬ x.cmp e < 0 := h2 (by simp)
    unfold lowE highE
    rw [List.takeWhile_cons, List.dropWhile_cons, if_neg (by simpa using h0), if_neg (by simpa using h0)]
    exact ⟨rfl, rfl⟩
  | x :: r, k + 1, h, h1, h2 => by
    have h0 : x.cmp e < 0 := h1 0 (by omega)
    obtain ⟨i1, i2⟩ := cutE (l := r) (k := k) (by simpa using h) (fun j hj => h1 (j + 1) (by omega)) (fun hk => h2 (by simpa using hk))
    unfold lowE highE at *
    rw [List.takeWhile_cons, List.dropWhile_cons, if_pos (by simpa using h0), if_pos (by simpa using h0), i1, i2]
    exact ⟨rfl, rfl⟩

theorem radd_done {G : Nat → Prop} {w wS wP : World} {q : Nat} {L : List Ent} {e : Ent} {k : Nat} {v : Value} {a : Option Addr} {n c : Nat} (hq : q < w.heap.size) (hfa : (∀ x ∈ L, x.fits) ∧ e.fits ∧ G q) (hadd : addB e L = true) (hl : k ≤ L.length ∧ insE e L = L.take k ++ [e] ++ L.drop k)
    (hbS : Below w.heap.size w wS) (hb : Below wS.heap.size wS wP) (hqC : wP.heap[q]? = some (.cells #[v] 57 (0, 0))) (_hq2 : q < w.heap.size)
    (ho : wP.ownsRow wS.heap.size 38 4 (.slice a n c) (k + 1 + (L.length - k)) ((L.take k).flatMap Ent.cells ++ (e.cells ++ (L.drop k).flatMap Ent.cells))) :
    RAddTo G q L e w (.returned (.bool true)) (wP.setCell ⟨q, 0, none⟩ (.slice a n c)) := by
  have hsz := hbS.size
  have hz2 := hb.size
  have hbl : ∀ j, (Value.slice a n c).ownBlock = some j → wS.heap.size ≤ j ∧ j < wP.heap.size := fun j hj => World.ownsRow.lt ho j hj
  have hlen : (insE e L).length = k + 1 + (L.length - k) := by rw [ins_len]; omega
  have hcl : (insE e L).flatMap Ent.cells = (L.take k).flatMap Ent.cells ++ (e.cells ++ (L.drop k).flatMap Ent.cells) := by rw [hl.2, List.flatMap_append, List.flatMap_append]; simp
  refine ⟨by rw [hadd], fun j => j = q ∨ (Value.slice a n c).ownBlock = some j, ?_, ?_, ?_⟩
  · unfold addL
    rw [hadd]
    refine ⟨.slice a n c, by rw [blk_set hqC]; rfl, ?_, fun h => by have := hbl q h; omega, fun k => Iff.rfl, fun x hx => ?_⟩
    · show (wP.setCell _ _).ownsRow 0 38 4 _ (insE e L).length ((insE e L).flatMap Ent.cells)
      rw [hlen, hcl]
      exact own_kept (own_base ho fun _ _ => Nat.zero_le _) (R := fun j => j ≠ q) ((Kept.refl _ wP).setCell (fun h => h rfl) _) fun j hj e => by have := hbl j hj; omega
    · rcases ins_mem.1 (show x ∈ insE e L from hx) with rfl | hx
      · exact hfa.2.1
      · exact hfa.1 x hx
  · have k1 : Kept (Apart G w) w wP := Kept.of (hbS.trans (hb.mono hsz)) fun k hk => hk.1
    exact k1.setCell (fun h => h.2 hfa.2.2) _
  · intro j hj
    rcases hj with rfl | hj
    · exact .inl hfa.2.2
    · have := hbl j hj
      exact .inr ⟨by omega, by simp [World.setCell]; omega⟩

theorem ent_more {l : List Ent} {e : Ent} {k : Nat} (h : ∀ j, j < k → (l.getD j Ent.none_).cmp e < 0) (h2 : (l.getD k Ent.none_).cmp e < 0) : ∀ j, j < k + 1 → (l.getD j Ent.none_).cmp e < 0 := by
  intro j hj
  rcases Nat.lt_or_ge j k with h1 | h1
  · exact h j h1
  · obtain rfl : j = k := by omega
    exact h2

theorem add_true {e : Ent} {L : List Ent} {k : Nat} (hmay : e.may = true) (hk : k ≤ L.length) (h1 : ∀ j, j < k → (L.getD j Ent.none_).cmp e < 0) (h2 : k < L.length → ¬ (L.getD k Ent.none_).cmp e < 0 ∧ (L.getD k Ent.none_).cmp e ≠ 0) :
    addB e L = true ∧ insE e L = L.take k ++ [e] ++ L.drop k := by
  obtain ⟨c1, c2⟩ := cutE hk h1 fun h => (h2 h).1
  have hin : isIn e L = false := by
    unfold isIn
    rw [c2]
    split
    · rfl
    · rename_i x r hx
      have hlt : k < L.length := by
        rcases Nat.lt_or_ge k L.length with h | h
        · exact h
        · rw [List.drop_of_length_le h] at hx; cases hx
      have hx2 : L.getD k Ent.none_ = x := by
        rw [List.drop_eq_getElem_cons hlt] at hx
        simp only [List.getD, List.getElem?_eq_getElem hlt, Option.getD_some]
        injection hx
      have := (h2 hlt).2
      rw [hx2] at this
      simpa using this
  refine ⟨by unfold addB; rw [hmay, hin]; rfl, ?_⟩
  unfold insE
  rw [c1, c2]; simp

theorem add_false {e : Ent} {L : List Ent} {k : Nat} (hk : k < L.length) (h1 : ∀ j, j < k → (L.getD j Ent.none_).cmp e < 0) (h2 : (L.getD k Ent.none_).cmp e = 0) : addB e L = false := by
  obtain ⟨c1, c2⟩ := cutE (Nat.le_of_lt hk) h1 fun _ => by omega
  have hin : isIn e L = true := by
    unfold isIn
    rw [c2, List.drop_eq_getElem_cons hk]
    have : L.getD k Ent.none_ = L[k] := by simp [List.getD, hk]
    rw [this] at h2
    simpa using h2
  unfold addB
  rw [hin]; simp

theorem radd_no {G : Nat → Prop} {w : World} {q : Nat} {L : List Ent} (h : Ro G w q L) (e : Ent) (he : e.fits) (hmay : e.may = false) :
    Calls Try.prog 29 #[.pointer (some ⟨q, 0, none⟩), .agg #[.string e.u, .int .i64 e.s, .int .i64 e.k, .string e.v]] w (RAddTo G q L e w) := by
  have hM := rmayE_any e.u e.s e.k e.v he.1 he.2.1
  have hM1 : mayE e.u.data.toList e.s e.k e.v.data.toList = false := hmay
  rw [hM1] at hM
  have HMAY := Lib.hid hM
  have HR := Lib.hid h
  have HN := Lib.hid (show addB e L = false by unfold addB; rw [hmay]; rfl)
  clear hM hM1 h hmay he
  go_enter Try.func29, Try.ntmps29
  go_wp2_with (go_at_call 39; (refine (HMAY.out _).mono ?_); rintro r w1 ⟨rfl, hb1⟩; (have hbw1 := belowT ((Below.refl _ _).alloc (Nat.le_refl _) _) hb1); (have hs1 := (hb1.block w.heap.size (by simp)).trans (heap_alloc_new w (.cells #[.string e.u, .int .i64 e.s, .int .i64 e.k, .string e.v] 38))); (have HB1 := Lib.hid hbw1); (have HS1 := Lib.hid hs1); clear hbw1 hs1 hb1)
  go_ret
  exact raddTo_no HR.out HB1.out HN.out

set_option maxRecDepth 100000 in
set_option maxHeartbeats 16000000 in
theorem radd_yes {G : Nat → Prop} {w : World} {q : Nat} {L : List Ent} (e : Ent) (he : e.fits) (hmay : e.may = true) (va : Option Addr) (vc : Nat) (hq : w.heap[q]? = some (.cells #[.slice va L.length vc] 57 (0, 0))) (hGq : G q) (hf : ∀ x ∈ L, x.fits)
    (ho : OwnE w 0 (.slice va L.length vc) L) (hR : Ro G w q L) (hll : L.length < 100000) :
    Calls Try.prog 29 #[.pointer (some ⟨q, 0, none⟩), .agg #[.string e.u, .int .i64 e.s, .int .i64 e.k, .string e.v]] w (RAddTo G q L e w) := by
  have hM := rmayE_any e.u e.s e.k e.v he.1 he.2.1
  have hM1 : mayE e.u.data.toList e.s e.k e.v.data.toList = true := hmay
  rw [hM1] at hM
  obtain ⟨va', vc', hv', hc1, hc2⟩ := ho.form
  cases hv'
  unfold maxLen at hc2
  have HMAY := Lib.hid hM
  have HQ := Lib.hid hq
  have HO := Lib.hid ho
  have HRO := Lib.hid hR
  have HQL := Lib.hid (blk_lt hq)
  have HQL2 := Lib.hid (blk_lt hq)
  have HE := Lib.hid hmay
  have HFA := Lib.hid (show (∀ x ∈ L, x.fits) ∧ e.fits ∧ G q from ⟨hf, he, hGq⟩)
  clear hM hM1 hq ho he hGq hmay hf hR
  go_enter Try.func29, Try.ntmps29
  go_wp2_with (go_at_call 39; (refine (HMAY.out _).mono ?_); rintro r w1 ⟨rfl, hb1⟩; (have hbw1 := belowT ((Below.refl _ _).alloc (Nat.le_refl _) _) hb1); (have hs1 := (hb1.block w.heap.size (by simp)).trans (heap_alloc_new w (.cells #[.string e.u, .int .i64 e.s, .int .i64 e.k, .string e.v] 38))); (have HB1 := Lib.hid hbw1); (have HS1 := Lib.hid hs1); clear hbw1 hs1 hb1)
  go_loopw [5] (fun kk wr => ∃ k : Nat, k ≤ L.length ∧ kk = .int .i64 (k : Int) ∧ Hid (∀ j, j < k → (L.getD j Ent.none_).cmp e < 0) ∧ Hid (Below w1.heap.size w1 wr)) (fun kk _ => L.length - (intOf kk).toNat)
  case atStart => exact ⟨0, Nat.zero_le _, rfl, Lib.hid (fun j h => by omega), Lib.hid (Below.refl _ _)⟩
  case round =>
    obtain ⟨k, hk, rfl, HK, HB⟩ := hrel
    have hbr := belowT HB1.out HB.out
    have hqr := (hbr.block q HQL.out).trans HQ.out
    have hsr := (HB.out.block w.heap.size (blk_lt HS1.out)).trans HS1.out
    have q0 := blk_cell (i := 0) hqr
    have b0 := blk_cell (i := 0) hsr
    have b1 := blk_cell (i := 1) hsr
    have b2 := blk_cell (i := 2) hsr
    have b3 := blk_cell (i := 3) hsr
    have HBR := Lib.hid hbr
    have HSR := Lib.hid hsr
    clear hqr hsr
    by_cases hlt : k < L.length
    · obtain ⟨xg, hva, hxg, x0, x1, x2, x3⟩ := own_ent (HO.out.below hbr) hlt
      subst hva
      have hXf := fits_at HFA.out.1 k hlt
      have hC := rcmp_any (L.getD k Ent.none_).u (L.getD k Ent.none_).s (L.getD k Ent.none_).k e.u e.s e.k
      have hcc : cmpK (L.getD k Ent.none_).u.data.toList (L.getD k Ent.none_).s (L.getD k Ent.none_).k e.u.data.toList e.s e.k = (L.getD k Ent.none_).cmp e := rfl
      rw [hcc] at hC
      have HZ := Lib.hid (cmp_zero (L.getD k Ent.none_) e)
      have HMORE := Lib.hid (@ent_more L e k HK.out)
      have HTRUE := Lib.hid (fun h1 h2 => @add_true e L k HE.out hk HK.out (fun _ => ⟨h1, h2⟩))
      have HFALSE := Lib.hid (@add_false e L k hlt HK.out)
      generalize (L.getD k Ent.none_).cmp e = c at *
      generalize L.getD k Ent.none_ = X at *
      obtain ⟨xu, xs, xk, xv⟩ := X
      simp only at x0 x1 x2 x3 hC HZ
      have HC := Lib.hid hC
      clear hC hcc hXf hbr
      by_cases hneg : c < 0
      · have HN := Lib.hid (HMORE.out hneg)
        clear HMORE HTRUE HFALSE HZ
        go_wp2
        refine wp_region_plan [(true, 0), (true, 1), (true, 2), (true, 3), (true, 4), (true, 5), (true, 6), (true, 7), (true, 8), (true, 9), (true, 10), (true, 11), (true, 12), (true, 13), (true, 14), (true, 15), (true, 16), (true, 17), (false, 18), (true, 19), (true, 20)] (by kernel_rfl) (by kernel_rfl) (by kernel_rfl) (by kernel_rfl) (by kernel_rfl) ?_
        simp only [planO, List.drop_succ_cons, List.drop_zero]
        refine PlanO.take (v := ?va0) (by kernel_rfl) ?ya0 ?ra0
        case ya0 => (intro wz hz; go_simp; try with_reducible rfl)
        (try simp only [Act.put, List.setIfInBounds_toArray, List.set_cons_zero, List.set_cons_succ])
        refine PlanO.take (v := ?va1) (by kernel_rfl) ?ya1 ?ra1
        case ya1 => (intro wz hz; go_simp; try with_reducible rfl)
        (try simp only [Act.put, List.setIfInBounds_toArray, List.set_cons_zero, List.set_cons_succ])
        refine PlanO.take (v := ?va2) (by kernel_rfl) ?ya2 ?ra2
        case ya2 => (intro wz hz; go_simp; try with_reducible rfl)
        (try simp only [Act.put, List.setIfInBounds_toArray, List.set_cons_zero, List.set_cons_succ])
        refine PlanO.take (v := ?va3) (by kernel_rfl) ?ya3 ?ra3
        case ya3 => (intro wz hz; go_simp; try with_reducible rfl)
        (try simp only [Act.put, List.setIfInBounds_toArray, List.set_cons_zero, List.set_cons_succ])
        refine PlanO.take (v := ?va4) (by kernel_rfl) ?ya4 ?ra4
        case ya4 => (intro wz hz; have cq := Ext.at_ hz q0; go_simp; try with_reducible rfl)
        (try simp only [Act.put, List.setIfInBounds_toArray, List.set_cons_zero, List.set_cons_succ])
        refine PlanO.take (v := ?va5) (by kernel_rfl) ?ya5 ?ra5
        case ya5 => (intro wz hz; go_simp; try with_reducible rfl)
        (try simp only [Act.put, List.setIfInBounds_toArray, List.set_cons_zero, List.set_cons_succ])
        refine PlanO.take (v := .bool true) (by kernel_rfl) ?ya6 ?ra6
        case ya6 => (intro wz hz; go_simp; try simp [hlt])
        (try simp only [Act.put, List.setIfInBounds_toArray, List.set_cons_zero, List.set_cons_succ])
        refine PlanO.take (v := ?va7) (by kernel_rfl) ?ya7 ?ra7
        case ya7 => (intro wz hz; go_simp; try with_reducible rfl)
        (try simp only [Act.put, List.setIfInBounds_toArray, List.set_cons_zero, List.set_cons_succ])
        refine PlanO.take (v := ?va8) (by kernel_rfl) ?ya8 ?ra8
        case ya8 => (intro wz hz; go_simp; try with_reducible rfl)
        (try simp only [Act.put, List.setIfInBounds_toArray, List.set_cons_zero, List.set_cons_succ])
        refine PlanO.take (v := ?va9) (by kernel_rfl) ?ya9 ?ra9
        case ya9 => (intro wz hz; go_simp; try with_reducible rfl)
        (try simp only [Act.put, List.setIfInBounds_toArray, List.set_cons_zero, List.set_cons_succ])
        refine PlanO.take (v := ?va10) (by kernel_rfl) ?ya10 ?ra10
        case ya10 => (intro wz hz; go_simp; try with_reducible rfl)
        (try simp only [Act.put, List.setIfInBounds_toArray, List.set_cons_zero, List.set_cons_succ])
        refine PlanO.take (v := ?va11) (by kernel_rfl) ?ya11 ?ra11
        case ya11 => (intro wz hz; have cq := Ext.at_ hz q0; go_simp; try with_reducible rfl)
        (try simp only [Act.put, List.setIfInBounds_toArray, List.set_cons_zero, List.set_cons_succ])
        refine PlanO.take (v := ?va12) (by kernel_rfl) ?ya12 ?ra12
        case ya12 => (intro wz hz; go_simp; try with_reducible rfl)
        (try simp only [Act.put, List.setIfInBounds_toArray, List.set_cons_zero, List.set_cons_succ])
        refine PlanO.take (v := ?va13) (by kernel_rfl) ?ya13 ?ra13
        case ya13 => (intro wz hz; go_simp; try with_reducible rfl)
        (try simp only [Act.put, List.setIfInBounds_toArray, List.set_cons_zero, List.set_cons_succ])
        refine PlanO.take (v := ?va14) (by kernel_rfl) ?ya14 ?ra14
        case ya14 => (intro wz hz; go_simp; try with_reducible rfl)
        (try simp only [Act.put, List.setIfInBounds_toArray, List.set_cons_zero, List.set_cons_succ])
        refine PlanO.take (v := ?va15) (by kernel_rfl) ?ya15 ?ra15
        case ya15 => (intro wz hz; have d0 := Ext.at_ hz x0; have d1 := Ext.at_ hz x1; have d2 := Ext.at_ hz x2; have d3 := Ext.at_ hz x3; go_simp; try with_reducible rfl)
        (try simp only [Act.put, List.setIfInBounds_toArray, List.set_cons_zero, List.set_cons_succ])
        refine PlanO.take (v := ?va16) (by kernel_rfl) ?ya16 ?ra16
        case ya16 => (intro wz hz; go_simp; try with_reducible rfl)
        (try simp only [Act.put, List.setIfInBounds_toArray, List.set_cons_zero, List.set_cons_succ])
        refine PlanO.take (v := ?va17) (by kernel_rfl) ?ya17 ?ra17
        case ya17 => (intro wz hz; have c0 := Ext.at_ hz b0; have c1 := Ext.at_ hz b1; have c2 := Ext.at_ hz b2; have c3 := Ext.at_ hz b3; go_simp; try with_reducible rfl)
        (try simp only [Act.put, List.setIfInBounds_toArray, List.set_cons_zero, List.set_cons_succ])
        refine PlanO.exec (fun K hK => ?_)
        go_simp
        go_at_call 24
        refine (HC.out _).mono ?_
        rintro r u1 ⟨rfl, hb3⟩
        have hE1 : Ext wr.drew u1 := hb3
        go_wp2_with fail
        refine hK.out _ _ hb3 ?_
        clear hK K
        (try simp only [Act.put, List.setIfInBounds_toArray, List.set_cons_zero, List.set_cons_succ])
        refine PlanO.take (v := ?va19) (by kernel_rfl) ?ya19 ?ra19
        case ya19 => (intro wz hz; go_simp; try with_reducible rfl)
        (try simp only [Act.put, List.setIfInBounds_toArray, List.set_cons_zero, List.set_cons_succ])
        refine PlanO.take (v := ?va20) (by kernel_rfl) ?ya20 ?ra20
        case ya20 => (intro wz hz; go_simp; try with_reducible rfl)
        (try simp only [Act.put, List.setIfInBounds_toArray, List.set_cons_zero, List.set_cons_succ])
        refine PlanO.done (NoPanic.normal ?_)
        have hbu := belowT HB.out.drew hb3
        go_wp2
        refine ⟨⟨k + 1, hlt, by go_num, HN, Lib.hid hbu⟩, ?_⟩
        simp [intOf]; omega
      · have hneg' : 0 ≤ c := by omega
        by_cases heq : c = 0
        · obtain ⟨y1, y2, y3⟩ := HZ.out.1 heq
          have y1 : xu = e.u := y1
          have y2 : xs = e.s := y2
          have y3 : xk = e.k := y3
          subst xu xs xk
          have HN := Lib.hid (HFALSE.out heq)
          clear HMORE HTRUE HFALSE HZ
          go_wp2
          refine wp_region_plan [(true, 0), (true, 1), (true, 2), (true, 3), (true, 4), (true, 5), (true, 6), (true, 7), (true, 8), (true, 9), (true, 10), (true, 11), (true, 12), (true, 13), (true, 14), (true, 15), (true, 16), (true, 17), (false, 18), (true, 19), (true, 20)] (by kernel_rfl) (by kernel_rfl) (by kernel_rfl) (by kernel_rfl) (by kernel_rfl) ?_
          simp only [planO, List.drop_succ_cons, List.drop_zero]
          refine PlanO.take (v := ?vb0) (by kernel_rfl) ?yb0 ?rb0
          case yb0 => (intro wz hz; go_simp; try with_reducible rfl)
          (try simp only [Act.put, List.setIfInBounds_toArray, List.set_cons_zero, List.set_cons_succ])
          refine PlanO.take (v := ?vb1) (by kernel_rfl) ?yb1 ?rb1
          case yb1 => (intro wz hz; go_simp; try with_reducible rfl)
          (try simp only [Act.put, List.setIfInBounds_toArray, List.set_cons_zero, List.set_cons_succ])
          refine PlanO.take (v := ?vb2) (by kernel_rfl) ?yb2 ?rb2
          case yb2 => (intro wz hz; go_simp; try with_reducible rfl)
          (try simp only [Act.put, List.setIfInBounds_toArray, List.set_cons_zero, List.set_cons_succ])
          refine PlanO.take (v := ?vb3) (by kernel_rfl) ?yb3 ?rb3
          case yb3 => (intro wz hz; go_simp; try with_reducible rfl)
          (try simp only [Act.put, List.setIfInBounds_toArray, List.set_cons_zero, List.set_cons_succ])
          refine PlanO.take (v := ?vb4) (by kernel_rfl) ?yb4 ?rb4
          case yb4 => (intro wz hz; have cq := Ext.at_ hz q0; go_simp; try with_reducible rfl)
          (try simp only [Act.put, List.setIfInBounds_toArray, List.set_cons_zero, List.set_cons_succ])
          refine PlanO.take (v := ?vb5) (by kernel_rfl) ?yb5 ?rb5
          case yb5 => (intro wz hz; go_simp; try with_reducible rfl)
          (try simp only [Act.put, List.setIfInBounds_toArray, List.set_cons_zero, List.set_cons_succ])
          refine PlanO.take (v := .bool true) (by kernel_rfl) ?yb6 ?rb6
          case yb6 => (intro wz hz; go_simp; try simp [hlt])
          (try simp only [Act.put, List.setIfInBounds_toArray, List.set_cons_zero, List.set_cons_succ])
          refine PlanO.take (v := ?vb7) (by kernel_rfl) ?yb7 ?rb7
          case yb7 => (intro wz hz; go_simp; try with_reducible rfl)
          (try simp only [Act.put, List.setIfInBounds_toArray, List.set_cons_zero, List.set_cons_succ])
          refine PlanO.take (v := ?vb8) (by kernel_rfl) ?yb8 ?rb8
          case yb8 => (intro wz hz; go_simp; try with_reducible rfl)
          (try simp only [Act.put, List.setIfInBounds_toArray, List.set_cons_zero, List.set_cons_succ])
          refine PlanO.take (v := ?vb9) (by kernel_rfl) ?yb9 ?rb9
          case yb9 => (intro wz hz; go_simp; try with_reducible rfl)
          (try simp only [Act.put, List.setIfInBounds_toArray, List.set_cons_zero, List.set_cons_succ])
          refine PlanO.take (v := ?vb10) (by kernel_rfl) ?yb10 ?rb10
          case yb10 => (intro wz hz; go_simp; try with_reducible rfl)
          (try simp only [Act.put, List.setIfInBounds_toArray, List.set_cons_zero, List.set_cons_succ])
          refine PlanO.take (v := ?vb11) (by kernel_rfl) ?yb11 ?rb11
          case yb11 => (intro wz hz; have cq := Ext.at_ hz q0; go_simp; try with_reducible rfl)
          (try simp only [Act.put, List.setIfInBounds_toArray, List.set_cons_zero, List.set_cons_succ])
          refine PlanO.take (v := ?vb12) (by kernel_rfl) ?yb12 ?rb12
          case yb12 => (intro wz hz; go_simp; try with_reducible rfl)
          (try simp only [Act.put, List.setIfInBounds_toArray, List.set_cons_zero, List.set_cons_succ])
          refine PlanO.take (v := ?vb13) (by kernel_rfl) ?yb13 ?rb13
          case yb13 => (intro wz hz; go_simp; try with_reducible rfl)
          (try simp only [Act.put, List.setIfInBounds_toArray, List.set_cons_zero, List.set_cons_succ])
          refine PlanO.take (v := ?vb14) (by kernel_rfl) ?yb14 ?rb14
          case yb14 => (intro wz hz; go_simp; try with_reducible rfl)
          (try simp only [Act.put, List.setIfInBounds_toArray, List.set_cons_zero, List.set_cons_succ])
          refine PlanO.take (v := ?vb15) (by kernel_rfl) ?yb15 ?rb15
          case yb15 => (intro wz hz; have d0 := Ext.at_ hz x0; have d1 := Ext.at_ hz x1; have d2 := Ext.at_ hz x2; have d3 := Ext.at_ hz x3; go_simp; try with_reducible rfl)
          (try simp only [Act.put, List.setIfInBounds_toArray, List.set_cons_zero, List.set_cons_succ])
          refine PlanO.take (v := ?vb16) (by kernel_rfl) ?yb16 ?rb16
          case yb16 => (intro wz hz; go_simp; try with_reducible rfl)
          (try simp only [Act.put, List.setIfInBounds_toArray, List.set_cons_zero, List.set_cons_succ])
          refine PlanO.take (v := ?vb17) (by kernel_rfl) ?yb17 ?rb17
          case yb17 => (intro wz hz; have c0 := Ext.at_ hz b0; have c1 := Ext.at_ hz b1; have c2 := Ext.at_ hz b2; have c3 := Ext.at_ hz b3; go_simp; try with_reducible rfl)
          (try simp only [Act.put, List.setIfInBounds_toArray, List.set_cons_zero, List.set_cons_succ])
          refine PlanO.exec (fun K hK => ?_)
          go_simp
          go_at_call 24
          refine (HC.out _).mono ?_
          rintro r u1 ⟨rfl, hb3⟩
          have hE1 : Ext wr.drew u1 := hb3
          go_wp2_with fail
          refine hK.out _ _ hb3 ?_
          clear hK K
          (try simp only [Act.put, List.setIfInBounds_toArray, List.set_cons_zero, List.set_cons_succ])
          refine PlanO.take (v := ?vb19) (by kernel_rfl) ?yb19 ?rb19
          case yb19 => (intro wz hz; go_simp; try with_reducible rfl)
          (try simp only [Act.put, List.setIfInBounds_toArray, List.set_cons_zero, List.set_cons_succ])
          refine PlanO.take (v := ?vb20) (by kernel_rfl) ?yb20 ?rb20
          case yb20 => (intro wz hz; go_simp; try with_reducible rfl)
          (try simp only [Act.put, List.setIfInBounds_toArray, List.set_cons_zero, List.set_cons_succ])
          refine PlanO.done (NoPanic.normal ?_)
          have hbu := belowT HBR.out.drew hb3
          have hqu := (hbu.block q HQL.out).trans HQ.out
          have hsu := (hb3.block w.heap.size (blk_lt HSR.out)).trans HSR.out
          replace q0 := blk_cell (i := 0) hqu
          replace b0 := blk_cell (i := 0) hsu
          replace b1 := blk_cell (i := 1) hsu
          replace b2 := blk_cell (i := 2) hsu
          replace b3 := blk_cell (i := 3) hsu
          replace x0 := (hb3.cell (p := ⟨xg, k * 4, none⟩) hxg).trans x0
          replace x1 := (hb3.cell (p := ⟨xg, k * 4 + 1, none⟩) hxg).trans x1
          replace x2 := (hb3.cell (p := ⟨xg, k * 4 + 2, none⟩) hxg).trans x2
          replace x3 := (hb3.cell (p := ⟨xg, k * 4 + 3, none⟩) hxg).trans x3
          have HBU := Lib.hid hbu
          have HSU := Lib.hid hsu
          clear hbu hqu hsu
          go_wp2
          refine wp_region_plan [(true, 0), (true, 1), (true, 2), (true, 3), (true, 4), (true, 5), (true, 6), (true, 7), (true, 8), (true, 9), (true, 10), (true, 11), (true, 12), (true, 13), (true, 14), (true, 15), (true, 16), (true, 17), (true, 18), (true, 19)] (by kernel_rfl) (by kernel_rfl) (by kernel_rfl) (by kernel_rfl) (by kernel_rfl) ?_
          simp only [planO, List.drop_succ_cons, List.drop_zero]
          refine PlanO.take (v := ?vc0) (by kernel_rfl) ?yc0 ?rc0
          case yc0 => (intro wz hz; go_simp; try with_reducible rfl)
          (try simp only [Act.put, List.setIfInBounds_toArray, List.set_cons_zero, List.set_cons_succ])
          refine PlanO.take (v := ?vc1) (by kernel_rfl) ?yc1 ?rc1
          case yc1 => (intro wz hz; go_simp; try with_reducible rfl)
          (try simp only [Act.put, List.setIfInBounds_toArray, List.set_cons_zero, List.set_cons_succ])
          refine PlanO.take (v := ?vc2) (by kernel_rfl) ?yc2 ?rc2
          case yc2 => (intro wz hz; go_simp; try with_reducible rfl)
          (try simp only [Act.put, List.setIfInBounds_toArray, List.set_cons_zero, List.set_cons_succ])
          refine PlanO.take (v := ?vc3) (by kernel_rfl) ?yc3 ?rc3
          case yc3 => (intro wz hz; go_simp; try with_reducible rfl)
          (try simp only [Act.put, List.setIfInBounds_toArray, List.set_cons_zero, List.set_cons_succ])
          refine PlanO.take (v := ?vc4) (by kernel_rfl) ?yc4 ?rc4
          case yc4 => (intro wz hz; have cq := Ext.at_ hz q0; go_simp; try with_reducible rfl)
          (try simp only [Act.put, List.setIfInBounds_toArray, List.set_cons_zero, List.set_cons_succ])
          refine PlanO.take (v := ?vc5) (by kernel_rfl) ?yc5 ?rc5
          case yc5 => (intro wz hz; go_simp; try with_reducible rfl)
          (try simp only [Act.put, List.setIfInBounds_toArray, List.set_cons_zero, List.set_cons_succ])
          refine PlanO.take (v := .bool true) (by kernel_rfl) ?yc6 ?rc6
          case yc6 => (intro wz hz; go_simp; try simp [hlt])
          (try simp only [Act.put, List.setIfInBounds_toArray, List.set_cons_zero, List.set_cons_succ])
          refine PlanO.take (v := ?vc7) (by kernel_rfl) ?yc7 ?rc7
          case yc7 => (intro wz hz; go_simp; try with_reducible rfl)
          (try simp only [Act.put, List.setIfInBounds_toArray, List.set_cons_zero, List.set_cons_succ])
          refine PlanO.take (v := ?vc8) (by kernel_rfl) ?yc8 ?rc8
          case yc8 => (intro wz hz; go_simp; try with_reducible rfl)
          (try simp only [Act.put, List.setIfInBounds_toArray, List.set_cons_zero, List.set_cons_succ])
          refine PlanO.take (v := ?vc9) (by kernel_rfl) ?yc9 ?rc9
          case yc9 => (intro wz hz; go_simp; try with_reducible rfl)
          (try simp only [Act.put, List.setIfInBounds_toArray, List.set_cons_zero, List.set_cons_succ])
          refine PlanO.take (v := ?vc10) (by kernel_rfl) ?yc10 ?rc10
          case yc10 => (intro wz hz; go_simp; try with_reducible rfl)
          (try simp only [Act.put, List.setIfInBounds_toArray, List.set_cons_zero, List.set_cons_succ])
          refine PlanO.take (v := ?vc11) (by kernel_rfl) ?yc11 ?rc11
          case yc11 => (intro wz hz; have cq := Ext.at_ hz q0; go_simp; try with_reducible rfl)
          (try simp only [Act.put, List.setIfInBounds_toArray, List.set_cons_zero, List.set_cons_succ])
          refine PlanO.take (v := ?vc12) (by kernel_rfl) ?yc12 ?rc12
          case yc12 => (intro wz hz; go_simp; try with_reducible rfl)
          (try simp only [Act.put, List.setIfInBounds_toArray, List.set_cons_zero, List.set_cons_succ])
          refine PlanO.take (v := ?vc13) (by kernel_rfl) ?yc13 ?rc13
          case yc13 => (intro wz hz; go_simp; try with_reducible rfl)
          (try simp only [Act.put, List.setIfInBounds_toArray, List.set_cons_zero, List.set_cons_succ])
          refine PlanO.take (v := ?vc14) (by kernel_rfl) ?yc14 ?rc14
          case yc14 => (intro wz hz; go_simp; try with_reducible rfl)
          (try simp only [Act.put, List.setIfInBounds_toArray, List.set_cons_zero, List.set_cons_succ])
          refine PlanO.take (v := ?vc15) (by kernel_rfl) ?yc15 ?rc15
          case yc15 => (intro wz hz; have d0 := Ext.at_ hz x0; have d1 := Ext.at_ hz x1; have d2 := Ext.at_ hz x2; have d3 := Ext.at_ hz x3; go_simp; try with_reducible rfl)
          (try simp only [Act.put, List.setIfInBounds_toArray, List.set_cons_zero, List.set_cons_succ])
          refine PlanO.take (v := ?vc16) (by kernel_rfl) ?yc16 ?rc16
          case yc16 => (intro wz hz; go_simp; try with_reducible rfl)
          (try simp only [Act.put, List.setIfInBounds_toArray, List.set_cons_zero, List.set_cons_succ])
          refine PlanO.take (v := ?vc17) (by kernel_rfl) ?yc17 ?rc17
          case yc17 => (intro wz hz; have c0 := Ext.at_ hz b0; have c1 := Ext.at_ hz b1; have c2 := Ext.at_ hz b2; have c3 := Ext.at_ hz b3; go_simp; try with_reducible rfl)
          (try simp only [Act.put, List.setIfInBounds_toArray, List.set_cons_zero, List.set_cons_succ])
          refine PlanO.take (v := .bool true) (by kernel_rfl) ?yc18 ?rc18
          case yc18 => (intro wz hz; go_simp; try with_reducible rfl)
          (try simp only [Act.put, List.setIfInBounds_toArray, List.set_cons_zero, List.set_cons_succ])
          refine PlanO.take (v := ?vc19) (by kernel_rfl) ?yc19 ?rc19
          case yc19 => (intro wz hz; go_simp; try with_reducible rfl)
          (try simp only [Act.put, List.setIfInBounds_toArray, List.set_cons_zero, List.set_cons_succ])
          refine PlanO.done (NoPanic.normal ?_)
          go_wp2
          go_ret
          exact raddTo_no HRO.out HBU.out.drew HN.out
        · obtain ⟨hadd, hins⟩ := HTRUE.out hneg heq
          have hne : ¬ (xu.toList = e.u.toList ∧ xs = e.s ∧ xk = e.k) := fun h => heq (HZ.out.2 ⟨by
            have := h.1
            rw [toList_data, toList_data] at this
            exact ByteArray.ext (Array.toList_inj.1 this), h.2.1, h.2.2⟩)
          have HNE := Lib.hid hne
          have HADD := Lib.hid hadd
          have HL := Lib.hid (show k ≤ L.length ∧ insE e L = L.take k ++ [e] ++ L.drop k from ⟨hk, hins⟩)
          clear HMORE HTRUE HFALSE HZ hadd hins hne heq
          go_wp2
          refine wp_region_plan [(true, 0), (true, 1), (true, 2), (true, 3), (true, 4), (true, 5), (true, 6), (true, 7), (true, 8), (true, 9), (true, 10), (true, 11), (true, 12), (true, 13), (true, 14), (true, 15), (true, 16), (true, 17), (false, 18), (true, 19), (true, 20)] (by kernel_rfl) (by kernel_rfl) (by kernel_rfl) (by kernel_rfl) (by kernel_rfl) ?_
          simp only [planO, List.drop_succ_cons, List.drop_zero]
          refine PlanO.take (v := ?vd0) (by kernel_rfl) ?yd0 ?rd0
          case yd0 => (intro wz hz; go_simp; try with_reducible rfl)
          (try simp only [Act.put, List.setIfInBounds_toArray, List.set_cons_zero, List.set_cons_succ])
          refine PlanO.take (v := ?vd1) (by kernel_rfl) ?yd1 ?rd1
          case yd1 => (intro wz hz; go_simp; try with_reducible rfl)
          (try simp only [Act.put, List.setIfInBounds_toArray, List.set_cons_zero, List.set_cons_succ])
          refine PlanO.take (v := ?vd2) (by kernel_rfl) ?yd2 ?rd2
          case yd2 => (intro wz hz; go_simp; try with_reducible rfl)
          (try simp only [Act.put, List.setIfInBounds_toArray, List.set_cons_zero, List.set_cons_succ])
          refine PlanO.take (v := ?vd3) (by kernel_rfl) ?yd3 ?rd3
          case yd3 => (intro wz hz; go_simp; try with_reducible rfl)
          (try simp only [Act.put, List.setIfInBounds_toArray, List.set_cons_zero, List.set_cons_succ])
          refine PlanO.take (v := ?vd4) (by kernel_rfl) ?yd4 ?rd4
          case yd4 => (intro wz hz; have cq := Ext.at_ hz q0; go_simp; try with_reducible rfl)
          (try simp only [Act.put, List.setIfInBounds_toArray, List.set_cons_zero, List.set_cons_succ])
          refine PlanO.take (v := ?vd5) (by kernel_rfl) ?yd5 ?rd5
          case yd5 => (intro wz hz; go_simp; try with_reducible rfl)
          (try simp only [Act.put, List.setIfInBounds_toArray, List.set_cons_zero, List.set_cons_succ])
          refine PlanO.take (v := .bool true) (by kernel_rfl) ?yd6 ?rd6
          case yd6 => (intro wz hz; go_simp; try simp [hlt])
          (try simp only [Act.put, List.setIfInBounds_toArray, List.set_cons_zero, List.set_cons_succ])
          refine PlanO.take (v := ?vd7) (by kernel_rfl) ?yd7 ?rd7
          case yd7 => (intro wz hz; go_simp; try with_reducible rfl)
          (try simp only [Act.put, List.setIfInBounds_toArray, List.set_cons_zero, List.set_cons_succ])
          refine PlanO.take (v := ?vd8) (by kernel_rfl) ?yd8 ?rd8
          case yd8 => (intro wz hz; go_simp; try with_reducible rfl)
          (try simp only [Act.put, List.setIfInBounds_toArray, List.set_cons_zero, List.set_cons_succ])
          refine PlanO.take (v := ?vd9) (by kernel_rfl) ?yd9 ?rd9
          case yd9 => (intro wz hz; go_simp; try with_reducible rfl)
          (try simp only [Act.put, List.setIfInBounds_toArray, List.set_cons_zero, List.set_cons_succ])
          refine PlanO.take (v := ?vd10) (by kernel_rfl) ?yd10 ?rd10
          case yd10 => (intro wz hz; go_simp; try with_reducible rfl)
          (try simp only [Act.put, List.setIfInBounds_toArray, List.set_cons_zero, List.set_cons_succ])
          refine PlanO.take (v := ?vd11) (by kernel_rfl) ?yd11 ?rd11
          case yd11 => (intro wz hz; have cq := Ext.at_ hz q0; go_simp; try with_reducible rfl)
          (try simp only [Act.put, List.setIfInBounds_toArray, List.set_cons_zero, List.set_cons_succ])
          refine PlanO.take (v := ?vd12) (by kernel_rfl) ?yd12 ?rd12
          case yd12 => (intro wz hz; go_simp; try with_reducible rfl)
          (try simp only [Act.put, List.setIfInBounds_toArray, List.set_cons_zero, List.set_cons_succ])
          refine PlanO.take (v := ?vd13) (by kernel_rfl) ?yd13 ?rd13
          case yd13 => (intro wz hz; go_simp; try with_reducible rfl)
          (try simp only [Act.put, List.setIfInBounds_toArray, List.set_cons_zero, List.set_cons_succ])
          refine PlanO.take (v := ?vd14) (by kernel_rfl) ?yd14 ?rd14
          case yd14 => (intro wz hz; go_simp; try with_reducible rfl)
          (try simp only [Act.put, List.setIfInBounds_toArray, List.set_cons_zero, List.set_cons_succ])
          refine PlanO.take (v := ?vd15) (by kernel_rfl) ?yd15 ?rd15
          case yd15 => (intro wz hz; have d0 := Ext.at_ hz x0; have d1 := Ext.at_ hz x1; have d2 := Ext.at_ hz x2; have d3 := Ext.at_ hz x3; go_simp; try with_reducible rfl)
          (try simp only [Act.put, List.setIfInBounds_toArray, List.set_cons_zero, List.set_cons_succ])
          refine PlanO.take (v := ?vd16) (by kernel_rfl) ?yd16 ?rd16
          case yd16 => (intro wz hz; go_simp; try with_reducible rfl)
          (try simp only [Act.put, List.setIfInBounds_toArray, List.set_cons_zero, List.set_cons_succ])
          refine PlanO.take (v := ?vd17) (by kernel_rfl) ?yd17 ?rd17
          case yd17 => (intro wz hz; have c0 := Ext.at_ hz b0; have c1 := Ext.at_ hz b1; have c2 := Ext.at_ hz b2; have c3 := Ext.at_ hz b3; go_simp; try with_reducible rfl)
          (try simp only [Act.put, List.setIfInBounds_toArray, List.set_cons_zero, List.set_cons_succ])
          refine PlanO.exec (fun K hK => ?_)
          go_simp
          go_at_call 24
          refine (HC.out _).mono ?_
          rintro r u1 ⟨rfl, hb3⟩
          have hE1 : Ext wr.drew u1 := hb3
          go_wp2_with fail
          refine hK.out _ _ hb3 ?_
          clear hK K
          (try simp only [Act.put, List.setIfInBounds_toArray, List.set_cons_zero, List.set_cons_succ])
          refine PlanO.take (v := ?vd19) (by kernel_rfl) ?yd19 ?rd19
          case yd19 => (intro wz hz; go_simp; try with_reducible rfl)
          (try simp only [Act.put, List.setIfInBounds_toArray, List.set_cons_zero, List.set_cons_succ])
          refine PlanO.take (v := ?vd20) (by kernel_rfl) ?yd20 ?rd20
          case yd20 => (intro wz hz; go_simp; try with_reducible rfl)
          (try simp only [Act.put, List.setIfInBounds_toArray, List.set_cons_zero, List.set_cons_succ])
          refine PlanO.done (NoPanic.normal ?_)
          have hbu := belowT HBR.out.drew hb3
          have hqu := (hbu.block q HQL.out).trans HQ.out
          have hsu := (hb3.block w.heap.size (blk_lt HSR.out)).trans HSR.out
          replace q0 := blk_cell (i := 0) hqu
          replace b0 := blk_cell (i := 0) hsu
          replace b1 := blk_cell (i := 1) hsu
          replace b2 := blk_cell (i := 2) hsu
          replace b3 := blk_cell (i := 3) hsu
          replace x0 := (hb3.cell (p := ⟨xg, k * 4, none⟩) hxg).trans x0
          replace x1 := (hb3.cell (p := ⟨xg, k * 4 + 1, none⟩) hxg).trans x1
          replace x2 := (hb3.cell (p := ⟨xg, k * 4 + 2, none⟩) hxg).trans x2
          replace x3 := (hb3.cell (p := ⟨xg, k * 4 + 3, none⟩) hxg).trans x3
          have HBU := Lib.hid hbu
          have HSU := Lib.hid hsu
          clear hbu hqu hsu
          go_wp2
          refine wp_region_plan [(true, 0), (true, 1), (true, 2), (true, 3), (true, 4), (true, 5), (true, 6), (true, 7), (true, 8), (true, 9), (true, 10), (true, 11), (true, 12), (true, 13), (true, 14), (true, 15), (true, 16), (true, 17), (true, 18), (true, 19)] (by kernel_rfl) (by kernel_rfl) (by kernel_rfl) (by kernel_rfl) (by kernel_rfl) ?_
          simp only [planO, List.drop_succ_cons, List.drop_zero]
          refine PlanO.take (v := ?ve0) (by kernel_rfl) ?ye0 ?re0
          case ye0 => (intro wz hz; go_simp; try with_reducible rfl)
          (try simp only [Act.put, List.setIfInBounds_toArray, List.set_cons_zero, List.set_cons_succ])
          refine PlanO.take (v := ?ve1) (by kernel_rfl) ?ye1 ?re1
          case ye1 => (intro wz hz; go_simp; try with_reducible rfl)
          (try simp only [Act.put, List.setIfInBounds_toArray, List.set_cons_zero, List.set_cons_succ])
          refine PlanO.take (v := ?ve2) (by kernel_rfl) ?ye2 ?re2
          case ye2 => (intro wz hz; go_simp; try with_reducible rfl)
          (try simp only [Act.put, List.setIfInBounds_toArray, List.set_cons_zero, List.set_cons_succ])
          refine PlanO.take (v := ?ve3) (by kernel_rfl) ?ye3 ?re3
          case ye3 => (intro wz hz; go_simp; try with_reducible rfl)
          (try simp only [Act.put, List.setIfInBounds_toArray, List.set_cons_zero, List.set_cons_succ])
          refine PlanO.take (v := ?ve4) (by kernel_rfl) ?ye4 ?re4
          case ye4 => (intro wz hz; have cq := Ext.at_ hz q0; go_simp; try with_reducible rfl)
          (try simp only [Act.put, List.setIfInBounds_toArray, List.set_cons_zero, List.set_cons_succ])
          refine PlanO.take (v := ?ve5) (by kernel_rfl) ?ye5 ?re5
          case ye5 => (intro wz hz; go_simp; try with_reducible rfl)
          (try simp only [Act.put, List.setIfInBounds_toArray, List.set_cons_zero, List.set_cons_succ])
          refine PlanO.take (v := .bool true) (by kernel_rfl) ?ye6 ?re6
          case ye6 => (intro wz hz; go_simp; try simp [hlt])
          (try simp only [Act.put, List.setIfInBounds_toArray, List.set_cons_zero, List.set_cons_succ])
          refine PlanO.take (v := ?ve7) (by kernel_rfl) ?ye7 ?re7
          case ye7 => (intro wz hz; go_simp; try with_reducible rfl)
          (try simp only [Act.put, List.setIfInBounds_toArray, List.set_cons_zero, List.set_cons_succ])
          refine PlanO.take (v := ?ve8) (by kernel_rfl) ?ye8 ?re8
          case ye8 => (intro wz hz; go_simp; try with_reducible rfl)
          (try simp only [Act.put, List.setIfInBounds_toArray, List.set_cons_zero, List.set_cons_succ])
          refine PlanO.take (v := ?ve9) (by kernel_rfl) ?ye9 ?re9
          case ye9 => (intro wz hz; go_simp; try with_reducible rfl)
          (try simp only [Act.put, List.setIfInBounds_toArray, List.set_cons_zero, List.set_cons_succ])
          refine PlanO.take (v := ?ve10) (by kernel_rfl) ?ye10 ?re10
          case ye10 => (intro wz hz; go_simp; try with_reducible rfl)
          (try simp only [Act.put, List.setIfInBounds_toArray, List.set_cons_zero, List.set_cons_succ])
          refine PlanO.take (v := ?ve11) (by kernel_rfl) ?ye11 ?re11
          case ye11 => (intro wz hz; have cq := Ext.at_ hz q0; go_simp; try with_reducible rfl)
          (try simp only [Act.put, List.setIfInBounds_toArray, List.set_cons_zero, List.set_cons_succ])
          refine PlanO.take (v := ?ve12) (by kernel_rfl) ?ye12 ?re12
          case ye12 => (intro wz hz; go_simp; try with_reducible rfl)
          (try simp only [Act.put, List.setIfInBounds_toArray, List.set_cons_zero, List.set_cons_succ])
          refine PlanO.take (v := ?ve13) (by kernel_rfl) ?ye13 ?re13
          case ye13 => (intro wz hz; go_simp; try with_reducible rfl)
          (try simp only [Act.put, List.setIfInBounds_toArray, List.set_cons_zero, List.set_cons_succ])
          refine PlanO.take (v := ?ve14) (by kernel_rfl) ?ye14 ?re14
          case ye14 => (intro wz hz; go_simp; try with_reducible rfl)
          (try simp only [Act.put, List.setIfInBounds_toArray, List.set_cons_zero, List.set_cons_succ])
          refine PlanO.take (v := ?ve15) (by kernel_rfl) ?ye15 ?re15
          case ye15 => (intro wz hz; have d0 := Ext.at_ hz x0; have d1 := Ext.at_ hz x1; have d2 := Ext.at_ hz x2; have d3 := Ext.at_ hz x3; go_simp; try with_reducible rfl)
          (try simp only [Act.put, List.setIfInBounds_toArray, List.set_cons_zero, List.set_cons_succ])
          refine PlanO.take (v := ?ve16) (by kernel_rfl) ?ye16 ?re16
          case ye16 => (intro wz hz; go_simp; try with_reducible rfl)
          (try simp only [Act.put, List.setIfInBounds_toArray, List.set_cons_zero, List.set_cons_succ])
          refine PlanO.take (v := ?ve17) (by kernel_rfl) ?ye17 ?re17
          case ye17 => (intro wz hz; have c0 := Ext.at_ hz b0; have c1 := Ext.at_ hz b1; have c2 := Ext.at_ hz b2; have c3 := Ext.at_ hz b3; go_simp; try with_reducible rfl)
          (try simp only [Act.put, List.setIfInBounds_toArray, List.set_cons_zero, List.set_cons_succ])
          refine PlanO.take (v := .bool false) (by kernel_rfl) ?ye18 ?re18
          case ye18 => (intro wz hz; go_simp; exact fun a b c => HNE.out ⟨a, b, c⟩)
          (try simp only [Act.put, List.setIfInBounds_toArray, List.set_cons_zero, List.set_cons_succ])
          refine PlanO.take (v := ?ve19) (by kernel_rfl) ?ye19 ?re19
          case ye19 => (intro wz hz; go_simp; try with_reducible rfl)
          (try simp only [Act.put, List.setIfInBounds_toArray, List.set_cons_zero, List.set_cons_succ])
          refine PlanO.done (NoPanic.normal ?_)
          clear x0 x1 x2 x3 q0 b0 b1 b2 b3
          obtain ⟨wS, hwS⟩ : ∃ wS, wS = u1.drew := ⟨_, rfl⟩
          rw [← hwS]
          have hbS : Below w.heap.size w wS := by rw [hwS]; exact HBU.out.drew
          have hos : OwnE wS 0 (.slice (some ⟨xg, 0, none⟩) L.length vc) L := HO.out.below hbS
          have hqS : wS.heap[q]? = some (.cells #[(.slice (some ⟨xg, 0, none⟩) L.length vc)] 57 (0, 0)) := (hbS.block q HQL.out).trans HQ.out
          have hsS : wS.heap[w.heap.size]? = some (.cells #[.string e.u, .int .i64 e.s, .int .i64 e.k, .string e.v] 38 (0, 0)) := by rw [hwS]; exact HSU.out
          have hqlt := blk_lt hqS
          have hSlt := blk_lt hsS
          have q0 := blk_cell (i := 0) hqS
          have b0 := blk_cell (i := 0) hsS
          have b1 := blk_cell (i := 1) hsS
          have b2 := blk_cell (i := 2) hsS
          have b3 := blk_cell (i := 3) hsS
          have HBS := Lib.hid hbS
          have HOS := Lib.hid hos
          have HQS := Lib.hid hqS
          have HSS := Lib.hid hsS
          clear hbS hos hqS hsS hwS
          go_wp2_with (at_builtin; refine wpList_append_rd rfl (.tmp 53) (.tmp 59) 25 rfl wS.heap.size 38 4 48 (.agg #[.string ⟨#[]⟩, .int .i64 0, .int .i64 0, .string ⟨#[]⟩]) Try.underlying25 info_ent rfl (by decide) (.slice (some ⟨wS.heap.size, 0, none⟩) 0 0) _ 0 k [] ((L.take k).flatMap Ent.cells) rfl rfl (made_E wS) ?rdMA (entFlat_one _) ?bbMA ?l1MA ?l2MA ?kkMA)
          case rdMA => (have := entFront (Rd.below (rd_of_own HOS.out) ((Below.refl _ _).alloc (Nat.le_refl _) (.cells #[] 38)) (Nat.le_refl _)) k hk; exact this)
          case bbMA => simp
          case l1MA => omega
          case l2MA => (unfold maxLen; omega)
          case kkMA =>
            intro vPA wPA hown hBk
            have hb' := hBk wS.heap.size wS (Nat.le_refl _) ((Below.refl _ _).alloc (Nat.le_refl _) _)
            have HOPA := Lib.hid (show wPA.ownsRow wS.heap.size 38 4 vPA k ((L.take k).flatMap Ent.cells) by simpa using hown)
            have HBPA := Lib.hid hb'
            have g0 := (HBPA.out.cell (p := ⟨w.heap.size, 0, none⟩) (blk_lt HSS.out)).trans b0
            have g1 := (HBPA.out.cell (p := ⟨w.heap.size, 1, none⟩) (blk_lt HSS.out)).trans b1
            have g2 := (HBPA.out.cell (p := ⟨w.heap.size, 2, none⟩) (blk_lt HSS.out)).trans b2
            have g3 := (HBPA.out.cell (p := ⟨w.heap.size, 3, none⟩) (blk_lt HSS.out)).trans b3
            clear hown hBk hb'
            go_wp2_with (at_builtin; refine wpList_append_rd rfl (.tmp 61) (.tmp 63) 25 rfl wS.heap.size 38 4 48 (.agg #[.string ⟨#[]⟩, .int .i64 0, .int .i64 0, .string ⟨#[]⟩]) Try.underlying25 info_ent rfl (by decide) vPA _ k 1 ((L.take k).flatMap Ent.cells) ([e].flatMap Ent.cells) rfl rfl (World.ownsRow.alloc HOPA.out _) ?rdMB (entFlat_one _) ?bbMB ?l1MB ?l2MB ?kkMB)
            case rdMB => exact one_entry _ e
            case bbMB => (have := HBPA.out.size; simp; omega)
            case l1MB => omega
            case l2MB => (unfold maxLen; omega)
            case kkMB =>
              intro vPB wPB hown hBk
              have hb' := hBk wS.heap.size wS (Nat.le_refl _) (HBPA.out.alloc HBPA.out.size _)
              have HOPB := Lib.hid hown
              have HBPB := Lib.hid hb'
              have qB := (HBPB.out.cell (p := ⟨q, 0, none⟩) (blk_lt HQS.out)).trans q0
              clear hown hBk hb' g0 g1 g2 g3
              go_wp2_with (at_builtin; refine wpList_append_rd rfl (.tmp 66) (.tmp 72) 25 rfl wS.heap.size 38 4 48 (.agg #[.string ⟨#[]⟩, .int .i64 0, .int .i64 0, .string ⟨#[]⟩]) Try.underlying25 info_ent rfl (by decide) vPB _ (k + 1) (L.length - k) ((L.take k).flatMap Ent.cells ++ [e].flatMap Ent.cells) ((L.drop k).flatMap Ent.cells) rfl rfl (HOPB.out) ?rdMC (entFlat_one _) ?bbMC ?l1MC ?l2MC ?kkMC)
              case rdMC => (have := entRest (Rd.below (rd_of_own HOS.out) HBPB.out (Nat.le_refl _)) k hk; rw [Nat.zero_add] at this; exact this)
              case bbMC => exact HBPB.out.size
              case l1MC => omega
              case l2MC => (unfold maxLen; omega)
              case kkMC =>
                intro vPC wPC hown hBk
                have hb' := hBk wS.heap.size wS (Nat.le_refl _) HBPB.out
                obtain ⟨ca, cc, hvC, _, _⟩ := rd_of_own hown
                subst hvC
                have hqC := (hb'.block q (blk_lt HQS.out)).trans HQS.out
                have qC := blk_cell (i := 0) hqC
                have fC : wPC.frozen? ⟨q, 0, none⟩ = false := blk_free hqC
                have HFIN := Lib.hid (radd_done HQL.out HFA.out HADD.out HL.out HBS.out hb' hqC HQL2.out hown)
                clear hown hBk hb' hqC qB
                go_wp2
                go_ret
                exact HFIN.out
    · obtain ⟨hadd, hins⟩ := @add_true e L k HE.out hk HK.out (fun h => absurd h hlt)
      have HADD := Lib.hid hadd
      have HL := Lib.hid (show k ≤ L.length ∧ insE e L = L.take k ++ [e] ++ L.drop k from ⟨hk, hins⟩)
      clear hadd hins hbr
      go_wp2
      go_quiet (fail)
      obtain ⟨u2, hu2⟩ : ∃ u2, u2 = wr.drewN nq := ⟨_, rfl⟩
      rw [← hu2]
      have hb2 : Below w.heap.size w u2 := by rw [hu2]; exact below_drewN HBR.out nq
      have hqu := (hb2.block q HQL.out).trans HQ.out
      have hs2 : u2.heap[w.heap.size]? = some (.cells #[.string e.u, .int .i64 e.s, .int .i64 e.k, .string e.v] 38 (0, 0)) := by rw [hu2]; exact HSR.out
      replace q0 := blk_cell (i := 0) hqu
      replace b0 := blk_cell (i := 0) hs2
      replace b1 := blk_cell (i := 1) hs2
      replace b2 := blk_cell (i := 2) hs2
      replace b3 := blk_cell (i := 3) hs2
      have HB2 := Lib.hid hb2
      have HS2 := Lib.hid hs2
      clear hu2 hb2 hqu hs2
      go_wp2
      go_quiet (fail)
      clear q0 b0 b1 b2 b3
      have hke : k = L.length := by omega
      cases va with
      | none =>
        have hnil : L.length = 0 ∧ vc = 0 := by
          rcases HO.out.2 with ⟨h, h0⟩ | ⟨g, c, cur, h, _⟩
          · injection h with _ _ h2; exact ⟨h0, h2⟩
          · cases h
        obtain ⟨hL0, rfl⟩ := hnil
        have hLn : L = [] := List.eq_nil_of_length_eq_zero hL0
        subst hLn
        have hk0 : k = 0 := hke
        subst hk0
        clear hke hlt hk hL0
        obtain ⟨wS, hwS⟩ : ∃ wS, wS = u2.drewN nq := ⟨_, rfl⟩
        rw [← hwS]
        have hbS : Below w.heap.size w wS := by rw [hwS]; exact below_drewN HB2.out nq
        have hos : OwnE wS 0 (.slice none 0 0) [] := HO.out.below hbS
        have hqS : wS.heap[q]? = some (.cells #[(.slice none 0 0)] 57 (0, 0)) := (hbS.block q HQL.out).trans HQ.out
        have hsS : wS.heap[w.heap.size]? = some (.cells #[.string e.u, .int .i64 e.s, .int .i64 e.k, .string e.v] 38 (0, 0)) := by rw [hwS]; exact HS2.out
        have hqlt := blk_lt hqS
        have hSlt := blk_lt hsS
        have q0 := blk_cell (i := 0) hqS
        have b0 := blk_cell (i := 0) hsS
        have b1 := blk_cell (i := 1) hsS
        have b2 := blk_cell (i := 2) hsS
        have b3 := blk_cell (i := 3) hsS
        have HBS := Lib.hid hbS
        have HOS := Lib.hid hos
        have HQS := Lib.hid hqS
        have HSS := Lib.hid hsS
        clear hbS hos hqS hsS hwS
        go_wp2_with (at_builtin; refine wpList_append_rd rfl (.tmp 53) (.tmp 59) 25 rfl wS.heap.size 38 4 48 (.agg #[.string ⟨#[]⟩, .int .i64 0, .int .i64 0, .string ⟨#[]⟩]) Try.underlying25 info_ent rfl (by decide) (.slice (some ⟨wS.heap.size, 0, none⟩) 0 0) _ 0 0 [] ((([] : List Ent).take 0).flatMap Ent.cells) rfl rfl (made_E wS) ?rdNA (entFlat_one _) ?bbNA ?l1NA ?l2NA ?kkNA)
        case rdNA => exact Rd.nil _ _
        case bbNA => simp
        case l1NA => omega
        case l2NA => (unfold maxLen; omega)
        case kkNA =>
          intro vPA wPA hown hBk
          have hb' := hBk wS.heap.size wS (Nat.le_refl _) ((Below.refl _ _).alloc (Nat.le_refl _) _)
          have HOPA := Lib.hid (show wPA.ownsRow wS.heap.size 38 4 vPA 0 ((([] : List Ent).take 0).flatMap Ent.cells) by simpa using hown)
          have HBPA := Lib.hid hb'
          have g0 := (HBPA.out.cell (p := ⟨w.heap.size, 0, none⟩) (blk_lt HSS.out)).trans b0
          have g1 := (HBPA.out.cell (p := ⟨w.heap.size, 1, none⟩) (blk_lt HSS.out)).trans b1
          have g2 := (HBPA.out.cell (p := ⟨w.heap.size, 2, none⟩) (blk_lt HSS.out)).trans b2
          have g3 := (HBPA.out.cell (p := ⟨w.heap.size, 3, none⟩) (blk_lt HSS.out)).trans b3
          clear hown hBk hb'
          go_wp2_with (at_builtin; refine wpList_append_rd rfl (.tmp 61) (.tmp 63) 25 rfl wS.heap.size 38 4 48 (.agg #[.string ⟨#[]⟩, .int .i64 0, .int .i64 0, .string ⟨#[]⟩]) Try.underlying25 info_ent rfl (by decide) vPA _ 0 1 ((([] : List Ent).take 0).flatMap Ent.cells) ([e].flatMap Ent.cells) rfl rfl (World.ownsRow.alloc HOPA.out _) ?rdNB (entFlat_one _) ?bbNB ?l1NB ?l2NB ?kkNB)
          case rdNB => exact one_entry _ e
          case bbNB => (have := HBPA.out.size; simp; omega)
          case l1NB => omega
          case l2NB => (unfold maxLen; omega)
          case kkNB =>
            intro vPB wPB hown hBk
            have hb' := hBk wS.heap.size wS (Nat.le_refl _) (HBPA.out.alloc HBPA.out.size _)
            have HOPB := Lib.hid hown
            have HBPB := Lib.hid hb'
            have qB := (HBPB.out.cell (p := ⟨q, 0, none⟩) (blk_lt HQS.out)).trans q0
            clear hown hBk hb' g0 g1 g2 g3
            go_wp2_with (at_builtin; refine wpList_append_rd rfl (.tmp 66) (.tmp 72) 25 rfl wS.heap.size 38 4 48 (.agg #[.string ⟨#[]⟩, .int .i64 0, .int .i64 0, .string ⟨#[]⟩]) Try.underlying25 info_ent rfl (by decide) vPB _ (0 + 1) (([] : List Ent).length - 0) ((([] : List Ent).take 0).flatMap Ent.cells ++ [e].flatMap Ent.cells) ((([] : List Ent).drop 0).flatMap Ent.cells) rfl rfl (HOPB.out) ?rdNC (entFlat_one _) ?bbNC ?l1NC ?l2NC ?kkNC)
            case rdNC => exact Rd.nil _ _
            case bbNC => exact HBPB.out.size
            case l1NC => omega
            case l2NC => (unfold maxLen; omega)
            case kkNC =>
              intro vPC wPC hown hBk
              have hb' := hBk wS.heap.size wS (Nat.le_refl _) HBPB.out
              obtain ⟨ca, cc, hvC, _, _⟩ := rd_of_own hown
              subst hvC
              have hqC := (hb'.block q (blk_lt HQS.out)).trans HQS.out
              have qC := blk_cell (i := 0) hqC
              have fC : wPC.frozen? ⟨q, 0, none⟩ = false := blk_free hqC
              have HFIN := Lib.hid (radd_done HQL.out HFA.out HADD.out HL.out HBS.out hb' hqC HQL2.out hown)
              clear hown hBk hb' hqC qB
              go_wp2
              go_ret
              exact HFIN.out
      | some x =>
        have hx : ∃ g, x = ⟨g, 0, none⟩ := by
          rcases HO.out.2 with ⟨h, _⟩ | ⟨g, c, cur, h, _⟩
          · cases h
          · cases h; exact ⟨g, rfl⟩
        obtain ⟨g, rfl⟩ := hx
        clear hke
        by_cases hroom : k < vc
        · skip
          obtain ⟨wS, hwS⟩ : ∃ wS, wS = u2.drewN nq := ⟨_, rfl⟩
          rw [← hwS]
          have hbS : Below w.heap.size w wS := by rw [hwS]; exact below_drewN HB2.out nq
          have hos : OwnE wS 0 (.slice (some ⟨g, 0, none⟩) L.length vc) L := HO.out.below hbS
          have hqS : wS.heap[q]? = some (.cells #[(.slice (some ⟨g, 0, none⟩) L.length vc)] 57 (0, 0)) := (hbS.block q HQL.out).trans HQ.out
          have hsS : wS.heap[w.heap.size]? = some (.cells #[.string e.u, .int .i64 e.s, .int .i64 e.k, .string e.v] 38 (0, 0)) := by rw [hwS]; exact HS2.out
          have hqlt := blk_lt hqS
          have hSlt := blk_lt hsS
          have q0 := blk_cell (i := 0) hqS
          have b0 := blk_cell (i := 0) hsS
          have b1 := blk_cell (i := 1) hsS
          have b2 := blk_cell (i := 2) hsS
          have b3 := blk_cell (i := 3) hsS
          have HBS := Lib.hid hbS
          have HOS := Lib.hid hos
          have HQS := Lib.hid hqS
          have HSS := Lib.hid hsS
          clear hbS hos hqS hsS hwS
          go_wp2_with (at_builtin; refine wpList_append_rd rfl (.tmp 53) (.tmp 59) 25 rfl wS.heap.size 38 4 48 (.agg #[.string ⟨#[]⟩, .int .i64 0, .int .i64 0, .string ⟨#[]⟩]) Try.underlying25 info_ent rfl (by decide) (.slice (some ⟨wS.heap.size, 0, none⟩) 0 0) _ 0 k [] ((L.take k).flatMap Ent.cells) rfl rfl (made_E wS) ?rdSA (entFlat_one _) ?bbSA ?l1SA ?l2SA ?kkSA)
          case rdSA => (have := entFront (Rd.below (rd_of_own HOS.out) ((Below.refl _ _).alloc (Nat.le_refl _) (.cells #[] 38)) (Nat.le_refl _)) k hk; exact this)
          case bbSA => simp
          case l1SA => omega
          case l2SA => (unfold maxLen; omega)
          case kkSA =>
            intro vPA wPA hown hBk
            have hb' := hBk wS.heap.size wS (Nat.le_refl _) ((Below.refl _ _).alloc (Nat.le_refl _) _)
            have HOPA := Lib.hid (show wPA.ownsRow wS.heap.size 38 4 vPA k ((L.take k).flatMap Ent.cells) by simpa using hown)
            have HBPA := Lib.hid hb'
            have g0 := (HBPA.out.cell (p := ⟨w.heap.size, 0, none⟩) (blk_lt HSS.out)).trans b0
            have g1 := (HBPA.out.cell (p := ⟨w.heap.size, 1, none⟩) (blk_lt HSS.out)).trans b1
            have g2 := (HBPA.out.cell (p := ⟨w.heap.size, 2, none⟩) (blk_lt HSS.out)).trans b2
            have g3 := (HBPA.out.cell (p := ⟨w.heap.size, 3, none⟩) (blk_lt HSS.out)).trans b3
            clear hown hBk hb'
            go_wp2_with (at_builtin; refine wpList_append_rd rfl (.tmp 61) (.tmp 63) 25 rfl wS.heap.size 38 4 48 (.agg #[.string ⟨#[]⟩, .int .i64 0, .int .i64 0, .string ⟨#[]⟩]) Try.underlying25 info_ent rfl (by decide) vPA _ k 1 ((L.take k).flatMap Ent.cells) ([e].flatMap Ent.cells) rfl rfl (World.ownsRow.alloc HOPA.out _) ?rdSB (entFlat_one _) ?bbSB ?l1SB ?l2SB ?kkSB)
            case rdSB => exact one_entry _ e
            case bbSB => (have := HBPA.out.size; simp; omega)
            case l1SB => omega
            case l2SB => (unfold maxLen; omega)
            case kkSB =>
              intro vPB wPB hown hBk
              have hb' := hBk wS.heap.size wS (Nat.le_refl _) (HBPA.out.alloc HBPA.out.size _)
              have HOPB := Lib.hid hown
              have HBPB := Lib.hid hb'
              have qB := (HBPB.out.cell (p := ⟨q, 0, none⟩) (blk_lt HQS.out)).trans q0
              clear hown hBk hb' g0 g1 g2 g3
              go_wp2_with (at_builtin; refine wpList_append_rd rfl (.tmp 66) (.tmp 72) 25 rfl wS.heap.size 38 4 48 (.agg #[.string ⟨#[]⟩, .int .i64 0, .int .i64 0, .string ⟨#[]⟩]) Try.underlying25 info_ent rfl (by decide) vPB _ (k + 1) (L.length - k) ((L.take k).flatMap Ent.cells ++ [e].flatMap Ent.cells) ((L.drop k).flatMap Ent.cells) rfl rfl (HOPB.out) ?rdSC (entFlat_one _) ?bbSC ?l1SC ?l2SC ?kkSC)
              case rdSC => (have := entRest (Rd.below (rd_of_own HOS.out) HBPB.out (Nat.le_refl _)) k hk; rw [Nat.zero_add] at this; exact this)
              case bbSC => exact HBPB.out.size
              case l1SC => omega
              case l2SC => (unfold maxLen; omega)
              case kkSC =>
                intro vPC wPC hown hBk
                have hb' := hBk wS.heap.size wS (Nat.le_refl _) HBPB.out
                obtain ⟨ca, cc, hvC, _, _⟩ := rd_of_own hown
                subst hvC
                have hqC := (hb'.block q (blk_lt HQS.out)).trans HQS.out
                have qC := blk_cell (i := 0) hqC
                have fC : wPC.frozen? ⟨q, 0, none⟩ = false := blk_free hqC
                have HFIN := Lib.hid (radd_done HQL.out HFA.out HADD.out HL.out HBS.out hb' hqC HQL2.out hown)
                clear hown hBk hb' hqC qB
                go_wp2
                go_ret
                exact HFIN.out
        · have hroom' : vc ≤ k := by omega
          clear hroom
          obtain ⟨wS, hwS⟩ : ∃ wS, wS = u2.drewN nq := ⟨_, rfl⟩
          rw [← hwS]
          have hbS : Below w.heap.size w wS := by rw [hwS]; exact below_drewN HB2.out nq
          have hos : OwnE wS 0 (.slice (some ⟨g, 0, none⟩) L.length vc) L := HO.out.below hbS
          have hqS : wS.heap[q]? = some (.cells #[(.slice (some ⟨g, 0, none⟩) L.length vc)] 57 (0, 0)) := (hbS.block q HQL.out).trans HQ.out
          have hsS : wS.heap[w.heap.size]? = some (.cells #[.string e.u, .int .i64 e.s, .int .i64 e.k, .string e.v] 38 (0, 0)) := by rw [hwS]; exact HS2.out
          have hqlt := blk_lt hqS
          have hSlt := blk_lt hsS
          have q0 := blk_cell (i := 0) hqS
          have b0 := blk_cell (i := 0) hsS
          have b1 := blk_cell (i := 1) hsS
          have b2 := blk_cell (i := 2) hsS
          have b3 := blk_cell (i := 3) hsS
          have HBS := Lib.hid hbS
          have HOS := Lib.hid hos
          have HQS := Lib.hid hqS
          have HSS := Lib.hid hsS
          clear hbS hos hqS hsS hwS
          go_wp2_with (at_builtin; refine wpList_append_rd rfl (.tmp 53) (.tmp 59) 25 rfl wS.heap.size 38 4 48 (.agg #[.string ⟨#[]⟩, .int .i64 0, .int .i64 0, .string ⟨#[]⟩]) Try.underlying25 info_ent rfl (by decide) (.slice (some ⟨wS.heap.size, 0, none⟩) 0 0) _ 0 k [] ((L.take k).flatMap Ent.cells) rfl rfl (made_E wS) ?rdFA (entFlat_one _) ?bbFA ?l1FA ?l2FA ?kkFA)
          case rdFA => (have := entFront (Rd.below (rd_of_own HOS.out) ((Below.refl _ _).alloc (Nat.le_refl _) (.cells #[] 38)) (Nat.le_refl _)) k hk; exact this)
          case bbFA => simp
          case l1FA => omega
          case l2FA => (unfold maxLen; omega)
          case kkFA =>
            intro vPA wPA hown hBk
            have hb' := hBk wS.heap.size wS (Nat.le_refl _) ((Below.refl _ _).alloc (Nat.le_refl _) _)
            have HOPA := Lib.hid (show wPA.ownsRow wS.heap.size 38 4 vPA k ((L.take k).flatMap Ent.cells) by simpa using hown)
            have HBPA := Lib.hid hb'
            have g0 := (HBPA.out.cell (p := ⟨w.heap.size, 0, none⟩) (blk_lt HSS.out)).trans b0
            have g1 := (HBPA.out.cell (p := ⟨w.heap.size, 1, none⟩) (blk_lt HSS.out)).trans b1
            have g2 := (HBPA.out.cell (p := ⟨w.heap.size, 2, none⟩) (blk_lt HSS.out)).trans b2
            have g3 := (HBPA.out.cell (p := ⟨w.heap.size, 3, none⟩) (blk_lt HSS.out)).trans b3
            clear hown hBk hb'
            go_wp2_with (at_builtin; refine wpList_append_rd rfl (.tmp 61) (.tmp 63) 25 rfl wS.heap.size 38 4 48 (.agg #[.string ⟨#[]⟩, .int .i64 0, .int .i64 0, .string ⟨#[]⟩]) Try.underlying25 info_ent rfl (by decide) vPA _ k 1 ((L.take k).flatMap Ent.cells) ([e].flatMap Ent.cells) rfl rfl (World.ownsRow.alloc HOPA.out _) ?rdFB (entFlat_one _) ?bbFB ?l1FB ?l2FB ?kkFB)
            case rdFB => exact one_entry _ e
            case bbFB => (have := HBPA.out.size; simp; omega)
            case l1FB => omega
            case l2FB => (unfold maxLen; omega)
            case kkFB =>
              intro vPB wPB hown hBk
              have hb' := hBk wS.heap.size wS (Nat.le_refl _) (HBPA.out.alloc HBPA.out.size _)
              have HOPB := Lib.hid hown
              have HBPB := Lib.hid hb'
              have qB := (HBPB.out.cell (p := ⟨q, 0, none⟩) (blk_lt HQS.out)).trans q0
              clear hown hBk hb' g0 g1 g2 g3
              go_wp2_with (at_builtin; refine wpList_append_rd rfl (.tmp 66) (.tmp 72) 25 rfl wS.heap.size 38 4 48 (.agg #[.string ⟨#[]⟩, .int .i64 0, .int .i64 0, .string ⟨#[]⟩]) Try.underlying25 info_ent rfl (by decide) vPB _ (k + 1) (L.length - k) ((L.take k).flatMap Ent.cells ++ [e].flatMap Ent.cells) ((L.drop k).flatMap Ent.cells) rfl rfl (HOPB.out) ?rdFC (entFlat_one _) ?bbFC ?l1FC ?l2FC ?kkFC)
              case rdFC => exact ⟨_, 0, rfl, by omega, Nat.zero_le _, by rw [flat_length, List.length_drop], .inl ⟨by omega, fun h => by cases h⟩⟩
              case bbFC => exact HBPB.out.size
              case l1FC => omega
              case l2FC => (unfold maxLen; omega)
              case kkFC =>
                intro vPC wPC hown hBk
                have hb' := hBk wS.heap.size wS (Nat.le_refl _) HBPB.out
                obtain ⟨ca, cc, hvC, _, _⟩ := rd_of_own hown
                subst hvC
                have hqC := (hb'.block q (blk_lt HQS.out)).trans HQS.out
                have qC := blk_cell (i := 0) hqC
                have fC : wPC.frozen? ⟨q, 0, none⟩ = false := blk_free hqC
                have HFIN := Lib.hid (radd_done HQL.out HFA.out HADD.out HL.out HBS.out hb' hqC HQL2.out hown)
                clear hown hBk hb' hqC qB
                go_wp2
                go_ret
                exact HFIN.out

theorem radd_any {G : Nat → Prop} {w : World} {q : Nat} {L : List Ent} (h : Ro G w q L) (e : Ent) (he : e.fits) (hll : L.length < 100000) :
    Calls Try.prog 29 #[.pointer (some ⟨q, 0, none⟩), .agg #[.string e.u, .int .i64 e.s, .int .i64 e.k, .string e.v]] w (RAddTo G q L e w) := by
  cases hmay : e.may with
  | false => exact radd_no h e he hmay
  | true =>
    have h0 := h
    obtain ⟨v, h1, h2, _, h4, h5⟩ := h
    obtain ⟨va, vc, rfl, _, _⟩ := h2.form
    exact radd_yes e he hmay va vc h1 ((h4 q).2 (.inl rfl)) h5 h2 h0 hll
end Go.Proofs.Ytnmmeaoapfampaa
