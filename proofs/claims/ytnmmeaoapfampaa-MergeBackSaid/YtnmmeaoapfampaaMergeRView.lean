/-
  What is seen of entries in order, as the document sees it.
-/
import Derived.Test.YtnmmeaoapfampaaMergeRSome
import Derived.Test.YtnmmeaoapfampaaMergeView
import Derived.Test.YtnmmeaoapfampaaRegion
import Derived.Test.YtnmmeaoapfampaaTwo
import Derived.Deep.Onto
import Derived.Test.YtnmmeaoapfampaaStrLess
namespace Go.Proofs.Ytnmmeaoapfampaa
open Go.RowKit

/-- Whether one of the user ahead was seen yet. -/
def doneV (p : Ent → Bool) (L : List Ent) (k : Nat) : Bool := seenV p L k (L.getD (k - 1) Ent.none_).u
theorem seenV_zero (p : Ent → Bool) (L : List Ent) (u : ByteArray) : seenV p L 0 u = false := by simp [seenV]
theorem done_same {p : Ent → Bool} {L : List Ent} {m : Nat} (h : (L.getD m Ent.none_).u = (L.getD (m + 1) Ent.none_).u) : doneV p L (m + 1) = seenV p L (m + 1) (L.getD (m + 1) Ent.none_).u := by
  unfold doneV; rw [Nat.add_sub_cancel, h]
theorem done_skip {p : Ent → Bool} {L : List Ent} {k : Nat} (hk : k < L.length) (h : seenV p L k (L.getD k Ent.none_).u = true ∨ p (L.getD k Ent.none_) = false) : doneV p L (k + 1) = seenV p L k (L.getD k Ent.none_).u ∧ pairsV (rowsV p L (k + 1)) = pairsV (rowsV p L k) := by
  have ht : tookV p L k = false := by
    unfold tookV
    rcases h with h | h
    · rw [h, Bool.not_true, Bool.and_false]
    · rw [h, Bool.false_and]
  refine ⟨?_, by rw [rows_succ, ht]; simp⟩
  unfold doneV
  rw [Nat.add_sub_cancel, seen_succ p hk]
  rcases h with h | h
  · rw [h, Bool.true_or]
  · rw [h, Bool.and_false, Bool.or_false]
theorem done_took {p : Ent → Bool} {L : List Ent} {k : Nat} (hk : k < L.length) (h1 : seenV p L k (L.getD k Ent.none_).u = false) (h2 : p (L.getD k Ent.none_) = true) : doneV p L (k + 1) = true ∧
    pairsV (rowsV p L (k + 1)) = pairsV (rowsV p L k) ++ if (L.getD k Ent.none_).k = 1 then [((L.getD k Ent.none_).u, (L.getD k Ent.none_).v)] else [] := by
  have ht : tookV p L k = true := by unfold tookV; rw [h1, h2]; rfl
  refine ⟨?_, ?_⟩
  · unfold doneV
    rw [Nat.add_sub_cancel, seen_succ p hk, h2]
    simp
  · rw [rows_succ, ht, if_pos rfl, pairs_append]
    generalize L.getD k Ent.none_ = e
    congr 1
    unfold pairsV
    by_cases hk : e.k = 1 <;> simp [hk]

theorem wp_of_step {P : Program} {o : Oper} {a : Act} {w : World} {K : Act → World → Prop} {Q : Exit → Act → World → Prop} (hg : o.guard = none) (h : if Region.wanted o (yielded #[] a.tmps) = true then Oper.wp P o a w K Q else True) : Oper.wp P o a w K Q := by
  rwa [if_pos (by simp [Region.wanted, hg])] at h
theorem inV_no1 {seq : Int} {lo hi u v : ByteArray} {s k : Int} (h : seq < s) : inV seq lo hi ⟨u, s, k, v⟩ = false := by
  unfold inV; rw [decide_eq_false (show ¬ (Ent.mk u s k v).s ≤ seq from by show ¬ s ≤ seq; omega)]; rfl
theorem inV_no2 {seq : Int} {lo hi u v : ByteArray} {s k : Int} (h : cmpL u.data.toList lo.data.toList < 0) : inV seq lo hi ⟨u, s, k, v⟩ = false := by
  unfold inV; rw [decide_eq_false (show ¬ 0 ≤ cmpL (Ent.mk u s k v).u.data.toList lo.data.toList from Int.not_le.2 h), Bool.and_false]; rfl
theorem inV_no3 {seq : Int} {lo hi u v : ByteArray} {s k : Int} (h0 : ¬ hi.size = 0) (h : ¬ cmpL u.data.toList hi.data.toList < 0) : inV seq lo hi ⟨u, s, k, v⟩ = false := by
  unfold inV; rw [decide_eq_false h0, decide_eq_false (show ¬ cmpL (Ent.mk u s k v).u.data.toList hi.data.toList < 0 from h), Bool.or_false, Bool.and_false]
theorem inV_yes {seq : Int} {lo hi u v : ByteArray} {s k : Int} (h1 : ¬ seq < s) (h2 : ¬ cmpL u.data.toList lo.data.toList < 0) (h3 : hi.size = 0 ∨ cmpL u.data.toList hi.data.toList < 0) : inV seq lo hi ⟨u, s, k, v⟩ = true := by
  unfold inV
  rw [decide_eq_true (show (Ent.mk u s k v).s ≤ seq from Int.not_lt.1 h1), decide_eq_true (show 0 ≤ cmpL (Ent.mk u s k v).u.data.toList lo.data.toList from Int.not_lt.1 h2)]
  rcases h3 with h3 | h3
  · rw [decide_eq_true h3]; rfl
  · rw [decide_eq_true (show cmpL (Ent.mk u s k v).u.data.toList hi.data.toList < 0 from h3), Bool.or_true]; rfl
theorem full_size {a : ByteArray} (h : a ≠ ⟨#[]⟩) : ¬ a.size = 0 := by
  intro e
  exact h (ByteArray.ext (Array.eq_empty_of_size_eq_zero e))

set_option maxRecDepth 100000 in
set_option maxHeartbeats 4000000 in
theorem rview_any (v : Value) (es : List Ent) (seq : Int) (lo hi : ByteArray) (back : Bool) (most : Int) (w : World) (hv : RdE w v es) (hup : Up es) (hl : es.length ≤ 100000) :
    Calls Try.prog 18 #[v, .int .i64 seq, .string lo, .string hi, .bool back, .int .i64 most] w fun e w' => ∃ x, e = .returned x ∧ OwnP w' w.heap.size x (viewV es seq lo hi back most) ∧ Below w.heap.size w w' := by
  obtain ⟨va, vc, rfl, hc1, hc2⟩ := hv.form
  unfold maxLen at hc2
  have HV := Lib.hid hv
  have HUP := Lib.hid hup
  obtain ⟨p, hp⟩ : ∃ p, inV seq lo hi = p := ⟨_, rfl⟩
  have HP := Lib.hid hp
  have HS : Hid (viewV es seq lo hi back most = someV (pairsV (rowsV p es es.length)) back most) := Lib.hid (by rw [← hp]; rfl)
  clear hv hup hp
  go_enter Try.func18, Try.ntmps18
  go_wp2
  go_loopw [13, 14, 15] (fun x dn i wr => ∃ (k : Nat) (x' : Value), k ≤ es.length ∧ x' = x ∧ i = .int .i64 (k : Int) ∧ dn = .bool (doneV p es k) ∧ Hid (OwnP wr w.heap.size x' (pairsV (rowsV p es k))) ∧ Hid (Below w.heap.size w wr)) (fun _ _ i _ => es.length - (intOf i).toNat)
  case atStart => exact ⟨0, _, Nat.zero_le _, rfl, rfl, by rw [doneV, seenV_zero], Lib.hid (World.ownsRow_nil _ _ _ _), Lib.hid (Below.refl _ _)⟩
  case round =>
    obtain ⟨k, xs, hk, rfl, rfl, hdn, HO, HB⟩ := hrel
    by_cases hlt : k < es.length
    · obtain ⟨b, off, cap', hve, _, _, hbw, hcells⟩ := (HV.out.below HB.out (Nat.le_refl _)).at_ (by intro h; subst h; simp at hlt)
      cases hve
      obtain ⟨d0, d1, d2, d3⟩ := hcells k hlt
      have HCE := Lib.hid hcells
      clear hcells
      have hlt' : (k : Int) < (es.length : Int) := by omega
      have HSK := Lib.hid (done_skip (p := p) (L := es) hlt)
      have HTK := Lib.hid (done_took (p := p) (L := es) hlt)
      have HPE : Hid (p (es.getD k Ent.none_) = inV seq lo hi (es.getD k Ent.none_)) := Lib.hid (by rw [HP.out])
      have HPL : Hid ((pairsV (rowsV p es k)).length ≤ es.length) := Lib.hid (by unfold pairsV; rw [List.length_map]; exact Nat.le_trans (List.length_filter_le _ _) (Nat.le_trans (rows_len _ _ _) hk))
      have HSD : Hid (∀ m, k = m + 1 → (if (es.getD m Ent.none_).u = (es.getD k Ent.none_).u then doneV p es k = seenV p es k (es.getD k Ent.none_).u else seenV p es k (es.getD k Ent.none_).u = false)) := Lib.hid (by
        intro m hm
        subst hm
        split
        · exact done_same (by assumption)
        · exact seen_new HUP.out p hlt (by assumption))
      have HS0 : Hid (k = 0 → seenV p es k (es.getD k Ent.none_).u = false) := Lib.hid (by intro h; subst h; exact seenV_zero _ _ _)
      generalize es.getD k Ent.none_ = e at *
      obtain ⟨eu, es', ek, ev⟩ := e
      simp only at d0 d1 d2 d3
      have c3 := d3
      go_upto_region 7 with (fail)
      obtain ⟨wB, hwB⟩ : ∃ wB, wB = wr.alloc (.cells #[.string eu, .int .i64 es', .int .i64 ek] 36) := ⟨_, rfl⟩
      rw [← hwB]
      have hBB : Below w.heap.size w wB := by rw [hwB]; exact HB.out.alloc HB.out.size _
      have hBx : Below wr.heap.size wr wB := by rw [hwB]; exact (Below.refl _ _).alloc (Nat.le_refl _) _
      have e0 : wB.cell? ⟨wr.heap.size, 0, none⟩ = some (.string eu) := by rw [hwB]; go_simp
      have e1 : wB.cell? ⟨wr.heap.size, 1, none⟩ = some (.int .i64 es') := by rw [hwB]; go_simp
      have e2 : wB.cell? ⟨wr.heap.size, 2, none⟩ = some (.int .i64 ek) := by rw [hwB]; go_simp
      have hbk : wr.heap.size < wB.heap.size := by rw [hwB]; simp
      have hbw2 : b < wB.heap.size := Nat.lt_of_lt_of_le hbw hBx.size
      have d3B : wB.cell? ⟨b, off + k * 4 + 3, none⟩ = some (.string ev) := (hBx.cell hbw).trans d3
      clear hwB
      by_cases hk0 : k = 0
      · refine wp_region_plan [(true, 0), (true, 1), (true, 2), (true, 3), (true, 4), (true, 5), (true, 6), (true, 7), (true, 8), (true, 9), (true, 10), (true, 11), (true, 12), (true, 13)] (by kernel_rfl) (by kernel_rfl) (by kernel_rfl) (by kernel_rfl) (by kernel_rfl) ?_
        simp only [planO, List.drop_succ_cons, List.drop_zero]
        refine PlanO.take (v := ?vA0) (by kernel_rfl) ?yA0 ?rA0
        case yA0 => (intro wz hz; go_simp; try with_reducible rfl)
        (try simp only [Act.put, List.setIfInBounds_toArray, List.set_cons_zero, List.set_cons_succ])
        refine PlanO.take (v := .bool true) (by kernel_rfl) ?yA1 ?rA1
        case yA1 => (intro wz hz; go_simp; try simp [hk0])
        (try simp only [Act.put, List.setIfInBounds_toArray, List.set_cons_zero, List.set_cons_succ])
        refine PlanO.take (v := ?vA2) (by kernel_rfl) ?yA2 ?rA2
        case yA2 => (intro wz hz; go_simp; try with_reducible rfl)
        (try simp only [Act.put, List.setIfInBounds_toArray, List.set_cons_zero, List.set_cons_succ])
        refine PlanO.skip (by kernel_rfl) ?_
        (try simp only [Act.put, List.setIfInBounds_toArray, List.set_cons_zero, List.set_cons_succ])
        refine PlanO.skip (by kernel_rfl) ?_
        (try simp only [Act.put, List.setIfInBounds_toArray, List.set_cons_zero, List.set_cons_succ])
        refine PlanO.skip (by kernel_rfl) ?_
        (try simp only [Act.put, List.setIfInBounds_toArray, List.set_cons_zero, List.set_cons_succ])
        refine PlanO.skip (by kernel_rfl) ?_
        (try simp only [Act.put, List.setIfInBounds_toArray, List.set_cons_zero, List.set_cons_succ])
        refine PlanO.skip (by kernel_rfl) ?_
        (try simp only [Act.put, List.setIfInBounds_toArray, List.set_cons_zero, List.set_cons_succ])
        refine PlanO.skip (by kernel_rfl) ?_
        (try simp only [Act.put, List.setIfInBounds_toArray, List.set_cons_zero, List.set_cons_succ])
        refine PlanO.skip (by kernel_rfl) ?_
        (try simp only [Act.put, List.setIfInBounds_toArray, List.set_cons_zero, List.set_cons_succ])
        refine PlanO.skip (by kernel_rfl) ?_
        (try simp only [Act.put, List.setIfInBounds_toArray, List.set_cons_zero, List.set_cons_succ])
        refine PlanO.skip (by kernel_rfl) ?_
        (try simp only [Act.put, List.setIfInBounds_toArray, List.set_cons_zero, List.set_cons_succ])
        refine PlanO.skip (by kernel_rfl) ?_
        (try simp only [Act.put, List.setIfInBounds_toArray, List.set_cons_zero, List.set_cons_succ])
        refine PlanO.take (v := .bool true) (by kernel_rfl) ?yA13 ?rA13
        case yA13 => (intro wz hz; go_simp; try with_reducible rfl)
        (try simp only [Act.put, List.setIfInBounds_toArray, List.set_cons_zero, List.set_cons_succ])
        refine PlanO.done (NoPanic.normal ?_)
        go_upto_region 9 with (fail)
        have e0d : wB.drew.cell? ⟨wr.heap.size, 0, none⟩ = some (.string eu) := e0
        have e1d : wB.drew.cell? ⟨wr.heap.size, 1, none⟩ = some (.int .i64 es') := e1
        have HSV := Lib.hid (HS0.out hk0)
        clear hk0
        by_cases hs : seq < es'
        · have HZ := Lib.hid (HSK.out (.inr (HPE.out.trans (inV_no1 hs))))
          go_wp2
          go_roundw
          case rel => exact ⟨k + 1, _, by omega, rfl, by go_num, congrArg Value.bool (HZ.out.1.trans HSV.out).symm, Lib.hid (by rw [HZ.out.2]; exact (HO.out.below hBx.drew)), Lib.hid hBB.drew⟩
          case measure => simp [intOf]; omega
        · by_cases hl0 : cmpL eu.data.toList lo.data.toList < 0
          · have hl1 := less_yes hl0
            have HZ := Lib.hid (HSK.out (.inr (HPE.out.trans (inV_no2 hl0))))
            go_wp2
            go_roundw
            case rel => exact ⟨k + 1, _, by omega, rfl, by go_num, congrArg Value.bool (HZ.out.1.trans HSV.out).symm, Lib.hid (by rw [HZ.out.2]; exact (HO.out.below hBx.drew)), Lib.hid hBB.drew⟩
            case measure => simp [intOf]; omega
          · have hl1 := less_no hl0
            by_cases hz0 : hi = ⟨#[]⟩
            · subst hz0
              have HZ := Lib.hid (HTK.out HSV.out (HPE.out.trans (inV_yes hs hl0 (.inl rfl))))
              by_cases hek : ek = 1
              · subst hek
                have HOB := Lib.hid (HO.out.below hBx)
                go_upto_region 12 with (fail)
                refine wp_region_two (fun wz => Below wB.heap.size wB wz) (fun _ => True) [(0, 0), (0, 1), (0, 2), (0, 3), (0, 4), (0, 5), (0, 6), (0, 7), (0, 8), (2, 9), (3, 10), (1, 11)] [10] (by kernel_rfl) (by kernel_rfl) (by kernel_rfl) (by kernel_rfl) (by kernel_rfl) (Below.refl _ _).drew.drew trivial ?_
                simp only [planT, List.drop_succ_cons, List.drop_zero]
                refine PlanT.take0 (v := ?vA40) (by kernel_rfl) ?yA40 ?rA40
                case yA40 => (intro wz hz; go_simp; try with_reducible rfl)
                (try simp only [Act.put, List.setIfInBounds_toArray, List.set_cons_zero, List.set_cons_succ])
                refine PlanT.take0 (v := ?vA41) (by kernel_rfl) ?yA41 ?rA41
                case yA41 => (intro wz hz; go_simp; try with_reducible rfl)
                (try simp only [Act.put, List.setIfInBounds_toArray, List.set_cons_zero, List.set_cons_succ])
                refine PlanT.take0 (v := ?vA42) (by kernel_rfl) ?yA42 ?rA42
                case yA42 => (intro wz hz; have c0 := (hz.cell (p := ⟨wr.heap.size, 0, none⟩) hbk).trans e0; go_simp; try with_reducible rfl)
                (try simp only [Act.put, List.setIfInBounds_toArray, List.set_cons_zero, List.set_cons_succ])
                refine PlanT.take0 (v := ?vA43) (by kernel_rfl) ?yA43 ?rA43
                case yA43 => (intro wz hz; go_simp; try with_reducible rfl)
                (try simp only [Act.put, List.setIfInBounds_toArray, List.set_cons_zero, List.set_cons_succ])
                refine PlanT.take0 (v := ?vA44) (by kernel_rfl) ?yA44 ?rA44
                case yA44 => (intro wz hz; go_simp; try with_reducible rfl)
                (try simp only [Act.put, List.setIfInBounds_toArray, List.set_cons_zero, List.set_cons_succ])
                refine PlanT.take0 (v := ?vA45) (by kernel_rfl) ?yA45 ?rA45
                case yA45 => (intro wz hz; go_simp; try with_reducible rfl)
                (try simp only [Act.put, List.setIfInBounds_toArray, List.set_cons_zero, List.set_cons_succ])
                refine PlanT.take0 (v := ?vA46) (by kernel_rfl) ?yA46 ?rA46
                case yA46 => (intro wz hz; go_simp; try with_reducible rfl)
                (try simp only [Act.put, List.setIfInBounds_toArray, List.set_cons_zero, List.set_cons_succ])
                refine PlanT.take0 (v := ?vA47) (by kernel_rfl) ?yA47 ?rA47
                case yA47 => (intro wz hz; have c1 := (hz.cell (p := ⟨b, off + k * 4 + 3, none⟩) hbw2).trans d3B; go_simp; try with_reducible rfl)
                (try simp only [Act.put, List.setIfInBounds_toArray, List.set_cons_zero, List.set_cons_succ])
                refine PlanT.take0 (v := ?vA48) (by kernel_rfl) ?yA48 ?rA48
                case yA48 => (intro wz hz; go_simp; try with_reducible rfl)
                (try simp only [Act.put, List.setIfInBounds_toArray, List.set_cons_zero, List.set_cons_succ])
                refine PlanT.exec2 (fun K hK => ⟨by kernel_rfl, ?_⟩)
                go_simp
                refine hK.out _ _ ((Below.refl _ _).drew.drew.alloc (Nat.le_refl _) _) trivial ?_
                clear hK K
                (try simp only [Act.put, List.setIfInBounds_toArray, List.set_cons_zero, List.set_cons_succ])
                refine PlanT.exec3 (fun K hK => ⟨by kernel_rfl, ?_⟩)
                refine wp_of_step rfl ?_
                refine step_append_rd ?q0A4 (.tmp 68) (.tmp 77) 30 ?q3A4 w.heap.size 42 2 32 (.agg #[.string ⟨#[]⟩, .string ⟨#[]⟩]) Try.underlying30 info_pair rfl (by decide) xs (.slice (some ⟨wB.heap.size, 0, none⟩) 1 1) (pairsV (rowsV p es k)).length 1 ((pairsV (rowsV p es k)).flatMap cellsP) ([(eu, ev)].flatMap cellsP) ?q1A4 ?q2A4 (World.ownsRow.drew (World.ownsRow.drew (World.ownsRow.alloc HOB.out _))) (Rd.below (one_pair wB (eu, ev)) (Below.refl _ _).drew.drew (Nat.le_refl _)) (pairFlat_one _) ?b1A4 ?b2A4 ?b3A4 ?_
                case q0A4 => rfl
                case q3A4 => rfl
                case q1A4 => rfl
                case q2A4 => rfl
                case b1A4 => (have := hBB.size; simp [World.drew]; omega)
                case b2A4 => (have := HPL.out; omega)
                case b3A4 => (have := HPL.out; unfold maxLen; omega)
                intro v' w' hown hBk
                refine hK.out _ _ trivial ?_
                clear hK K
                (try simp only [Act.put, List.setIfInBounds_toArray, List.set_cons_zero, List.set_cons_succ])
                refine PlanT.take1 (v := ?vA411) (by kernel_rfl) ?yA411 ?rA411
                case yA411 => (intro wz hz; go_simp; try with_reducible rfl)
                (try simp only [Act.put, List.setIfInBounds_toArray, List.set_cons_zero, List.set_cons_succ])
                refine PlanT.done (NoPanic.normal ?_)
                go_wp2
                refine ⟨⟨k + 1, _, by omega, rfl, by go_num, congrArg Value.bool HZ.out.1.symm, Lib.hid ?_, Lib.hid (hBk _ _ (Nat.le_refl _) (hBB.alloc hBB.size _).drew.drew)⟩, by simp [intOf]; omega⟩
                rw [HZ.out.2, if_pos rfl]
                unfold OwnP
                rw [List.length_append, List.flatMap_append]
                exact hown
              · go_wp2
                exact ⟨⟨k + 1, _, by omega, rfl, by go_num, congrArg Value.bool HZ.out.1.symm, Lib.hid (by rw [HZ.out.2, if_neg hek, List.append_nil]; exact (HO.out.below hBx.drew)), Lib.hid hBB.drew⟩, by simp [intOf]; omega⟩
            · have hz1 := full_list hz0
              by_cases hh0 : cmpL eu.data.toList hi.data.toList < 0
              · have hh1 := less_yes hh0
                have HZ := Lib.hid (HTK.out HSV.out (HPE.out.trans (inV_yes hs hl0 (.inr hh0))))
                by_cases hek : ek = 1
                · subst hek
                  have HOB := Lib.hid (HO.out.below hBx)
                  go_upto_region 12 with (fail)
                  refine wp_region_two (fun wz => Below wB.heap.size wB wz) (fun _ => True) [(0, 0), (0, 1), (0, 2), (0, 3), (0, 4), (0, 5), (0, 6), (0, 7), (0, 8), (2, 9), (3, 10), (1, 11)] [10] (by kernel_rfl) (by kernel_rfl) (by kernel_rfl) (by kernel_rfl) (by kernel_rfl) (Below.refl _ _).drew.drew trivial ?_
                  simp only [planT, List.drop_succ_cons, List.drop_zero]
                  refine PlanT.take0 (v := ?vA60) (by kernel_rfl) ?yA60 ?rA60
                  case yA60 => (intro wz hz; go_simp; try with_reducible rfl)
                  (try simp only [Act.put, List.setIfInBounds_toArray, List.set_cons_zero, List.set_cons_succ])
                  refine PlanT.take0 (v := ?vA61) (by kernel_rfl) ?yA61 ?rA61
                  case yA61 => (intro wz hz; go_simp; try with_reducible rfl)
                  (try simp only [Act.put, List.setIfInBounds_toArray, List.set_cons_zero, List.set_cons_succ])
                  refine PlanT.take0 (v := ?vA62) (by kernel_rfl) ?yA62 ?rA62
                  case yA62 => (intro wz hz; have c0 := (hz.cell (p := ⟨wr.heap.size, 0, none⟩) hbk).trans e0; go_simp; try with_reducible rfl)
                  (try simp only [Act.put, List.setIfInBounds_toArray, List.set_cons_zero, List.set_cons_succ])
                  refine PlanT.take0 (v := ?vA63) (by kernel_rfl) ?yA63 ?rA63
                  case yA63 => (intro wz hz; go_simp; try with_reducible rfl)
                  (try simp only [Act.put, List.setIfInBounds_toArray, List.set_cons_zero, List.set_cons_succ])
                  refine PlanT.take0 (v := ?vA64) (by kernel_rfl) ?yA64 ?rA64
                  case yA64 => (intro wz hz; go_simp; try with_reducible rfl)
                  (try simp only [Act.put, List.setIfInBounds_toArray, List.set_cons_zero, List.set_cons_succ])
                  refine PlanT.take0 (v := ?vA65) (by kernel_rfl) ?yA65 ?rA65
                  case yA65 => (intro wz hz; go_simp; try with_reducible rfl)
                  (try simp only [Act.put, List.setIfInBounds_toArray, List.set_cons_zero, List.set_cons_succ])
                  refine PlanT.take0 (v := ?vA66) (by kernel_rfl) ?yA66 ?rA66
                  case yA66 => (intro wz hz; go_simp; try with_reducible rfl)
                  (try simp only [Act.put, List.setIfInBounds_toArray, List.set_cons_zero, List.set_cons_succ])
                  refine PlanT.take0 (v := ?vA67) (by kernel_rfl) ?yA67 ?rA67
                  case yA67 => (intro wz hz; have c1 := (hz.cell (p := ⟨b, off + k * 4 + 3, none⟩) hbw2).trans d3B; go_simp; try with_reducible rfl)
                  (try simp only [Act.put, List.setIfInBounds_toArray, List.set_cons_zero, List.set_cons_succ])
                  refine PlanT.take0 (v := ?vA68) (by kernel_rfl) ?yA68 ?rA68
                  case yA68 => (intro wz hz; go_simp; try with_reducible rfl)
                  (try simp only [Act.put, List.setIfInBounds_toArray, List.set_cons_zero, List.set_cons_succ])
                  refine PlanT.exec2 (fun K hK => ⟨by kernel_rfl, ?_⟩)
                  go_simp
                  refine hK.out _ _ ((Below.refl _ _).drew.drew.alloc (Nat.le_refl _) _) trivial ?_
                  clear hK K
                  (try simp only [Act.put, List.setIfInBounds_toArray, List.set_cons_zero, List.set_cons_succ])
                  refine PlanT.exec3 (fun K hK => ⟨by kernel_rfl, ?_⟩)
                  refine wp_of_step rfl ?_
                  refine step_append_rd ?q0A6 (.tmp 68) (.tmp 77) 30 ?q3A6 w.heap.size 42 2 32 (.agg #[.string ⟨#[]⟩, .string ⟨#[]⟩]) Try.underlying30 info_pair rfl (by decide) xs (.slice (some ⟨wB.heap.size, 0, none⟩) 1 1) (pairsV (rowsV p es k)).length 1 ((pairsV (rowsV p es k)).flatMap cellsP) ([(eu, ev)].flatMap cellsP) ?q1A6 ?q2A6 (World.ownsRow.drew (World.ownsRow.drew (World.ownsRow.alloc HOB.out _))) (Rd.below (one_pair wB (eu, ev)) (Below.refl _ _).drew.drew (Nat.le_refl _)) (pairFlat_one _) ?b1A6 ?b2A6 ?b3A6 ?_
                  case q0A6 => rfl
                  case q3A6 => rfl
                  case q1A6 => rfl
                  case q2A6 => rfl
                  case b1A6 => (have := hBB.size; simp [World.drew]; omega)
                  case b2A6 => (have := HPL.out; omega)
                  case b3A6 => (have := HPL.out; unfold maxLen; omega)
                  intro v' w' hown hBk
                  refine hK.out _ _ trivial ?_
                  clear hK K
                  (try simp only [Act.put, List.setIfInBounds_toArray, List.set_cons_zero, List.set_cons_succ])
                  refine PlanT.take1 (v := ?vA611) (by kernel_rfl) ?yA611 ?rA611
                  case yA611 => (intro wz hz; go_simp; try with_reducible rfl)
                  (try simp only [Act.put, List.setIfInBounds_toArray, List.set_cons_zero, List.set_cons_succ])
                  refine PlanT.done (NoPanic.normal ?_)
                  go_wp2
                  refine ⟨⟨k + 1, _, by omega, rfl, by go_num, congrArg Value.bool HZ.out.1.symm, Lib.hid ?_, Lib.hid (hBk _ _ (Nat.le_refl _) (hBB.alloc hBB.size _).drew.drew)⟩, by simp [intOf]; omega⟩
                  rw [HZ.out.2, if_pos rfl]
                  unfold OwnP
                  rw [List.length_append, List.flatMap_append]
                  exact hown
                · go_wp2
                  exact ⟨⟨k + 1, _, by omega, rfl, by go_num, congrArg Value.bool HZ.out.1.symm, Lib.hid (by rw [HZ.out.2, if_neg hek, List.append_nil]; exact (HO.out.below hBx.drew)), Lib.hid hBB.drew⟩, by simp [intOf]; omega⟩
              · have hh1 := less_no hh0
                have HZ := Lib.hid (HSK.out (.inr (HPE.out.trans (inV_no3 (full_size hz0) hh0))))
                go_wp2
                go_roundw
                case rel => exact ⟨k + 1, _, by omega, rfl, by go_num, congrArg Value.bool (HZ.out.1.trans HSV.out).symm, Lib.hid (by rw [HZ.out.2]; exact (HO.out.below hBx.drew)), Lib.hid hBB.drew⟩
                case measure => simp [intOf]; omega
      · obtain ⟨m, rfl⟩ : ∃ m, k = m + 1 := ⟨k - 1, by omega⟩
        have hk0b : (((m + 1 : Nat) : Int) == 0) = false := by simp; omega
        have HSM := Lib.hid (HSD.out m rfl)
        obtain ⟨q0, q1, q2, q3⟩ := HCE.out m (by omega)
        generalize es.getD m Ent.none_ = d at *
        obtain ⟨mu, ms, mk, mv⟩ := d
        simp only at q0 q1 q2 q3
        have q0' : wB.cell? ⟨b, off + m * 4, none⟩ = some (.string mu) := (hBx.cell hbw).trans q0
        clear hk0 q0 q1 q2 q3
        have hmn : (m : Int) < (es.length : Int) := by omega
        have hm0 : (0 : Int) ≤ (m : Int) := by omega
        have hmp : (0 : Int) ≤ (m : Int) + 1 := by omega
        have hmn2 : (m : Int) + 1 < (es.length : Int) := by omega
        have hmt : ((m : Int) + 1).toNat = m + 1 := by omega
        have hmw : IntKind.i64.wrap (m : Int) = (m : Int) := IntWalk.i64_in _ (by omega)
        by_cases hue : mu = eu
        · have hue' := hue.symm
          subst hue'
          subst hdn
          have HSQ := HSM.out
          rw [if_pos rfl] at HSQ
          rw [HSQ]
          clear HSM
          refine wp_region_plan [(true, 0), (true, 1), (true, 2), (true, 3), (true, 4), (true, 5), (true, 6), (true, 7), (true, 8), (true, 9), (true, 10), (true, 11), (true, 12), (true, 13)] (by kernel_rfl) (by kernel_rfl) (by kernel_rfl) (by kernel_rfl) (by kernel_rfl) ?_
          simp only [planO, List.drop_succ_cons, List.drop_zero]
          refine PlanO.take (v := ?vB0) (by kernel_rfl) ?yB0 ?rB0
          case yB0 => (intro wz hz; go_simp; try with_reducible rfl)
          (try simp only [Act.put, List.setIfInBounds_toArray, List.set_cons_zero, List.set_cons_succ])
          refine PlanO.take (v := .bool false) (by kernel_rfl) ?yB1 ?rB1
          case yB1 => (intro wz hz; go_simp; (try simp); (try omega))
          (try simp only [Act.put, List.setIfInBounds_toArray, List.set_cons_zero, List.set_cons_succ])
          refine PlanO.take (v := .bool false) (by kernel_rfl) ?yB2 ?rB2
          case yB2 => (intro wz hz; go_simp; try with_reducible rfl)
          (try simp only [Act.put, List.setIfInBounds_toArray, List.set_cons_zero, List.set_cons_succ])
          refine PlanO.take (v := ?vB3) (by kernel_rfl) ?yB3 ?rB3
          case yB3 => (intro wz hz; go_simp; try with_reducible rfl)
          (try simp only [Act.put, List.setIfInBounds_toArray, List.set_cons_zero, List.set_cons_succ])
          refine PlanO.take (v := ?vB4) (by kernel_rfl) ?yB4 ?rB4
          case yB4 => (intro wz hz; go_simp; try with_reducible rfl)
          (try simp only [Act.put, List.setIfInBounds_toArray, List.set_cons_zero, List.set_cons_succ])
          refine PlanO.take (v := ?vB5) (by kernel_rfl) ?yB5 ?rB5
          case yB5 => (intro wz hz; go_simp; try with_reducible rfl)
          (try simp only [Act.put, List.setIfInBounds_toArray, List.set_cons_zero, List.set_cons_succ])
          refine PlanO.take (v := ?vB6) (by kernel_rfl) ?yB6 ?rB6
          case yB6 => (intro wz hz; go_simp; try with_reducible rfl)
          (try simp only [Act.put, List.setIfInBounds_toArray, List.set_cons_zero, List.set_cons_succ])
          refine PlanO.take (v := ?vB7) (by kernel_rfl) ?yB7 ?rB7
          case yB7 => (intro wz hz; go_simp; try with_reducible rfl)
          (try simp only [Act.put, List.setIfInBounds_toArray, List.set_cons_zero, List.set_cons_succ])
          refine PlanO.take (v := ?vB8) (by kernel_rfl) ?yB8 ?rB8
          case yB8 => (intro wz hz; go_simp; try with_reducible rfl)
          (try simp only [Act.put, List.setIfInBounds_toArray, List.set_cons_zero, List.set_cons_succ])
          refine PlanO.take (v := .string eu) (by kernel_rfl) ?yB9 ?rB9
          case yB9 => (intro wz hz; have c0 := Ext.at_ hz q0'; go_simp; try with_reducible rfl)
          (try simp only [Act.put, List.setIfInBounds_toArray, List.set_cons_zero, List.set_cons_succ])
          refine PlanO.take (v := ?vB10) (by kernel_rfl) ?yB10 ?rB10
          case yB10 => (intro wz hz; go_simp; try with_reducible rfl)
          (try simp only [Act.put, List.setIfInBounds_toArray, List.set_cons_zero, List.set_cons_succ])
          refine PlanO.take (v := .string eu) (by kernel_rfl) ?yB11 ?rB11
          case yB11 => (intro wz hz; have c1 := Ext.at_ hz e0; go_simp; try with_reducible rfl)
          (try simp only [Act.put, List.setIfInBounds_toArray, List.set_cons_zero, List.set_cons_succ])
          refine PlanO.take (v := .bool false) (by kernel_rfl) ?yB12 ?rB12
          case yB12 => (intro wz hz; go_simp; (try simp [hue]))
          (try simp only [Act.put, List.setIfInBounds_toArray, List.set_cons_zero, List.set_cons_succ])
          refine PlanO.take (v := .bool false) (by kernel_rfl) ?yB13 ?rB13
          case yB13 => (intro wz hz; go_simp; try with_reducible rfl)
          (try simp only [Act.put, List.setIfInBounds_toArray, List.set_cons_zero, List.set_cons_succ])
          refine PlanO.done (NoPanic.normal ?_)
          go_upto_region 9 with (fail)
          have e0d : wB.drew.cell? ⟨wr.heap.size, 0, none⟩ = some (.string eu) := e0
          have e1d : wB.drew.cell? ⟨wr.heap.size, 1, none⟩ = some (.int .i64 es') := e1
          obtain ⟨sd, hsd⟩ : ∃ sd, seenV p es (m + 1) eu = sd := ⟨_, rfl⟩
          rw [hsd]
          cases sd with
          | true =>
            have HSV := Lib.hid hsd
            clear hsd
            have HZ := Lib.hid (HSK.out (.inl HSV.out))
            go_wp2
            go_roundw
            case rel => exact ⟨m + 1 + 1, _, by omega, rfl, by go_num, congrArg Value.bool (HZ.out.1.trans HSV.out).symm, Lib.hid (by rw [HZ.out.2]; exact (HO.out.below hBx.drew)), Lib.hid hBB.drew⟩
            case measure => simp [intOf]; omega
          | false =>
            have HSV := Lib.hid hsd
            clear hsd
            by_cases hs : seq < es'
            · have HZ := Lib.hid (HSK.out (.inr (HPE.out.trans (inV_no1 hs))))
              go_wp2
              go_roundw
              case rel => exact ⟨m + 1 + 1, _, by omega, rfl, by go_num, congrArg Value.bool (HZ.out.1.trans HSV.out).symm, Lib.hid (by rw [HZ.out.2]; exact (HO.out.below hBx.drew)), Lib.hid hBB.drew⟩
              case measure => simp [intOf]; omega
            · by_cases hl0 : cmpL eu.data.toList lo.data.toList < 0
              · have hl1 := less_yes hl0
                have HZ := Lib.hid (HSK.out (.inr (HPE.out.trans (inV_no2 hl0))))
                go_wp2
                go_roundw
                case rel => exact ⟨m + 1 + 1, _, by omega, rfl, by go_num, congrArg Value.bool (HZ.out.1.trans HSV.out).symm, Lib.hid (by rw [HZ.out.2]; exact (HO.out.below hBx.drew)), Lib.hid hBB.drew⟩
                case measure => simp [intOf]; omega
              · have hl1 := less_no hl0
                by_cases hz0 : hi = ⟨#[]⟩
                · subst hz0
                  have HZ := Lib.hid (HTK.out HSV.out (HPE.out.trans (inV_yes hs hl0 (.inl rfl))))
                  by_cases hek : ek = 1
                  · subst hek
                    have HOB := Lib.hid (HO.out.below hBx)
                    go_upto_region 12 with (fail)
                    refine wp_region_two (fun wz => Below wB.heap.size wB wz) (fun _ => True) [(0, 0), (0, 1), (0, 2), (0, 3), (0, 4), (0, 5), (0, 6), (0, 7), (0, 8), (2, 9), (3, 10), (1, 11)] [10] (by kernel_rfl) (by kernel_rfl) (by kernel_rfl) (by kernel_rfl) (by kernel_rfl) (Below.refl _ _).drew.drew trivial ?_
                    simp only [planT, List.drop_succ_cons, List.drop_zero]
                    refine PlanT.take0 (v := ?vB40) (by kernel_rfl) ?yB40 ?rB40
                    case yB40 => (intro wz hz; go_simp; try with_reducible rfl)
                    (try simp only [Act.put, List.setIfInBounds_toArray, List.set_cons_zero, List.set_cons_succ])
                    refine PlanT.take0 (v := ?vB41) (by kernel_rfl) ?yB41 ?rB41
                    case yB41 => (intro wz hz; go_simp; try with_reducible rfl)
                    (try simp only [Act.put, List.setIfInBounds_toArray, List.set_cons_zero, List.set_cons_succ])
                    refine PlanT.take0 (v := ?vB42) (by kernel_rfl) ?yB42 ?rB42
                    case yB42 => (intro wz hz; have c0 := (hz.cell (p := ⟨wr.heap.size, 0, none⟩) hbk).trans e0; go_simp; try with_reducible rfl)
                    (try simp only [Act.put, List.setIfInBounds_toArray, List.set_cons_zero, List.set_cons_succ])
                    refine PlanT.take0 (v := ?vB43) (by kernel_rfl) ?yB43 ?rB43
                    case yB43 => (intro wz hz; go_simp; try with_reducible rfl)
                    (try simp only [Act.put, List.setIfInBounds_toArray, List.set_cons_zero, List.set_cons_succ])
                    refine PlanT.take0 (v := ?vB44) (by kernel_rfl) ?yB44 ?rB44
                    case yB44 => (intro wz hz; go_simp; try with_reducible rfl)
                    (try simp only [Act.put, List.setIfInBounds_toArray, List.set_cons_zero, List.set_cons_succ])
                    refine PlanT.take0 (v := ?vB45) (by kernel_rfl) ?yB45 ?rB45
                    case yB45 => (intro wz hz; go_simp; try with_reducible rfl)
                    (try simp only [Act.put, List.setIfInBounds_toArray, List.set_cons_zero, List.set_cons_succ])
                    refine PlanT.take0 (v := ?vB46) (by kernel_rfl) ?yB46 ?rB46
                    case yB46 => (intro wz hz; go_simp; try with_reducible rfl)
                    (try simp only [Act.put, List.setIfInBounds_toArray, List.set_cons_zero, List.set_cons_succ])
                    refine PlanT.take0 (v := ?vB47) (by kernel_rfl) ?yB47 ?rB47
                    case yB47 => (intro wz hz; have c1 := (hz.cell (p := ⟨b, off + (m + 1) * 4 + 3, none⟩) hbw2).trans d3B; go_simp; try with_reducible rfl)
                    (try simp only [Act.put, List.setIfInBounds_toArray, List.set_cons_zero, List.set_cons_succ])
                    refine PlanT.take0 (v := ?vB48) (by kernel_rfl) ?yB48 ?rB48
                    case yB48 => (intro wz hz; go_simp; try with_reducible rfl)
                    (try simp only [Act.put, List.setIfInBounds_toArray, List.set_cons_zero, List.set_cons_succ])
                    refine PlanT.exec2 (fun K hK => ⟨by kernel_rfl, ?_⟩)
                    go_simp
                    refine hK.out _ _ ((Below.refl _ _).drew.drew.alloc (Nat.le_refl _) _) trivial ?_
                    clear hK K
                    (try simp only [Act.put, List.setIfInBounds_toArray, List.set_cons_zero, List.set_cons_succ])
                    refine PlanT.exec3 (fun K hK => ⟨by kernel_rfl, ?_⟩)
                    refine wp_of_step rfl ?_
                    refine step_append_rd ?q0B4 (.tmp 68) (.tmp 77) 30 ?q3B4 w.heap.size 42 2 32 (.agg #[.string ⟨#[]⟩, .string ⟨#[]⟩]) Try.underlying30 info_pair rfl (by decide) xs (.slice (some ⟨wB.heap.size, 0, none⟩) 1 1) (pairsV (rowsV p es (m + 1))).length 1 ((pairsV (rowsV p es (m + 1))).flatMap cellsP) ([(eu, ev)].flatMap cellsP) ?q1B4 ?q2B4 (World.ownsRow.drew (World.ownsRow.drew (World.ownsRow.alloc HOB.out _))) (Rd.below (one_pair wB (eu, ev)) (Below.refl _ _).drew.drew (Nat.le_refl _)) (pairFlat_one _) ?b1B4 ?b2B4 ?b3B4 ?_
                    case q0B4 => rfl
                    case q3B4 => rfl
                    case q1B4 => rfl
                    case q2B4 => rfl
                    case b1B4 => (have := hBB.size; simp [World.drew]; omega)
                    case b2B4 => (have := HPL.out; omega)
                    case b3B4 => (have := HPL.out; unfold maxLen; omega)
                    intro v' w' hown hBk
                    refine hK.out _ _ trivial ?_
                    clear hK K
                    (try simp only [Act.put, List.setIfInBounds_toArray, List.set_cons_zero, List.set_cons_succ])
                    refine PlanT.take1 (v := ?vB411) (by kernel_rfl) ?yB411 ?rB411
                    case yB411 => (intro wz hz; go_simp; try with_reducible rfl)
                    (try simp only [Act.put, List.setIfInBounds_toArray, List.set_cons_zero, List.set_cons_succ])
                    refine PlanT.done (NoPanic.normal ?_)
                    go_wp2
                    refine ⟨⟨m + 1 + 1, _, by omega, rfl, by go_num, congrArg Value.bool HZ.out.1.symm, Lib.hid ?_, Lib.hid (hBk _ _ (Nat.le_refl _) (hBB.alloc hBB.size _).drew.drew)⟩, by simp [intOf]; omega⟩
                    rw [HZ.out.2, if_pos rfl]
                    unfold OwnP
                    rw [List.length_append, List.flatMap_append]
                    exact hown
                  · go_wp2
                    exact ⟨⟨m + 1 + 1, _, by omega, rfl, by go_num, congrArg Value.bool HZ.out.1.symm, Lib.hid (by rw [HZ.out.2, if_neg hek, List.append_nil]; exact (HO.out.below hBx.drew)), Lib.hid hBB.drew⟩, by simp [intOf]; omega⟩
                · have hz1 := full_list hz0
                  by_cases hh0 : cmpL eu.data.toList hi.data.toList < 0
                  · have hh1 := less_yes hh0
                    have HZ := Lib.hid (HTK.out HSV.out (HPE.out.trans (inV_yes hs hl0 (.inr hh0))))
                    by_cases hek : ek = 1
                    · subst hek
                      have HOB := Lib.hid (HO.out.below hBx)
                      go_upto_region 12 with (fail)
                      refine wp_region_two (fun wz => Below wB.heap.size wB wz) (fun _ => True) [(0, 0), (0, 1), (0, 2), (0, 3), (0, 4), (0, 5), (0, 6), (0, 7), (0, 8), (2, 9), (3, 10), (1, 11)] [10] (by kernel_rfl) (by kernel_rfl) (by kernel_rfl) (by kernel_rfl) (by kernel_rfl) (Below.refl _ _).drew.drew trivial ?_
                      simp only [planT, List.drop_succ_cons, List.drop_zero]
                      refine PlanT.take0 (v := ?vB60) (by kernel_rfl) ?yB60 ?rB60
                      case yB60 => (intro wz hz; go_simp; try with_reducible rfl)
                      (try simp only [Act.put, List.setIfInBounds_toArray, List.set_cons_zero, List.set_cons_succ])
                      refine PlanT.take0 (v := ?vB61) (by kernel_rfl) ?yB61 ?rB61
                      case yB61 => (intro wz hz; go_simp; try with_reducible rfl)
                      (try simp only [Act.put, List.setIfInBounds_toArray, List.set_cons_zero, List.set_cons_succ])
                      refine PlanT.take0 (v := ?vB62) (by kernel_rfl) ?yB62 ?rB62
                      case yB62 => (intro wz hz; have c0 := (hz.cell (p := ⟨wr.heap.size, 0, none⟩) hbk).trans e0; go_simp; try with_reducible rfl)
                      (try simp only [Act.put, List.setIfInBounds_toArray, List.set_cons_zero, List.set_cons_succ])
                      refine PlanT.take0 (v := ?vB63) (by kernel_rfl) ?yB63 ?rB63
                      case yB63 => (intro wz hz; go_simp; try with_reducible rfl)
                      (try simp only [Act.put, List.setIfInBounds_toArray, List.set_cons_zero, List.set_cons_succ])
                      refine PlanT.take0 (v := ?vB64) (by kernel_rfl) ?yB64 ?rB64
                      case yB64 => (intro wz hz; go_simp; try with_reducible rfl)
                      (try simp only [Act.put, List.setIfInBounds_toArray, List.set_cons_zero, List.set_cons_succ])
                      refine PlanT.take0 (v := ?vB65) (by kernel_rfl) ?yB65 ?rB65
                      case yB65 => (intro wz hz; go_simp; try with_reducible rfl)
                      (try simp only [Act.put, List.setIfInBounds_toArray, List.set_cons_zero, List.set_cons_succ])
                      refine PlanT.take0 (v := ?vB66) (by kernel_rfl) ?yB66 ?rB66
                      case yB66 => (intro wz hz; go_simp; try with_reducible rfl)
                      (try simp only [Act.put, List.setIfInBounds_toArray, List.set_cons_zero, List.set_cons_succ])
                      refine PlanT.take0 (v := ?vB67) (by kernel_rfl) ?yB67 ?rB67
                      case yB67 => (intro wz hz; have c1 := (hz.cell (p := ⟨b, off + (m + 1) * 4 + 3, none⟩) hbw2).trans d3B; go_simp; try with_reducible rfl)
                      (try simp only [Act.put, List.setIfInBounds_toArray, List.set_cons_zero, List.set_cons_succ])
                      refine PlanT.take0 (v := ?vB68) (by kernel_rfl) ?yB68 ?rB68
                      case yB68 => (intro wz hz; go_simp; try with_reducible rfl)
                      (try simp only [Act.put, List.setIfInBounds_toArray, List.set_cons_zero, List.set_cons_succ])
                      refine PlanT.exec2 (fun K hK => ⟨by kernel_rfl, ?_⟩)
                      go_simp
                      refine hK.out _ _ ((Below.refl _ _).drew.drew.alloc (Nat.le_refl _) _) trivial ?_
                      clear hK K
                      (try simp only [Act.put, List.setIfInBounds_toArray, List.set_cons_zero, List.set_cons_succ])
                      refine PlanT.exec3 (fun K hK => ⟨by kernel_rfl, ?_⟩)
                      refine wp_of_step rfl ?_
                      refine step_append_rd ?q0B6 (.tmp 68) (.tmp 77) 30 ?q3B6 w.heap.size 42 2 32 (.agg #[.string ⟨#[]⟩, .string ⟨#[]⟩]) Try.underlying30 info_pair rfl (by decide) xs (.slice (some ⟨wB.heap.size, 0, none⟩) 1 1) (pairsV (rowsV p es (m + 1))).length 1 ((pairsV (rowsV p es (m + 1))).flatMap cellsP) ([(eu, ev)].flatMap cellsP) ?q1B6 ?q2B6 (World.ownsRow.drew (World.ownsRow.drew (World.ownsRow.alloc HOB.out _))) (Rd.below (one_pair wB (eu, ev)) (Below.refl _ _).drew.drew (Nat.le_refl _)) (pairFlat_one _) ?b1B6 ?b2B6 ?b3B6 ?_
                      case q0B6 => rfl
                      case q3B6 => rfl
                      case q1B6 => rfl
                      case q2B6 => rfl
                      case b1B6 => (have := hBB.size; simp [World.drew]; omega)
                      case b2B6 => (have := HPL.out; omega)
                      case b3B6 => (have := HPL.out; unfold maxLen; omega)
                      intro v' w' hown hBk
                      refine hK.out _ _ trivial ?_
                      clear hK K
                      (try simp only [Act.put, List.setIfInBounds_toArray, List.set_cons_zero, List.set_cons_succ])
                      refine PlanT.take1 (v := ?vB611) (by kernel_rfl) ?yB611 ?rB611
                      case yB611 => (intro wz hz; go_simp; try with_reducible rfl)
                      (try simp only [Act.put, List.setIfInBounds_toArray, List.set_cons_zero, List.set_cons_succ])
                      refine PlanT.done (NoPanic.normal ?_)
                      go_wp2
                      refine ⟨⟨m + 1 + 1, _, by omega, rfl, by go_num, congrArg Value.bool HZ.out.1.symm, Lib.hid ?_, Lib.hid (hBk _ _ (Nat.le_refl _) (hBB.alloc hBB.size _).drew.drew)⟩, by simp [intOf]; omega⟩
                      rw [HZ.out.2, if_pos rfl]
                      unfold OwnP
                      rw [List.length_append, List.flatMap_append]
                      exact hown
                    · go_wp2
                      exact ⟨⟨m + 1 + 1, _, by omega, rfl, by go_num, congrArg Value.bool HZ.out.1.symm, Lib.hid (by rw [HZ.out.2, if_neg hek, List.append_nil]; exact (HO.out.below hBx.drew)), Lib.hid hBB.drew⟩, by simp [intOf]; omega⟩
                  · have hh1 := less_no hh0
                    have HZ := Lib.hid (HSK.out (.inr (HPE.out.trans (inV_no3 (full_size hz0) hh0))))
                    go_wp2
                    go_roundw
                    case rel => exact ⟨m + 1 + 1, _, by omega, rfl, by go_num, congrArg Value.bool (HZ.out.1.trans HSV.out).symm, Lib.hid (by rw [HZ.out.2]; exact (HO.out.below hBx.drew)), Lib.hid hBB.drew⟩
                    case measure => simp [intOf]; omega
        · have HSV := Lib.hid (show seenV p es (m + 1) eu = false by have := HSM.out; rwa [if_neg hue] at this)
          refine wp_region_plan [(true, 0), (true, 1), (true, 2), (true, 3), (true, 4), (true, 5), (true, 6), (true, 7), (true, 8), (true, 9), (true, 10), (true, 11), (true, 12), (true, 13)] (by kernel_rfl) (by kernel_rfl) (by kernel_rfl) (by kernel_rfl) (by kernel_rfl) ?_
          simp only [planO, List.drop_succ_cons, List.drop_zero]
          refine PlanO.take (v := ?vC0) (by kernel_rfl) ?yC0 ?rC0
          case yC0 => (intro wz hz; go_simp; try with_reducible rfl)
          (try simp only [Act.put, List.setIfInBounds_toArray, List.set_cons_zero, List.set_cons_succ])
          refine PlanO.take (v := .bool false) (by kernel_rfl) ?yC1 ?rC1
          case yC1 => (intro wz hz; go_simp; (try simp); (try omega))
          (try simp only [Act.put, List.setIfInBounds_toArray, List.set_cons_zero, List.set_cons_succ])
          refine PlanO.take (v := .bool false) (by kernel_rfl) ?yC2 ?rC2
          case yC2 => (intro wz hz; go_simp; try with_reducible rfl)
          (try simp only [Act.put, List.setIfInBounds_toArray, List.set_cons_zero, List.set_cons_succ])
          refine PlanO.take (v := ?vC3) (by kernel_rfl) ?yC3 ?rC3
          case yC3 => (intro wz hz; go_simp; try with_reducible rfl)
          (try simp only [Act.put, List.setIfInBounds_toArray, List.set_cons_zero, List.set_cons_succ])
          refine PlanO.take (v := ?vC4) (by kernel_rfl) ?yC4 ?rC4
          case yC4 => (intro wz hz; go_simp; try with_reducible rfl)
          (try simp only [Act.put, List.setIfInBounds_toArray, List.set_cons_zero, List.set_cons_succ])
          refine PlanO.take (v := ?vC5) (by kernel_rfl) ?yC5 ?rC5
          case yC5 => (intro wz hz; go_simp; try with_reducible rfl)
          (try simp only [Act.put, List.setIfInBounds_toArray, List.set_cons_zero, List.set_cons_succ])
          refine PlanO.take (v := ?vC6) (by kernel_rfl) ?yC6 ?rC6
          case yC6 => (intro wz hz; go_simp; try with_reducible rfl)
          (try simp only [Act.put, List.setIfInBounds_toArray, List.set_cons_zero, List.set_cons_succ])
          refine PlanO.take (v := ?vC7) (by kernel_rfl) ?yC7 ?rC7
          case yC7 => (intro wz hz; go_simp; try with_reducible rfl)
          (try simp only [Act.put, List.setIfInBounds_toArray, List.set_cons_zero, List.set_cons_succ])
          refine PlanO.take (v := ?vC8) (by kernel_rfl) ?yC8 ?rC8
          case yC8 => (intro wz hz; go_simp; try with_reducible rfl)
          (try simp only [Act.put, List.setIfInBounds_toArray, List.set_cons_zero, List.set_cons_succ])
          refine PlanO.take (v := .string mu) (by kernel_rfl) ?yC9 ?rC9
          case yC9 => (intro wz hz; have c0 := Ext.at_ hz q0'; go_simp; try with_reducible rfl)
          (try simp only [Act.put, List.setIfInBounds_toArray, List.set_cons_zero, List.set_cons_succ])
          refine PlanO.take (v := ?vC10) (by kernel_rfl) ?yC10 ?rC10
          case yC10 => (intro wz hz; go_simp; try with_reducible rfl)
          (try simp only [Act.put, List.setIfInBounds_toArray, List.set_cons_zero, List.set_cons_succ])
          refine PlanO.take (v := .string eu) (by kernel_rfl) ?yC11 ?rC11
          case yC11 => (intro wz hz; have c1 := Ext.at_ hz e0; go_simp; try with_reducible rfl)
          (try simp only [Act.put, List.setIfInBounds_toArray, List.set_cons_zero, List.set_cons_succ])
          refine PlanO.take (v := .bool true) (by kernel_rfl) ?yC12 ?rC12
          case yC12 => (intro wz hz; go_simp; (try simp); (try (rw [toList_data, toList_data]; exact fun e => hue (ByteArray.ext (Array.toList_inj.1 e)))))
          (try simp only [Act.put, List.setIfInBounds_toArray, List.set_cons_zero, List.set_cons_succ])
          refine PlanO.take (v := .bool true) (by kernel_rfl) ?yC13 ?rC13
          case yC13 => (intro wz hz; go_simp; try with_reducible rfl)
          (try simp only [Act.put, List.setIfInBounds_toArray, List.set_cons_zero, List.set_cons_succ])
          refine PlanO.done (NoPanic.normal ?_)
          go_upto_region 9 with (fail)
          have e0d : wB.drew.cell? ⟨wr.heap.size, 0, none⟩ = some (.string eu) := e0
          have e1d : wB.drew.cell? ⟨wr.heap.size, 1, none⟩ = some (.int .i64 es') := e1
          by_cases hs : seq < es'
          · have HZ := Lib.hid (HSK.out (.inr (HPE.out.trans (inV_no1 hs))))
            go_wp2
            go_roundw
            case rel => exact ⟨m + 1 + 1, _, by omega, rfl, by go_num, congrArg Value.bool (HZ.out.1.trans HSV.out).symm, Lib.hid (by rw [HZ.out.2]; exact (HO.out.below hBx.drew)), Lib.hid hBB.drew⟩
            case measure => simp [intOf]; omega
          · by_cases hl0 : cmpL eu.data.toList lo.data.toList < 0
            · have hl1 := less_yes hl0
              have HZ := Lib.hid (HSK.out (.inr (HPE.out.trans (inV_no2 hl0))))
              go_wp2
              go_roundw
              case rel => exact ⟨m + 1 + 1, _, by omega, rfl, by go_num, congrArg Value.bool (HZ.out.1.trans HSV.out).symm, Lib.hid (by rw [HZ.out.2]; exact (HO.out.below hBx.drew)), Lib.hid hBB.drew⟩
              case measure => simp [intOf]; omega
            · have hl1 := less_no hl0
              by_cases hz0 : hi = ⟨#[]⟩
              · subst hz0
                have HZ := Lib.hid (HTK.out HSV.out (HPE.out.trans (inV_yes hs hl0 (.inl rfl))))
                by_cases hek : ek = 1
                · subst hek
                  have HOB := Lib.hid (HO.out.below hBx)
                  go_upto_region 12 with (fail)
                  refine wp_region_two (fun wz => Below wB.heap.size wB wz) (fun _ => True) [(0, 0), (0, 1), (0, 2), (0, 3), (0, 4), (0, 5), (0, 6), (0, 7), (0, 8), (2, 9), (3, 10), (1, 11)] [10] (by kernel_rfl) (by kernel_rfl) (by kernel_rfl) (by kernel_rfl) (by kernel_rfl) (Below.refl _ _).drew.drew trivial ?_
                  simp only [planT, List.drop_succ_cons, List.drop_zero]
                  refine PlanT.take0 (v := ?vC40) (by kernel_rfl) ?yC40 ?rC40
                  case yC40 => (intro wz hz; go_simp; try with_reducible rfl)
                  (try simp only [Act.put, List.setIfInBounds_toArray, List.set_cons_zero, List.set_cons_succ])
                  refine PlanT.take0 (v := ?vC41) (by kernel_rfl) ?yC41 ?rC41
                  case yC41 => (intro wz hz; go_simp; try with_reducible rfl)
                  (try simp only [Act.put, List.setIfInBounds_toArray, List.set_cons_zero, List.set_cons_succ])
                  refine PlanT.take0 (v := ?vC42) (by kernel_rfl) ?yC42 ?rC42
                  case yC42 => (intro wz hz; have c0 := (hz.cell (p := ⟨wr.heap.size, 0, none⟩) hbk).trans e0; go_simp; try with_reducible rfl)
                  (try simp only [Act.put, List.setIfInBounds_toArray, List.set_cons_zero, List.set_cons_succ])
                  refine PlanT.take0 (v := ?vC43) (by kernel_rfl) ?yC43 ?rC43
                  case yC43 => (intro wz hz; go_simp; try with_reducible rfl)
                  (try simp only [Act.put, List.setIfInBounds_toArray, List.set_cons_zero, List.set_cons_succ])
                  refine PlanT.take0 (v := ?vC44) (by kernel_rfl) ?yC44 ?rC44
                  case yC44 => (intro wz hz; go_simp; try with_reducible rfl)
                  (try simp only [Act.put, List.setIfInBounds_toArray, List.set_cons_zero, List.set_cons_succ])
                  refine PlanT.take0 (v := ?vC45) (by kernel_rfl) ?yC45 ?rC45
                  case yC45 => (intro wz hz; go_simp; try with_reducible rfl)
                  (try simp only [Act.put, List.setIfInBounds_toArray, List.set_cons_zero, List.set_cons_succ])
                  refine PlanT.take0 (v := ?vC46) (by kernel_rfl) ?yC46 ?rC46
                  case yC46 => (intro wz hz; go_simp; try with_reducible rfl)
                  (try simp only [Act.put, List.setIfInBounds_toArray, List.set_cons_zero, List.set_cons_succ])
                  refine PlanT.take0 (v := ?vC47) (by kernel_rfl) ?yC47 ?rC47
                  case yC47 => (intro wz hz; have c1 := (hz.cell (p := ⟨b, off + (m + 1) * 4 + 3, none⟩) hbw2).trans d3B; go_simp; try with_reducible rfl)
                  (try simp only [Act.put, List.setIfInBounds_toArray, List.set_cons_zero, List.set_cons_succ])
                  refine PlanT.take0 (v := ?vC48) (by kernel_rfl) ?yC48 ?rC48
                  case yC48 => (intro wz hz; go_simp; try with_reducible rfl)
                  (try simp only [Act.put, List.setIfInBounds_toArray, List.set_cons_zero, List.set_cons_succ])
                  refine PlanT.exec2 (fun K hK => ⟨by kernel_rfl, ?_⟩)
                  go_simp
                  refine hK.out _ _ ((Below.refl _ _).drew.drew.alloc (Nat.le_refl _) _) trivial ?_
                  clear hK K
                  (try simp only [Act.put, List.setIfInBounds_toArray, List.set_cons_zero, List.set_cons_succ])
                  refine PlanT.exec3 (fun K hK => ⟨by kernel_rfl, ?_⟩)
                  refine wp_of_step rfl ?_
                  refine step_append_rd ?q0C4 (.tmp 68) (.tmp 77) 30 ?q3C4 w.heap.size 42 2 32 (.agg #[.string ⟨#[]⟩, .string ⟨#[]⟩]) Try.underlying30 info_pair rfl (by decide) xs (.slice (some ⟨wB.heap.size, 0, none⟩) 1 1) (pairsV (rowsV p es (m + 1))).length 1 ((pairsV (rowsV p es (m + 1))).flatMap cellsP) ([(eu, ev)].flatMap cellsP) ?q1C4 ?q2C4 (World.ownsRow.drew (World.ownsRow.drew (World.ownsRow.alloc HOB.out _))) (Rd.below (one_pair wB (eu, ev)) (Below.refl _ _).drew.drew (Nat.le_refl _)) (pairFlat_one _) ?b1C4 ?b2C4 ?b3C4 ?_
                  case q0C4 => rfl
                  case q3C4 => rfl
                  case q1C4 => rfl
                  case q2C4 => rfl
                  case b1C4 => (have := hBB.size; simp [World.drew]; omega)
                  case b2C4 => (have := HPL.out; omega)
                  case b3C4 => (have := HPL.out; unfold maxLen; omega)
                  intro v' w' hown hBk
                  refine hK.out _ _ trivial ?_
                  clear hK K
                  (try simp only [Act.put, List.setIfInBounds_toArray, List.set_cons_zero, List.set_cons_succ])
                  refine PlanT.take1 (v := ?vC411) (by kernel_rfl) ?yC411 ?rC411
                  case yC411 => (intro wz hz; go_simp; try with_reducible rfl)
                  (try simp only [Act.put, List.setIfInBounds_toArray, List.set_cons_zero, List.set_cons_succ])
                  refine PlanT.done (NoPanic.normal ?_)
                  go_wp2
                  refine ⟨⟨m + 1 + 1, _, by omega, rfl, by go_num, congrArg Value.bool HZ.out.1.symm, Lib.hid ?_, Lib.hid (hBk _ _ (Nat.le_refl _) (hBB.alloc hBB.size _).drew.drew)⟩, by simp [intOf]; omega⟩
                  rw [HZ.out.2, if_pos rfl]
                  unfold OwnP
                  rw [List.length_append, List.flatMap_append]
                  exact hown
                · go_wp2
                  exact ⟨⟨m + 1 + 1, _, by omega, rfl, by go_num, congrArg Value.bool HZ.out.1.symm, Lib.hid (by rw [HZ.out.2, if_neg hek, List.append_nil]; exact (HO.out.below hBx.drew)), Lib.hid hBB.drew⟩, by simp [intOf]; omega⟩
              · have hz1 := full_list hz0
                by_cases hh0 : cmpL eu.data.toList hi.data.toList < 0
                · have hh1 := less_yes hh0
                  have HZ := Lib.hid (HTK.out HSV.out (HPE.out.trans (inV_yes hs hl0 (.inr hh0))))
                  by_cases hek : ek = 1
                  · subst hek
                    have HOB := Lib.hid (HO.out.below hBx)
                    go_upto_region 12 with (fail)
                    refine wp_region_two (fun wz => Below wB.heap.size wB wz) (fun _ => True) [(0, 0), (0, 1), (0, 2), (0, 3), (0, 4), (0, 5), (0, 6), (0, 7), (0, 8), (2, 9), (3, 10), (1, 11)] [10] (by kernel_rfl) (by kernel_rfl) (by kernel_rfl) (by kernel_rfl) (by kernel_rfl) (Below.refl _ _).drew.drew trivial ?_
                    simp only [planT, List.drop_succ_cons, List.drop_zero]
                    refine PlanT.take0 (v := ?vC60) (by kernel_rfl) ?yC60 ?rC60
                    case yC60 => (intro wz hz; go_simp; try with_reducible rfl)
                    (try simp only [Act.put, List.setIfInBounds_toArray, List.set_cons_zero, List.set_cons_succ])
                    refine PlanT.take0 (v := ?vC61) (by kernel_rfl) ?yC61 ?rC61
                    case yC61 => (intro wz hz; go_simp; try with_reducible rfl)
                    (try simp only [Act.put, List.setIfInBounds_toArray, List.set_cons_zero, List.set_cons_succ])
                    refine PlanT.take0 (v := ?vC62) (by kernel_rfl) ?yC62 ?rC62
                    case yC62 => (intro wz hz; have c0 := (hz.cell (p := ⟨wr.heap.size, 0, none⟩) hbk).trans e0; go_simp; try with_reducible rfl)
                    (try simp only [Act.put, List.setIfInBounds_toArray, List.set_cons_zero, List.set_cons_succ])
                    refine PlanT.take0 (v := ?vC63) (by kernel_rfl) ?yC63 ?rC63
                    case yC63 => (intro wz hz; go_simp; try with_reducible rfl)
                    (try simp only [Act.put, List.setIfInBounds_toArray, List.set_cons_zero, List.set_cons_succ])
                    refine PlanT.take0 (v := ?vC64) (by kernel_rfl) ?yC64 ?rC64
                    case yC64 => (intro wz hz; go_simp; try with_reducible rfl)
                    (try simp only [Act.put, List.setIfInBounds_toArray, List.set_cons_zero, List.set_cons_succ])
                    refine PlanT.take0 (v := ?vC65) (by kernel_rfl) ?yC65 ?rC65
                    case yC65 => (intro wz hz; go_simp; try with_reducible rfl)
                    (try simp only [Act.put, List.setIfInBounds_toArray, List.set_cons_zero, List.set_cons_succ])
                    refine PlanT.take0 (v := ?vC66) (by kernel_rfl) ?yC66 ?rC66
                    case yC66 => (intro wz hz; go_simp; try with_reducible rfl)
                    (try simp only [Act.put, List.setIfInBounds_toArray, List.set_cons_zero, List.set_cons_succ])
                    refine PlanT.take0 (v := ?vC67) (by kernel_rfl) ?yC67 ?rC67
                    case yC67 => (intro wz hz; have c1 := (hz.cell (p := ⟨b, off + (m + 1) * 4 + 3, none⟩) hbw2).trans d3B; go_simp; try with_reducible rfl)
                    (try simp only [Act.put, List.setIfInBounds_toArray, List.set_cons_zero, List.set_cons_succ])
                    refine PlanT.take0 (v := ?vC68) (by kernel_rfl) ?yC68 ?rC68
                    case yC68 => (intro wz hz; go_simp; try with_reducible rfl)
                    (try simp only [Act.put, List.setIfInBounds_toArray, List.set_cons_zero, List.set_cons_succ])
                    refine PlanT.exec2 (fun K hK => ⟨by kernel_rfl, ?_⟩)
                    go_simp
                    refine hK.out _ _ ((Below.refl _ _).drew.drew.alloc (Nat.le_refl _) _) trivial ?_
                    clear hK K
                    (try simp only [Act.put, List.setIfInBounds_toArray, List.set_cons_zero, List.set_cons_succ])
                    refine PlanT.exec3 (fun K hK => ⟨by kernel_rfl, ?_⟩)
                    refine wp_of_step rfl ?_
                    refine step_append_rd ?q0C6 (.tmp 68) (.tmp 77) 30 ?q3C6 w.heap.size 42 2 32 (.agg #[.string ⟨#[]⟩, .string ⟨#[]⟩]) Try.underlying30 info_pair rfl (by decide) xs (.slice (some ⟨wB.heap.size, 0, none⟩) 1 1) (pairsV (rowsV p es (m + 1))).length 1 ((pairsV (rowsV p es (m + 1))).flatMap cellsP) ([(eu, ev)].flatMap cellsP) ?q1C6 ?q2C6 (World.ownsRow.drew (World.ownsRow.drew (World.ownsRow.alloc HOB.out _))) (Rd.below (one_pair wB (eu, ev)) (Below.refl _ _).drew.drew (Nat.le_refl _)) (pairFlat_one _) ?b1C6 ?b2C6 ?b3C6 ?_
                    case q0C6 => rfl
                    case q3C6 => rfl
                    case q1C6 => rfl
                    case q2C6 => rfl
                    case b1C6 => (have := hBB.size; simp [World.drew]; omega)
                    case b2C6 => (have := HPL.out; omega)
                    case b3C6 => (have := HPL.out; unfold maxLen; omega)
                    intro v' w' hown hBk
                    refine hK.out _ _ trivial ?_
                    clear hK K
                    (try simp only [Act.put, List.setIfInBounds_toArray, List.set_cons_zero, List.set_cons_succ])
                    refine PlanT.take1 (v := ?vC611) (by kernel_rfl) ?yC611 ?rC611
                    case yC611 => (intro wz hz; go_simp; try with_reducible rfl)
                    (try simp only [Act.put, List.setIfInBounds_toArray, List.set_cons_zero, List.set_cons_succ])
                    refine PlanT.done (NoPanic.normal ?_)
                    go_wp2
                    refine ⟨⟨m + 1 + 1, _, by omega, rfl, by go_num, congrArg Value.bool HZ.out.1.symm, Lib.hid ?_, Lib.hid (hBk _ _ (Nat.le_refl _) (hBB.alloc hBB.size _).drew.drew)⟩, by simp [intOf]; omega⟩
                    rw [HZ.out.2, if_pos rfl]
                    unfold OwnP
                    rw [List.length_append, List.flatMap_append]
                    exact hown
                  · go_wp2
                    exact ⟨⟨m + 1 + 1, _, by omega, rfl, by go_num, congrArg Value.bool HZ.out.1.symm, Lib.hid (by rw [HZ.out.2, if_neg hek, List.append_nil]; exact (HO.out.below hBx.drew)), Lib.hid hBB.drew⟩, by simp [intOf]; omega⟩
                · have hh1 := less_no hh0
                  have HZ := Lib.hid (HSK.out (.inr (HPE.out.trans (inV_no3 (full_size hz0) hh0))))
                  go_wp2
                  go_roundw
                  case rel => exact ⟨m + 1 + 1, _, by omega, rfl, by go_num, congrArg Value.bool (HZ.out.1.trans HSV.out).symm, Lib.hid (by rw [HZ.out.2]; exact (HO.out.below hBx.drew)), Lib.hid hBB.drew⟩
                  case measure => simp [intOf]; omega
          
    · have hke : k = es.length := by omega
      have HOF := Lib.hid HO.out
      have HPL : Hid ((pairsV (rowsV p es k)).length ≤ 100000) := Lib.hid (by unfold pairsV; rw [List.length_map]; exact Nat.le_trans (List.length_filter_le _ _) (Nat.le_trans (rows_len _ _ _) (by omega)))
      have HSO : Hid (Calls Try.prog 28 #[xs, .bool back, .int .i64 most] wr fun e w' => ∃ x, e = .returned x ∧ OwnP w' wr.heap.size x (someV (pairsV (rowsV p es k)) back most) ∧ Below wr.heap.size wr w') := Lib.hid (by
        cases back with
        | false => exact rsome_false _ _ _ _ (World.ownsRow.mono HO.out (Nat.zero_le _)) HPL.out
        | true => exact rsome_true _ _ _ _ (World.ownsRow.mono HO.out (Nat.zero_le _)) HPL.out)
      have HSF : Hid (viewV es seq lo hi back most = someV (pairsV (rowsV p es k)) back most) := Lib.hid (by rw [HS.out, hke])
      clear hke hk
      go_wp2_with (go_at_call 28; (refine HSO.out.mono ?_); rintro e w9 ⟨x9, rfl, ho9, hb9⟩)
      go_ret
      exact ⟨_, rfl, by rw [HSF.out]; exact World.ownsRow.mono ho9 HB.out.size, HB.out.trans (hb9.mono HB.out.size)⟩
end Go.Proofs.Ytnmmeaoapfampaa
