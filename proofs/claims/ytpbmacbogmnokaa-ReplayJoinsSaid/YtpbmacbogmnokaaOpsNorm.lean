/-
  What batch.Norm does, for every list of operations.
-/
import Derived.Test.YtpbmacbogmnokaaOpsSeen
namespace Go.Proofs.Ytpbmacbogmnokaa
open Go.RowKit

theorem lasts_drop {l : List Ope} {j : Nat} (hj : j < l.length) : lastsL (l.drop j) = if (lastsL (l.drop (j + 1))).any (fun x => decide (x.key = (l.getD j Ope.none_).key)) then lastsL (l.drop (j + 1)) else lastsL (l.drop (j + 1)) ++ [l.getD j Ope.none_] := by
  rw [drop_op hj]
  rfl

theorem lasts_drop_len (l : List Ope) (j : Nat) : (lastsL (l.drop j)).length ≤ l.length := Nat.le_trans (lasts_len _) (by rw [List.length_drop]; omega)

theorem any_snoc (l : List Ope) (o : Ope) (q : List UInt8) : (l ++ [o]).any (fun x => decide (x.key = q)) = (l.any (fun x => decide (x.key = q)) || decide (o.key = q)) := by simp

/-- What the set of keys has to do with the operations. -/
def Seen (s : List (List UInt8 × Unit)) (l : List Ope) : Prop := s.length ≤ l.length ∧ ∀ q, (nfind s q).isSome = l.any (fun x => decide (x.key = q))

theorem Seen.more {s : List (List UInt8 × Unit)} {l : List Ope} (h : Seen s l) (o : Ope) : Seen (nwith s o.key ()) (l ++ [o]) := by
  refine ⟨?_, fun q => ?_⟩
  · have := nwith_len s o.key ()
    have := h.1
    simp
    omega
  · rw [any_snoc, nfind_nwith, ← h.2 q]
    by_cases hq : o.key = q
    · simp [hq]
    · simp [hq]

theorem pred_wrap {j : Nat} (h : j ≤ 1000000) : IntKind.i64.wrap ((j : Int) - 1) = (j : Int) - 1 := IntWalk.i64_in _ (by omega)

set_option maxRecDepth 100000 in
set_option maxHeartbeats 8000000 in
theorem bnorm_any (v : Value) (l : List Ope) (w : World) (hv : RdO w v l) (hn : l.length ≤ 100000) :
    Calls Try.prog 52 #[v] w (RetO w.heap.size w (normL l)) := by
  obtain ⟨a, cap, rfl, hc1, hc2⟩ := hv.form
  unfold maxLen at hc2
  have hmm := @run_makeMap Try.prog
  go_enter Try.func52, Try.ntmps52
  go_wp2
  go_step3
  go_wp2
  go_step3
  go_wp2
  go_loopw [4, 5] (fun u i wr => ∃ (j : Nat) (u' : Value) (s : List (List UInt8 × Unit)), j ≤ l.length ∧ u' = u ∧ i = .int .i64 ((j : Int) - 1) ∧ OwnO wr (w.heap.size + 1) 43 u' (lastsL (l.drop j)) ∧ Sm wr w.heap.size s ∧ Seen s (lastsL (l.drop j)) ∧ Below w.heap.size w wr ∧ w.heap.size + 1 ≤ wr.heap.size) (fun _ i _ => (intOf i + 1).toNat)
  case atStart => exact ⟨l.length, _, [], Nat.le_refl _, rfl, rfl, by rw [List.drop_length]; exact OwnO.nil _ _ _, World.ownsMap_made w _ _ _, by rw [List.drop_length]; exact ⟨Nat.le_refl _, fun q => rfl⟩, (Below.refl _ _).alloc (Nat.le_refl _) _, by simp⟩
  case round =>
    obtain ⟨j, u, s, hj, rfl, rfl, hu, hs, hse, hb, hz⟩ := hrel
    by_cases hlt : 0 < j
    · obtain ⟨i, rfl⟩ : ∃ i, j = i + 1 := ⟨j - 1, by omega⟩
      have hi : i < l.length := by omega
      have ei : (((i + 1 : Nat) : Int) - 1) = (i : Int) := by omega
      obtain ⟨b, off, rfl, hbw, hcells⟩ := hv.at_ (by intro h; subst h; simp at hi)
      obtain ⟨d0, d1, d2⟩ := hcells i hi
      have e0 := (hb.cell (p := ⟨b, off + i * 3, none⟩) hbw).trans d0
      have e1 := (hb.cell (p := ⟨b, off + i * 3 + 1, none⟩) hbw).trans d1
      have e2 := (hb.cell (p := ⟨b, off + i * 3 + 2, none⟩) hbw).trans d2
      have hld := lasts_drop hi
      have hll := lasts_drop_len l (i + 1)
      have hfit := opFits_at hv.2 i hi
      clear d0 d1 d2 hcells
      generalize l.getD i Ope.none_ = o at *
      generalize hL : lastsL (l.drop (i + 1)) = L at *
      have hlk := sm_look hs o.u hfit.2.1 (c := L.any (fun x => decide (x.key = o.key))) (hse.2 o.key)
      obtain ⟨ua, ucap, rfl, hu1, hu2⟩ := hu.form
      unfold maxLen at hu2
      have hfu := hfit.2.1
      have HFU := Lib.hid hfu
      have HU := Lib.hid hu
      have HB := Lib.hid hb
      have HV := Lib.hid hv
      have HS := Lib.hid hs
      have HSE := Lib.hid hse
      have HL := Lib.hid hL
      have HZ := Lib.hid hz
      have HW := Lib.hid (pred_wrap (j := i) (by omega))
      rw [ei]
      cases hany : L.any (fun x => decide (x.key = o.key)) with
      | true =>
        rw [hany] at hld hlk
        have HLD := Lib.hid (show lastsL (l.drop i) = L by rw [hld, if_pos rfl])
        clear hu hb hv hs hse hL hany hld hfit hfu hz
        go_wp2
        refine ⟨⟨i, _, s, by omega, rfl, rfl, ?_, ?_, ?_, HB.out.alloc HB.out.size _, by have := HZ.out; simp; omega⟩, ?_⟩
        · rw [HLD.out]
          exact World.ownsRow.alloc HU.out _
        · exact World.ownsMap.alloc HS.out _
        · rw [HLD.out]; exact HSE.out
        · simp [intOf]
      | false =>
        rw [hany] at hld hlk
        have HLD := Lib.hid (show lastsL (l.drop i) = L ++ [o] by rw [hld, if_neg (by simp)])
        have hbr : b < wr.heap.size := by have := hb.size; omega
        have hsl : s.length < maxLen := by have := hse.1; unfold maxLen; omega
        clear hu hb hv hs hse hL hany hld hfit hfu hz
        have hfacts : ∀ w3, (wr.alloc (.cells #[] 81)).grownBy w3 (some w.heap.size) → Kept (fun q => q < wr.heap.size ∧ q ≠ w.heap.size) wr w3 ∧ w3.cell? ⟨b, off + i * 3, none⟩ = some (.int .i64 o.k) ∧ w3.cell? ⟨b, off + i * 3 + 1, none⟩ = some (.string o.u) ∧ w3.cell? ⟨b, off + i * 3 + 2, none⟩ = some (.string o.v) ∧
            OwnO w3 (w.heap.size + 1) 43 (.slice ua L.length ucap) L ∧ wr.heap.size ≤ w3.heap.size ∧ Below w.heap.size w w3 := by
          intro w3 hg3
          have hk3 : Kept (fun q => q < wr.heap.size ∧ q ≠ w.heap.size) wr w3 := by
            refine ⟨hg3.os, hg3.tape, hg3.output, Nat.le_trans (by simp) hg3.size, fun q hq => ?_⟩
            rw [hg3.block q (by simp; omega) (fun e => by cases e; exact hq.2 rfl)]
            exact Below.heap_alloc _ _ q hq.1
          have hb3 : b < wr.heap.size ∧ b ≠ w.heap.size := ⟨hbr, by omega⟩
          refine ⟨hk3, (hk3.cell (p := ⟨b, off + i * 3, none⟩) hb3).trans e0, (hk3.cell (p := ⟨b, off + i * 3 + 1, none⟩) hb3).trans e1, (hk3.cell (p := ⟨b, off + i * 3 + 2, none⟩) hb3).trans e2, ?_, hk3.size, ?_⟩
          · exact own_kept HU.out hk3 fun q e => ⟨(World.ownsRow.lt HU.out q e).2, by have := (World.ownsRow.lt HU.out q e).1; omega⟩
          · exact Kept.below ((Kept.of HB.out (R := fun q => q < w.heap.size) fun _ h => h).trans (hk3.mono fun q hq => ⟨Nat.lt_of_lt_of_le hq HB.out.size, by omega⟩)) fun _ h => h
        have HF := Lib.hid hfacts
        clear hfacts
        go_wp2_with (first | (at_mapUpdate; refine wpList_plain rfl fun K' hK' => ?_; refine wp_sm_put (.tmp 27) (.tmp 32) (.tmp 33) 80 rfl w.heap.size s o.u rfl rfl rfl rfl HFU.out (World.ownsMap.alloc HS.out _) hsl (fun w3 hm3 hg3 hz3 => hK' _ _ ?_); obtain ⟨hk3, g0, g1, g2, hu3, hz4, hb4⟩ := HF.out w3 hg3; have HM3 := Lib.hid hm3; have HU3 := Lib.hid hu3; have HZ4 := Lib.hid hz4; have HB4 := Lib.hid hb4; clear hk3 hm3 hg3 hz3 hu3 hz4 hb4) | (at_builtin; refine wpList_append_rd rfl (.tmp 34) (.tmp 39) 22 rfl (w.heap.size + 1) 43 3 40 (.agg #[.int .i64 0, .string ⟨#[]⟩, .string ⟨#[]⟩]) Try.underlying22 info_op rfl (by decide) (.slice ua L.length ucap) _ L.length 1 (L.flatMap Ope.cells) ([o].flatMap Ope.cells) rfl rfl (World.ownsRow.alloc HU3.out _) ?rdA (opFlat_one _) ?bbA ?l1A ?l2A ?kkA))
        case rdA => (rw [opFlat_one_]; exact one_op _ o)
        case bbA => (have := HZ4.out; have := HZ.out; simp; omega)
        case l1A => omega
        case l2A => (unfold maxLen; omega)
        case kkA =>
          intro vA wA hown hBk
          have hz5 := HZ4.out
          have hz6 := HZ.out
          have hba := hBk w.heap.size w (by omega) (HB4.out.alloc HB4.out.size _)
          have hbb := hBk (w.heap.size + 1) w3 (Nat.le_refl _) (((Below.refl _ _).alloc (Nat.le_refl _) _).mono (by omega))
          have HO := Lib.hid (show OwnO wA (w.heap.size + 1) 43 vA (L ++ [o]) by unfold OwnO; rw [List.length_append, opFlat_app]; exact hown)
          have HBA := Lib.hid hba
          have HBB := Lib.hid hbb
          clear hown hBk hba hbb hz5 hz6
          go_wp2
          refine ⟨⟨i, vA, nwith s o.key (), by omega, rfl, rfl, ?_, ?_, ?_, HBA.out, ?_⟩, ?_⟩
          · rw [HLD.out]; exact HO.out
          · exact HM3.out.below HBB.out (by omega)
          · rw [HLD.out]; exact HSE.out.more o
          · have := HBB.out.size; have := HZ4.out; have := HZ.out; omega
          · simp [intOf]
    · obtain rfl : j = 0 := by omega
      rw [List.drop_zero] at hu
      have hll := lasts_len l
      rcases hu.kind with ⟨hq1, hq2⟩ | ⟨g, gcap, hgv, _, _, hg1, hg2⟩
      · subst hq1
        have hnil : normL l = [] := by
          cases hl : l with
          | nil => rfl
          | cons o r => exact absurd (hl ▸ hq2) (lasts_nonempty (by simp))
        have hcon := fun fv => AnyF.slices_SortFunc_none Try.sortO none 0 fv wr
        have HN := Lib.hid hnil
        have HB := Lib.hid hb
        clear hu hv hs hse hq2 hnil hb
        go_wp2_with (go_at_call 58; refine (hcon _).mono ?_; rintro e w' ⟨rfl, rfl⟩)
        rw [Exit.noGoto_ret]
        go_ret
        exact ⟨_, rfl, by rw [HN.out]; exact OwnO.nil _ _ _, HB.out⟩
      · subst hgv
        have hsort := sort_any wr (w.heap.size + 1) g gcap (lastsL l) hu hz (by omega)
        have HS := Lib.hid hsort
        have HB := Lib.hid hb
        clear hu hv hs hse hb hsort
        go_wp2_with (go_at_call 58; refine HS.out.mono ?_; rintro e w' ⟨rfl, m, hp, hsd, hown, hbw⟩)
        rw [Exit.noGoto_ret]
        go_ret
        have hm := sorted_norm hp hsd
        subst hm
        exact ⟨_, rfl, own_mono hown (Nat.le_succ _), HB.out.trans (hbw.mono (Nat.le_succ _))⟩
end Go.Proofs.Ytpbmacbogmnokaa
