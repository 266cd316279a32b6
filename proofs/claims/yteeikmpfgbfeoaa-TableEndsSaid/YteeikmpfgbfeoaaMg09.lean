import Derived.Test.YteeikmpfgbfeoaaMg07
import Derived.Test.YteeikmpfgbfeoaaMg08
import Derived.Test.YteeikmpfgbfeoaaMg05
import Derived.Test.YteeikmpfgbfeoaaBlkBox
import Derived.Test.YteeikmpfgbfeoaaRegion
import Derived.Deep.Cut

/-
  Tables: table.Put.
-/
namespace Go.Proofs.Yteeikmpfgbfeoaa
open Go.RowKit Go.Shelf
attribute [local go_sem] Oper.semAt_some

set_option maxRecDepth 100000 in
set_option maxHeartbeats 600000 in
/-- Entries that may be in no table. -/
theorem putt_no (v : Value) (es : List Ent) (per : Int) (b : Nat) (w : World) (hv : RdE w v es) (h : putTErr es per ≠ 0) :
    Calls Try.prog 13 #[v, .int .i64 per, .float .f64 b] w (RetPutT w es per b) := by
  have HV := Lib.hid hv
  have HRI := Lib.hid (rising_any v es w hv)
  obtain ⟨va, vc, rfl, hc1, hc2⟩ := hv.form
  unfold maxLen at hc2
  clear hv
  by_cases p1 : per < 1
  · have HE := Lib.hid (show putTErr es per = 1 by unfold putTErr; rw [if_pos (.inl p1)])
    have d1 : decide (per < 1) = true := by simpa using p1
    clear h
    go_enter Try.func13, Try.ntmps13
    go_wp2
    go_ret2
    exact RetPutT.no HE.out (by omega) (Below.refl _ _)
  · have d1 : decide (per < 1) = false := by simpa using p1
    by_cases p2 : 64 < per
    · have HE := Lib.hid (show putTErr es per = 1 by unfold putTErr; rw [if_pos (.inr (.inl p2))])
      have d2 : decide (64 < per) = true := by simpa using p2
      clear h
      go_enter Try.func13, Try.ntmps13
      go_wp2
      go_ret2
      exact RetPutT.no HE.out (by omega) (Below.refl _ _)
    · have d2 : decide (64 < per) = false := by simpa using p2
      by_cases hn : es = []
      · have HE := Lib.hid (show putTErr es per = 1 by unfold putTErr; rw [if_pos (.inr (.inr (.inr hn)))])
        have hlb : ((es.length : Int) == 0) = true := by rw [hn]; rfl
        clear hn h
        go_enter Try.func13, Try.ntmps13
        go_wp2
        go_ret2
        exact RetPutT.no HE.out (by omega) (Below.refl _ _)
      · have hlb : ((es.length : Int) == 0) = false := by
          have := List.length_pos_iff.2 hn
          have : (es.length : Int) ≠ 0 := by omega
          simpa using this
        cases hr : risingB es with
        | false =>
          have HE := Lib.hid (show putTErr es per = 1 by unfold putTErr; rw [if_pos (.inr (.inr (.inl hr)))])
          rw [hr] at HRI
          clear hr hn h
          go_enter Try.func13, Try.ntmps13
          go_wp2_with (go_at_call 21; (refine HRI.out.mono ?_); rintro e w1 ⟨rfl, hb1⟩)
          go_ret2
          exact RetPutT.no HE.out (by omega) hb1
        | true =>
          rw [hr] at HRI
          have hno : ¬ (per < 1 ∨ 64 < per ∨ risingB es = false ∨ es = []) := by
            rintro (h | h | h | h)
            · exact p1 h
            · exact p2 h
            · rw [hr] at h; cases h
            · exact hn h
          have h256 : 256 < es.length := by
            unfold putTErr at h
            rw [if_neg hno] at h
            split at h
            · assumption
            · exact absurd rfl h
          have HE := Lib.hid (show putTErr es per = 4 by unfold putTErr; rw [if_neg hno, if_pos h256])
          have d3 : decide ((256 : Int) < (es.length : Int)) = true := by simp; omega
          clear hn hr hno h
          go_enter Try.func13, Try.ntmps13
          go_wp2_with (go_at_call 21; (refine HRI.out.mono ?_); rintro e w1 ⟨rfl, hb1⟩)
          go_ret2
          exact RetPutT.no HE.out (by omega) hb1

theorem parts_ok {es : List Ent} {per : Nat} (hr : risingB es = true) (h1 : 1 ≤ per) (h2 : per ≤ 64) : ∀ p ∈ partsE es per (nBlk es per), putErr p = 0 := by
  intro p hp
  obtain ⟨i, hi, rfl⟩ := List.mem_map.1 hp
  exact part_err hr h1 h2 ((nBlk_lt h1 i).1 (List.mem_range.1 hi))

set_option maxRecDepth 100000 in
set_option maxHeartbeats 1000000 in
/-- Entries that may be in one. -/
theorem putt_yes (v : Value) (es : List Ent) (per : Nat) (b : Nat) (w : World) (hv : RdE w v es) (hm : MayT es) (h1 : 1 ≤ per) (h2 : per ≤ 64) (hb : (Lit.float .f64 b).wf = true) :
    Calls Try.prog 13 #[v, .int .i64 (per : Int), .float .f64 b] w fun e w' => ∃ x, e = .returned (.tuple #[x, .int .i64 0]) ∧ OwnB w' w.heap.size 5 x (tableL es per (makeL (hashes (usersL es)) b)) ∧ Below w.heap.size w w' := by
  have HV := Lib.hid hv
  obtain ⟨hr, hne, hl⟩ := hm
  have hri := rising_any v es w hv
  rw [hr] at hri
  have HRI := Lib.hid hri
  obtain ⟨va, vc, rfl, hc1, hc2⟩ := hv.form
  unfold maxLen at hc2
  have HR := Lib.hid hr
  have HNE := Lib.hid hne
  have HB := Lib.hid hb
  have hp := List.length_pos_iff.2 hne
  have d1 : decide ((per : Int) < 1) = false := by simp; omega
  have d1' : ¬ (per : Int) < 1 := by omega
  have d1'' : ¬ per = 0 := by omega
  have d2 : decide ((64 : Int) < (per : Int)) = false := by simp; omega
  have d2' : ¬ (64 : Int) < (per : Int) := by omega
  have d2'' : ¬ 64 < per := by omega
  have d3 : decide ((256 : Int) < (es.length : Int)) = false := by simp; omega
  have d3' : ¬ 256 < es.length := by omega
  have d3'' : ¬ (256 : Int) < (es.length : Int) := by omega
  have hlb : ((es.length : Int) == 0) = false := by
    have : (es.length : Int) ≠ 0 := by omega
    simpa using this
  have hlc : ¬ es.length = 0 := by omega
  clear hv hri hr hne hb
  refine (callsIn_wide (n := 5)).1 ?_
  refine callsIn_of_wp_marks Try.func13 rfl trivial ?_ rfl
  simp only [Try.ntmps13, List.size_toArray, List.length_cons, List.length_nil, Nat.reduceAdd, Nat.reduceSub, Array.replicate_succ, Array.replicate_zero, List.push_toArray, List.append_toArray, List.nil_append, List.cons_append]
  refine wpIn_wide.2 ?_
  go_wp2_with (first | (go_at_call 21; (refine HRI.out.mono ?_); rintro e w1 ⟨rfl, hb1⟩; have HB1 := Lib.hid hb1; clear hb1) | (go_at_call 22; (refine (chunk_any _ _ _ per h1 _).mono ?_); rintro e w2 ⟨rfl, rfl⟩))
  have HPB0 : Hid (∃ wl, wl = ((((w1.alloc (.cells #[.slice none 0 0] 22)).alloc (.cells #[.slice none 0 0] 60)).alloc (.cells #[.slice va es.length vc] 25)).alloc (.cells #[.int .i64 (per : Int)] 3)) ∧ wl.heap.size = w1.heap.size + 4 ∧
      PB (fun k => k = w1.heap.size + 1 + 1 ∨ k = w1.heap.size + 1 + 1 + 1) w w.heap.size w1.heap.size (w1.heap.size + 1) wl (.slice none 0 0) (.slice none 0 0) [] [] ∧ wl.cell? ⟨w1.heap.size + 1 + 1, 0, none⟩ = some (.slice va es.length vc) ∧ wl.cell? ⟨w1.heap.size + 1 + 1 + 1, 0, none⟩ = some (.int .i64 (per : Int))) := Lib.hid (by
    have hb4 : ∀ o1 o2 o3 o4 : Obj, Below w1.heap.size w1 ((((w1.alloc o1).alloc o2).alloc o3).alloc o4) := fun o1 o2 o3 o4 => ((((Below.refl _ w1).alloc (Nat.le_refl _) o1).alloc (by simp) o2).alloc (by simp; omega) o3).alloc (by simp; omega) o4
    have hs := HB1.out.size
    refine ⟨_, rfl, by simp, ⟨?_, ?_, OwnB.nil _ _ _, World.ownsRow_nil _ _ _ _, (fun _ h => by cases h), (fun _ h => by cases h), (fun _ h => by cases h), ?_, by omega, HB1.out.trans ((hb4 _ _ _ _).mono hs), ?_, hs, by omega⟩, ?_, ?_⟩
    · exact (Below.block (((Below.refl _ _).alloc (Nat.le_refl _) _ : Below _ _ _)) _ (by simp; omega)).trans ((Below.block ((Below.refl _ _).alloc (Nat.le_refl _) _) _ (by simp; omega)).trans ((Below.block ((Below.refl _ _).alloc (Nat.le_refl _) _) _ (by simp)).trans (heap_alloc_new w1 _)))
    · exact (Below.block (((Below.refl _ _).alloc (Nat.le_refl _) _ : Below _ _ _)) _ (by simp)).trans ((Below.block ((Below.refl _ _).alloc (Nat.le_refl _) _) _ (by simp)).trans (heap_new2 w1 _ _))
    · intro k hk
      rcases hk with rfl | rfl
      · simp; omega
      · simp; omega
    · simp; omega
    · have h := heap_new2 (w1.alloc (.cells #[.slice none 0 0] 22)) (.cells #[.slice none 0 0] 60) (.cells #[.slice va es.length vc] 25)
      rw [World.size_alloc] at h
      exact blk_cell (i := 0) ((Below.block ((Below.refl _ _).alloc (Nat.le_refl _) _) _ (by simp)).trans h)
    · have h := heap_new2 ((w1.alloc (.cells #[.slice none 0 0] 22)).alloc (.cells #[.slice none 0 0] 60)) (.cells #[.slice va es.length vc] 25) (.cells #[.int .i64 (per : Int)] 3)
      rw [World.size_alloc, World.size_alloc] at h
      exact blk_cell (i := 0) h)
  obtain ⟨wl, hwl, hsz, hPB0, k1, k2⟩ := HPB0.out
  clear HPB0
  rw [← hwl]
  clear hwl
  have HB1S := Lib.hid HB1.out.size
  clear HB1
  generalize w1.heap.size = A at *
  have HPB0 := Lib.hid hPB0
  have HSZ := Lib.hid hsz
  have HK12 := Lib.hid (And.intro k1 k2)
  have HUL := Lib.hid (usersN_len es es.length)
  clear hPB0 hsz k1 k2
  refine (wpIn_wide (n := 5)).1 ?_
  refine wpIn_rangeFunc_ownF (F := Fence.wide) rfl (by omega) (gf := 36) (lb := #[.pointer (some ⟨A + 1 + 1, 0, none⟩), .pointer (some ⟨A + 1 + 1 + 1, 0, none⟩)]) rfl trivial (enters_of Try.func36 (by kernel_rfl) rfl)
    (chunk_stops (w0 := w) (R := fun k => k = A + 1 + 1 ∨ k = A + 1 + 1 + 1) HV.out HR.out h1 h2 hl (.inl rfl) (.inr rfl) (by have := HSZ.out; omega) (by have := HSZ.out; omega) HK12.out.1 HK12.out.2) (fun h k => h.trans k) (fun W l o o' hl' _ _ _ => kept_putObj o' (by have := HSZ.out; rintro (h | h) <;> omega)) (Below.refl _ _) (fun _ => rfl)
    (fun pre W => ∃ vb vr, PB (fun k => k = A + 1 + 1 ∨ k = A + 1 + 1 + 1) w w.heap.size A (A + 1) W vb vr (tabQ (pre.map fun x : Chk w => x.1.2)) (rowsQ (pre.map fun x : Chk w => x.1.2)))
    (fun _ _ _ => False)
    (fun s W W' row ⟨vb, vr, h⟩ hg hr => ⟨vb, vr, h.turned hg fun r e => ⟨by have h1 := (hr r e).1; have h2 := HSZ.out; have h3 := HB1S.out; omega, (hr r e).2⟩⟩)
    (fun _ _ _ _ _ hs _ _ => hs)
    ⟨_, _, HPB0.out⟩
    (fun x => { tmps := #[.slice va es.length vc, .int .i64 (per : Int), .float .f64 b, undef, undef, undef, .slice none 0 0, .int .i64 0, .pointer (some ⟨A, 0, none⟩), .pointer (some ⟨A + 1, 0, none⟩), x.1.1, undef, undef, undef, undef, .bool false, .int .i64 (per : Int), .bool false, .int .i64 (per : Int), .bool false, .slice va es.length vc, .int .i64 (es.length : Int), .bool false, .slice va es.length vc, .bool true, .bool false, .bool false, .slice va es.length vc, .int .i64 (es.length : Int), .bool false, .slice va es.length vc, .int .i64 (per : Int), .func (.func 36) #[] #[.pointer (some ⟨A + 1 + 1, 0, none⟩), .pointer (some ⟨A + 1 + 1 + 1, 0, none⟩)], x.1.1, undef, undef, undef, undef, undef, undef, undef, undef, undef, undef, undef, undef, undef, undef, undef, undef, undef, undef, undef, undef, undef, undef, undef, undef, undef, undef, undef, undef, undef, undef, undef, undef, undef, undef, undef, undef, undef], defers := [] }) ?assign ?body ?done ?stop
  case assign =>
    intro l x W K hK
    gi_wp2
    exact hK
  case stop =>
    rintro D c pre W hD _ h _
    exact h.elim
  case body =>
    rintro l pre x W ⟨vb, vr, hPB⟩ hlt
    obtain ⟨L, hL⟩ : ∃ L, (pre.map fun x : Chk w => x.1.2) = L := ⟨_, rfl⟩
    have HLS := Lib.hid (show ((pre ++ [x]).map fun x : Chk w => x.1.2) = L ++ [x.1.2] by rw [List.map_append, hL]; rfl)
    rw [hL] at hPB
    have HLL : Hid (L.length ≤ 255) := Lib.hid (by
      have h3 := nBlk_le (es := es) h1 HNE.out
      rw [← hL, List.length_map]
      omega)
    have HOK : Hid (∀ p ∈ L, putErr p = 0) := Lib.hid (fun p hp => by
      rw [← hL] at hp
      obtain ⟨y, _, rfl⟩ := List.mem_map.1 hp
      exact y.2.2)
    clear hL hlt
    have HRL : Hid ((rowsQ L).length ≤ 256) := Lib.hid (by rw [rowsQ_len]; have := HLL.out; omega)
    have HTL : Hid ((tabQ L).length ≤ 25602048) := Lib.hid (by have := tabQ_len HOK.out; have := HLL.out; omega)
    have HBL := Lib.hid (blk_len x.2.2)
    obtain ⟨ba, bc, hba, _, _⟩ := hPB.own.read.form
    subst hba
    have HPB := Lib.hid hPB
    clear hPB
    have HBP : Hid (∀ wz, Below w.heap.size w wz → Calls Try.prog 23 #[x.1.1] wz fun e w' => ∃ y, e = .returned (.tuple #[y, .int .i64 0]) ∧ OwnB w' wz.heap.size 5 y (blockL x.1.2) ∧ Below wz.heap.size wz w') := Lib.hid fun wz hz => by
      refine (put_any12 x.1.1 x.1.2 wz (x.2.1.below hz (Nat.le_refl _))).mono ?_
      rintro e w' ⟨y, rfl, ho, hb⟩
      rw [x.2.2] at ho ⊢
      exact ⟨y, rfl, ho, hb⟩
    have HFP : Hid (∀ y wz, RdB wz y (blockL x.1.2) → Calls Try.prog 24 #[y] wz (RetB wz.heap.size wz (frRaw (blockL x.1.2)))) := Lib.hid fun y wz hy => by
      have h := fput_any wz y _ hy (by have := HBL.out.1; omega)
      unfold frL at h
      rw [if_pos (by have := HBL.out.1; omega)] at h
      exact h
    have HRO : Hid (∀ wz, Below w.heap.size w wz → Calls Try.prog 25 #[x.1.1, .int .i64 ((tabQ L).length : Int), .int .i64 ((frRaw (blockL x.1.2)).length : Int)] wz fun e w' => e = .returned (rwV (rowP x.1.2 (tabQ L).length)) ∧ Below wz.heap.size wz w') := Lib.hid fun wz hz => rowOf_any x.1.1 x.1.2 _ _ wz (x.2.1.below hz (Nat.le_refl _)) (putErr_ok x.2.2).2.1
    gi_wp2_with (first | (refine ⟨trivial, ?_⟩; gi_at_call 23; (refine (CallsIn.inRound l (callsIn_wide.2 (HBP.out _ HPB.out.be))).mono ?_); rintro e u1 ⟨y1, rfl, ho1, hb1⟩; have HPB1 := Lib.hid (HPB.out.call hb1); have HKT1 := Lib.hid (HPB.out.kcall hb1); have HKO1 := Lib.hid (keeps_below hb1); have HO1 := Lib.hid ho1.read; have HS1 := Lib.hid hb1.size; clear ho1 hb1) | (refine ⟨trivial, ?_⟩; gi_at_call 24; (refine (CallsIn.inRound l (callsIn_wide.2 (HFP.out _ _ HO1.out))).mono ?_); rintro e u2 ⟨y2, rfl, ho2, hb2⟩; (obtain ⟨ya, yc, hy2, _, _⟩ := ho2.read.form); subst hy2; have hd2 := (Below.refl u2.heap.size u2).drew; have HPB2 := Lib.hid ((HPB1.out.call hb2).call hd2); have HKT2 := Lib.hid ((HKT1.out.trans (HPB1.out.kcall hb2)).trans (Kept.of hd2 fun k hk => ((HPB1.out.call hb2).tk k hk).1)); have HKO2 := Lib.hid ((HKO1.out.trans (keeps_below hb2)).trans (keeps_below hd2)); have HO2 := Lib.hid (OwnB.below ho2 hd2 (Nat.le_refl _)); have HDQ : Hid (A + 1 < u1.heap.size) := Lib.hid (blk_lt HPB1.out.cr); have HDP : Hid (A < u1.heap.size) := Lib.hid (blk_lt HPB1.out.cb); have HDV : Hid (∀ j, vr.ownBlock = some j → j < u1.heap.size) := Lib.hid (own_lt HPB1.out.rows); clear ho2 hb2 hd2))
    refine wp_region_two_round (fun wz => wz.cell? ⟨A + 1, 0, none⟩ = some vr ∧ wz.cell? ⟨A, 0, none⟩ = some (.slice ba (tabQ L).length bc)) (fun _ => True) [(0, 0), (0, 1), (0, 2), (0, 3), (0, 4), (0, 5), (2, 6), (2, 7), (2, 8), (3, 9)] [9] (by kernel_rfl) (by rintro ⟨_, _, h⟩; exact h) (by kernel_rfl) (by kernel_rfl) (by kernel_rfl) (by kernel_rfl) (by kernel_rfl) ⟨HPB2.out.cellR, HPB2.out.cellB⟩ trivial ?_
    simp only [planT, List.drop_succ_cons, List.drop_zero]
    refine PlanT.take0 (v := ?vR0) (by kernel_rfl) ?yR0 ?rR0
    case yR0 => (intro wz hz; have z1 := hz.1; have z2 := hz.2; go_simp; try with_reducible rfl)
    (try simp only [Act.put, List.setIfInBounds_toArray, List.set_cons_zero, List.set_cons_succ])
    refine PlanT.take0 (v := ?vR1) (by kernel_rfl) ?yR1 ?rR1
    case yR1 => (intro wz hz; have z1 := hz.1; have z2 := hz.2; go_simp; try with_reducible rfl)
    (try simp only [Act.put, List.setIfInBounds_toArray, List.set_cons_zero, List.set_cons_succ])
    refine PlanT.take0 (v := ?vR2) (by kernel_rfl) ?yR2 ?rR2
    case yR2 => (intro wz hz; have z1 := hz.1; have z2 := hz.2; go_simp; try with_reducible rfl)
    (try simp only [Act.put, List.setIfInBounds_toArray, List.set_cons_zero, List.set_cons_succ])
    refine PlanT.take0 (v := ?vR3) (by kernel_rfl) ?yR3 ?rR3
    case yR3 => (intro wz hz; have z1 := hz.1; have z2 := hz.2; go_simp; try with_reducible rfl)
    (try simp only [Act.put, List.setIfInBounds_toArray, List.set_cons_zero, List.set_cons_succ])
    refine PlanT.take0 (v := ?vR4) (by kernel_rfl) ?yR4 ?rR4
    case yR4 => (intro wz hz; have z1 := hz.1; have z2 := hz.2; go_simp; try with_reducible rfl)
    (try simp only [Act.put, List.setIfInBounds_toArray, List.set_cons_zero, List.set_cons_succ])
    refine PlanT.take0 (v := ?vR5) (by kernel_rfl) ?yR5 ?rR5
    case yR5 => (intro wz hz; have z1 := hz.1; have z2 := hz.2; go_simp; try with_reducible rfl)
    (try simp only [Act.put, List.setIfInBounds_toArray, List.set_cons_zero, List.set_cons_succ])
    refine PlanT.exec2 (fun K hK => ⟨by kernel_rfl, ?_⟩)
    go_simp
    refine (HRO.out _ HPB2.out.be).mono ?_
    rintro e u3 ⟨rfl, hb3⟩
    have HPB3 := Lib.hid (HPB2.out.call hb3)
    have HKT3 := Lib.hid (HKT2.out.trans (HPB2.out.kcall hb3))
    have HKO3 := Lib.hid (HKO2.out.trans (keeps_below hb3))
    have HO3 := Lib.hid (HO2.out.below hb3 (Nat.le_refl _))
    clear hb3
    refine hK.out _ _ ⟨HPB3.out.cellR, HPB3.out.cellB⟩ trivial ?_
    clear hK K
    (try simp only [Act.put, List.setIfInBounds_toArray, List.set_cons_zero, List.set_cons_succ])
    refine PlanT.exec2 (fun K hK => ⟨by kernel_rfl, ?_⟩)
    go_simp
    have hba : Below u3.heap.size u3 (u3.alloc (.cells #[.string (lastE x.1.2).u, .int .i64 (lastE x.1.2).s, .int .i64 (lastE x.1.2).k, .int .i64 ((tabQ L).length : Int), .int .i64 ((frRaw (blockL x.1.2)).length : Int)] 67)) := (Below.refl _ _).alloc (Nat.le_refl _) _
    have HPB4 := Lib.hid (HPB3.out.call hba)
    have HKT4 := Lib.hid (HKT3.out.trans (HPB3.out.kcall hba))
    have HKO4 := Lib.hid (HKO3.out.trans (keeps_below hba))
    have HO4 := Lib.hid (HO3.out.below hba (Nat.le_refl _))
    clear hba
    refine hK.out _ _ ⟨HPB4.out.cellR, HPB4.out.cellB⟩ trivial ?_
    clear hK K
    (try simp only [Act.put, List.setIfInBounds_toArray, List.set_cons_zero, List.set_cons_succ])
    refine PlanT.exec2 (fun K hK => ⟨by kernel_rfl, ?_⟩)
    refine wp_append_at (.tmp 41) (.tmp 48) 60 rfl 67 5 48 (.agg #[.string ⟨#[]⟩, .int .i64 0, .int .i64 0, .int .i64 0, .int .i64 0]) Try.underlying60 info_rw rfl (by decide) _ _ _ 1 _ ([rowP x.1.2 (tabQ L).length].flatMap Rw.cells) rfl rfl HPB4.out.rows0 (one_rw u3 (rowP x.1.2 (tabQ L).length)) (rwFlat_one _) (by have := HRL.out; omega) (by have := HRL.out; unfold maxLen; omega) ?kR
    intro v1 w5 hown5 hmv5
    obtain ⟨hPB6, hk6, ho6, c6, f6, d6⟩ := HPB4.out.putR (m := [rowP x.1.2 (tabQ L).length]) hown5 hmv5
    have HO6 := Lib.hid (own_past (q := A + 1) (u := v1) HO4.out hmv5 HDV.out HDQ.out)
    obtain ⟨ra, rc, hra, _, _⟩ := hPB6.rows.form
    rw [List.length_append, List.length_singleton] at hra
    subst hra
    have HPB6 := Lib.hid hPB6
    have HKT6 := Lib.hid (HKT4.out.trans hk6)
    have HKO6 := Lib.hid (HKO4.out.trans ho6)
    have p6 := hPB6.cellB
    clear hPB6 hk6 ho6 hown5 hmv5
    refine hK.out _ _ ⟨c6, d6⟩ trivial ?_
    clear hK K
    (try simp only [Act.put, List.setIfInBounds_toArray, List.set_cons_zero, List.set_cons_succ])
    refine PlanT.exec3 (fun K hK => ⟨by kernel_rfl, ?_⟩)
    go_simp
    refine hK.out _ _ trivial ?_
    clear hK K
    (try simp only [Act.put, List.setIfInBounds_toArray, List.set_cons_zero, List.set_cons_succ])
    refine PlanT.done (NoPanic.normal ?_)
    gi_wp2_with (gi_at_builtin; refine wpListIn_plain rfl fun K' hK' => ?_; refine wp_in_round (fun c h => by cases h) ?_; refine wp_append_at (.tmp 50) (.tmp 51) 22 rfl 5 1 1 (.int .u8 0) Try.underlying22 info_u8 rfl (by decide) _ _ _ _ _ _ rfl rfl HPB6.out.own0 HO6.out.read (bv_oneCell _) (by have h1 := HTL.out; have h2 := HBL.out.2; omega) (by have h1 := HTL.out; have h2 := HBL.out.2; unfold maxLen; omega) (fun v2 w7 hown7 hmv7 => hK' _ _ ?_); obtain ⟨hPB8, hk8, ho8, c8, f8⟩ := HPB6.out.putB hown7 hmv7; (obtain ⟨ra2, rc2, hra2, _, _⟩ := hPB8.own.read.form); (rw [List.length_append] at hra2); subst hra2; have HPB8 := Lib.hid hPB8; have HKT8 := Lib.hid (HKT6.out.trans hk8); have HKO8 := Lib.hid (HKO6.out.trans ho8); clear hPB8 hk8 ho8 hown7 hmv7)
    have hF := HPB8.out
    rw [← tabQ_snoc, ← rowsQ_snoc, ← HLS.out] at hF
    exact ⟨HKO8.out, HKT8.out, _, _, hF⟩
  case done =>
    rintro D xs W hD hS ⟨vb, vr, hPB⟩ hK
    rw [hS] at hPB
    have HTAB := Lib.hid (fun f => table_parts es per f)
    have HOK := Lib.hid (parts_ok HR.out h1 h2)
    have HLL : Hid ((partsE es per (nBlk es per)).length ≤ 256) := Lib.hid (by have h3 := nBlk_le (es := es) h1 HNE.out; rw [partsE_len]; omega)
    generalize partsE es per (nBlk es per) = LL at *
    have HFL := Lib.hid (makeL_few (hashes (usersL es)) b (by unfold hashes; rw [List.length_map]; have := HUL.out; unfold usersL; omega))
    have HUS : Hid (∀ wz, Below w.heap.size w wz → Calls Try.prog 27 #[.slice va es.length vc] wz fun e w' => ∃ x, e = .returned x ∧ OwnS w' wz.heap.size x (usersL es) ∧ Below wz.heap.size wz w') := Lib.hid fun wz hz => users_any _ es wz (HV.out.below hz (Nat.le_refl _)) (by omega)
    have HUI := Lib.hid (show ∀ s ∈ usersL es, s.size ≤ maxLen from fun s hs => by
      obtain ⟨e, he, rfl⟩ := usersN_in es es.length (Nat.le_refl _) s hs
      exact (Ent.may_fits (rising_all HR.out e he)).1)
    have HMK : Hid (∀ x wz B, OwnS wz B x (usersL es) → Calls Try.prog 26 #[x, .float .f64 b] wz (RetB wz.heap.size wz (makeL (hashes (usersL es)) b))) := Lib.hid fun x wz B hx => make_any x (usersL es) b HB.out wz (rd_of_own hx) HUI.out (by have := HUL.out; unfold usersL; omega)
    generalize hFE : makeL (hashes (usersL es)) b = F at *
    have HFE := Lib.hid hFE
    clear hFE
    have HRL : Hid ((rowsQ LL).length ≤ 256) := Lib.hid (by rw [rowsQ_len]; have := HLL.out; omega)
    have HTL : Hid ((tabQ LL).length ≤ 25602048) := Lib.hid (by have := tabQ_len HOK.out; have := HLL.out; omega)
    have HFP : Hid (∀ y wz, RdB wz y F → Calls Try.prog 24 #[y] wz (RetB wz.heap.size wz (frRaw F))) := Lib.hid fun y wz hy => by
      have h := fput_any wz y _ hy (by have := HFL.out; omega)
      unfold frL at h
      rw [if_pos (by have := HFL.out; omega)] at h
      exact h
    have HPE : Hid (∀ v wz fa la, RdR wz v (rowsQ LL) → Calls Try.prog 28 #[v, .int .i64 fa, .int .i64 la, .int .i64 (es.length : Int)] wz (RetB wz.heap.size wz (endB (rowsQ LL) fa la (es.length : Int)))) := Lib.hid fun v wz fa la hv => putEnd_any v _ fa la _ wz hv (rowsQ_ok HOK.out HLL.out) HRL.out
    obtain ⟨ba, bc, hba, _, _⟩ := hPB.own.read.form
    subst hba
    have zb := hPB.cellB
    have HP0 := Lib.hid (hPB.call (Below.refl _ _).drew)
    have HKO0 := Lib.hid (KeepsOthers.drew W)
    have HEL := Lib.hid (Nat.le_refl 0)
    have HKD := Lib.hid hK
    have HDS := Lib.hid hD
    clear hPB hK hS hD
    go_wp2
    refine wp_region_two (fun wz => wz.cell? ⟨A, 0, none⟩ = some (.slice ba (tabQ LL).length bc)) (fun _ => True) [(0, 0), (0, 1), (0, 3), (2, 2), (2, 4), (2, 5), (2, 6), (3, 7)] [7] (by kernel_rfl) (by kernel_rfl) (by kernel_rfl) (by kernel_rfl) (by kernel_rfl) HP0.out.cellB trivial ?_
    simp only [planT, List.drop_succ_cons, List.drop_zero]
    refine PlanT.take0 (v := ?vS0) (by kernel_rfl) ?yS0 ?rS0
    case yS0 => (intro wz hz; have z1 := hz; go_simp; try with_reducible rfl)
    (try simp only [Act.put, List.setIfInBounds_toArray, List.set_cons_zero, List.set_cons_succ])
    refine PlanT.take0 (v := ?vS1) (by kernel_rfl) ?yS1 ?rS1
    case yS1 => (intro wz hz; have z1 := hz; go_simp; try with_reducible rfl)
    (try simp only [Act.put, List.setIfInBounds_toArray, List.set_cons_zero, List.set_cons_succ])
    refine PlanT.take0 (v := ?vS3) (by kernel_rfl) ?yS3 ?rS3
    case yS3 => (intro wz hz; have z1 := hz; go_simp; try with_reducible rfl)
    (try simp only [Act.put, List.setIfInBounds_toArray, List.set_cons_zero, List.set_cons_succ])
    refine PlanT.exec2 (fun K hK => ⟨by kernel_rfl, ?_⟩)
    go_simp
    refine (HUS.out _ HP0.out.be).mono ?_
    rintro e u1 ⟨x1, rfl, ho1, hb1⟩
    have HP1 := Lib.hid (HP0.out.call hb1)
    have HKO1 := Lib.hid (HKO0.out.trans (keeps_below hb1))
    have HO1 := Lib.hid ho1
    clear ho1 hb1
    refine hK.out _ _ HP1.out.cellB trivial ?_
    clear hK K
    (try simp only [Act.put, List.setIfInBounds_toArray, List.set_cons_zero, List.set_cons_succ])
    refine PlanT.exec2 (fun K hK => ⟨by kernel_rfl, ?_⟩)
    go_simp
    refine (HMK.out _ _ _ HO1.out).mono ?_
    rintro e u2 ⟨x2, rfl, ho2, hb2⟩
    have HP2 := Lib.hid (HP1.out.call hb2)
    have HKO2 := Lib.hid (HKO1.out.trans (keeps_below hb2))
    have HO2 := Lib.hid ho2
    clear ho2 hb2
    refine hK.out _ _ HP2.out.cellB trivial ?_
    clear hK K
    (try simp only [Act.put, List.setIfInBounds_toArray, List.set_cons_zero, List.set_cons_succ])
    refine PlanT.exec2 (fun K hK => ⟨by kernel_rfl, ?_⟩)
    go_simp
    refine (HFP.out _ _ HO2.out.read).mono ?_
    rintro e u3 ⟨x3, rfl, ho3, hb3⟩
    have HP3 := Lib.hid (HP2.out.call hb3)
    have HKO3 := Lib.hid (HKO2.out.trans (keeps_below hb3))
    have HO3 := Lib.hid ho3
    clear ho3 hb3
    refine hK.out _ _ HP3.out.cellB trivial ?_
    clear hK K
    (try simp only [Act.put, List.setIfInBounds_toArray, List.set_cons_zero, List.set_cons_succ])
    refine PlanT.exec2 (fun K hK => ⟨by kernel_rfl, ?_⟩)
    refine wp_append_at (.tmp 55) (.tmp 60) 22 rfl 5 1 1 (.int .u8 0) Try.underlying22 info_u8 rfl (by decide) _ _ _ _ _ _ rfl rfl HP3.out.own0 HO3.out.read (bv_oneCell _) (by have h1 := HTL.out; have h2 := HFL.out; have h3 := HEL.out; (try simp only [frRaw_length]); omega) (by have h1 := HTL.out; have h2 := HFL.out; have h3 := HEL.out; (try simp only [frRaw_length]); unfold maxLen; omega) ?kS
    intro v4 w4 hown4 hmv4
    obtain ⟨hPB8, hk8, ho8, c8, f8⟩ := HP3.out.putB hown4 hmv4
    obtain ⟨ra2, rc2, hra2, _, _⟩ := hPB8.own.read.form
    rw [List.length_append] at hra2
    subst hra2
    have HP5 := Lib.hid hPB8
    have HKO5 := Lib.hid (HKO3.out.trans ho8)
    have zb5 := hPB8.cellB
    have zr5 := hPB8.cellR
    clear hPB8 hk8 ho8 hown4 hmv4
    refine hK.out _ _ c8 trivial ?_
    clear hK K
    (try simp only [Act.put, List.setIfInBounds_toArray, List.set_cons_zero, List.set_cons_succ])
    refine PlanT.exec3 (fun K hK => ⟨by kernel_rfl, ?_⟩)
    go_simp
    refine hK.out _ _ trivial ?_
    clear hK K
    (try simp only [Act.put, List.setIfInBounds_toArray, List.set_cons_zero, List.set_cons_succ])
    refine PlanT.done (NoPanic.normal ?_)
    have HP6 := Lib.hid (HP5.out.call (Below.refl _ _).drew)
    have HKO6 := Lib.hid (HKO5.out.trans (KeepsOthers.drew _))
    clear HEL
    have HEL := Lib.hid (show ∀ fa la, (endB (rowsQ LL) fa la (es.length : Int)).length ≤ 25624 from fun fa la => by
      have h := endB_len (rowsQ_ok HOK.out HLL.out) fa la (es.length : Int)
      have := HRL.out
      omega)
    go_wp2
    refine wp_region_two (fun wz => wz.cell? ⟨A + 1, 0, none⟩ = some vr ∧ wz.cell? ⟨A, 0, none⟩ = some (.slice ra2 ((tabQ LL).length + (frRaw F).length) rc2)) (fun _ => True) [(0, 0), (0, 1), (0, 2), (0, 3), (0, 4), (0, 5), (0, 6), (2, 7), (3, 8), (1, 9), (1, 10)] [8] (by kernel_rfl) (by kernel_rfl) (by kernel_rfl) (by kernel_rfl) (by kernel_rfl) ⟨HP6.out.cellR, HP6.out.cellB⟩ trivial ?_
    simp only [planT, List.drop_succ_cons, List.drop_zero]
    refine PlanT.take0 (v := ?vU0) (by kernel_rfl) ?yU0 ?rU0
    case yU0 => (intro wz hz; have z1 := hz.1; have z2 := hz.2; go_simp; try with_reducible rfl)
    (try simp only [Act.put, List.setIfInBounds_toArray, List.set_cons_zero, List.set_cons_succ])
    refine PlanT.take0 (v := ?vU1) (by kernel_rfl) ?yU1 ?rU1
    case yU1 => (intro wz hz; have z1 := hz.1; have z2 := hz.2; go_simp; try with_reducible rfl)
    (try simp only [Act.put, List.setIfInBounds_toArray, List.set_cons_zero, List.set_cons_succ])
    refine PlanT.take0 (v := ?vU2) (by kernel_rfl) ?yU2 ?rU2
    case yU2 => (intro wz hz; have z1 := hz.1; have z2 := hz.2; go_simp; try with_reducible rfl)
    (try simp only [Act.put, List.setIfInBounds_toArray, List.set_cons_zero, List.set_cons_succ])
    refine PlanT.take0 (v := ?vU3) (by kernel_rfl) ?yU3 ?rU3
    case yU3 => (intro wz hz; have z1 := hz.1; have z2 := hz.2; go_simp; try with_reducible rfl)
    (try simp only [Act.put, List.setIfInBounds_toArray, List.set_cons_zero, List.set_cons_succ])
    refine PlanT.take0 (v := ?vU4) (by kernel_rfl) ?yU4 ?rU4
    case yU4 => (intro wz hz; have z1 := hz.1; have z2 := hz.2; go_simp; try with_reducible rfl)
    (try simp only [Act.put, List.setIfInBounds_toArray, List.set_cons_zero, List.set_cons_succ])
    refine PlanT.take0 (v := ?vU5) (by kernel_rfl) ?yU5 ?rU5
    case yU5 => (intro wz hz; have z1 := hz.1; have z2 := hz.2; go_simp; try with_reducible rfl)
    (try simp only [Act.put, List.setIfInBounds_toArray, List.set_cons_zero, List.set_cons_succ])
    refine PlanT.take0 (v := ?vU6) (by kernel_rfl) ?yU6 ?rU6
    case yU6 => (intro wz hz; have z1 := hz.1; have z2 := hz.2; go_simp; try with_reducible rfl)
    (try simp only [Act.put, List.setIfInBounds_toArray, List.set_cons_zero, List.set_cons_succ])
    refine PlanT.exec2 (fun K hK => ⟨by kernel_rfl, ?_⟩)
    go_simp
    refine (HPE.out _ _ _ _ HP6.out.rows.read).mono ?_
    rintro e u7 ⟨x7, rfl, ho7, hb7⟩
    have HP7 := Lib.hid (HP6.out.call hb7)
    have HKO7 := Lib.hid (HKO6.out.trans (keeps_below hb7))
    have HO7 := Lib.hid ho7
    clear ho7 hb7
    refine hK.out _ _ ⟨HP7.out.cellR, HP7.out.cellB⟩ trivial ?_
    clear hK K
    (try simp only [Act.put, List.setIfInBounds_toArray, List.set_cons_zero, List.set_cons_succ])
    refine PlanT.exec3 (fun K hK => ⟨by kernel_rfl, ?_⟩)
    refine wp_append_at (.tmp 62) (.tmp 69) 22 rfl 5 1 1 (.int .u8 0) Try.underlying22 info_u8 rfl (by decide) _ _ _ _ _ _ rfl rfl HP7.out.own0 HO7.out.read (bv_oneCell _) (by have h1 := HTL.out; have h2 := HFL.out; have h5 := frRaw_length F; have h3 := HEL.out ((tabQ LL).length : Int) (((tabQ LL).length : Int) + ((frRaw F).length : Int)); (try simp only [List.length_append]); omega) (by have h1 := HTL.out; have h2 := HFL.out; have h5 := frRaw_length F; have h3 := HEL.out ((tabQ LL).length : Int) (((tabQ LL).length : Int) + ((frRaw F).length : Int)); (try simp only [List.length_append]); unfold maxLen; omega) ?kU
    intro v8 w8 hown8 hmv8
    have HO8 := Lib.hid (own_moved HP7.out.own HP7.out.bl hown8 hmv8)
    have HB8 := Lib.hid (below_moved HP7.out.own HP7.out.bl HP7.out.be hmv8)
    have HKO8 := Lib.hid (HKO7.out.trans (keeps_moves HP7.out.own0 hmv8))
    clear hown8 hmv8
    refine hK.out _ _ trivial ?_
    clear hK K
    (try simp only [Act.put, List.setIfInBounds_toArray, List.set_cons_zero, List.set_cons_succ])
    refine PlanT.take1 (v := ?vU9) (by kernel_rfl) ?yU9 ?rU9
    case yU9 => (intro wz hz; go_simp; try with_reducible rfl)
    (try simp only [Act.put, List.setIfInBounds_toArray, List.set_cons_zero, List.set_cons_succ])
    refine PlanT.take1 (v := ?vU10) (by kernel_rfl) ?yU10 ?rU10
    case yU10 => (intro wz hz; go_simp; try with_reducible rfl)
    (try simp only [Act.put, List.setIfInBounds_toArray, List.set_cons_zero, List.set_cons_succ])
    refine PlanT.done (NoPanic.normal ?_)
    go_wp2
    have hKF := HKO8.out.same D _ HKD.out rfl
    refine ⟨by simp, .inl ⟨_, _, rfl, run_takeDeferred hKF, ?_⟩⟩
    refine ⟨_, results_tmp2 rfl _ _ _, v8, rfl, ?_, ?_⟩
    · have e : ((tabQ LL).length : Int) + ((frRaw F).length : Int) = (((tabQ LL).length + (F.length + 8) : Nat) : Int) := by rw [frRaw_length]; omega
      have h := HO8.out
      rw [e, List.append_assoc, ← HTAB.out F] at h
      rw [HFE.out]
      exact ownsRow_putObj h _ hKF rfl
    · exact HB8.out.trans (belowK_b (w := w) (Nat.le_refl _) w8 D _ _ (by have h1 := HDS.out; have h2 := HSZ.out; have h3 := HB1S.out; omega) hKF rfl rfl)

theorem puttab_any : PutTC := fun v es per b w hv _ _ hb => by
  by_cases h : putTErr es per = 0
  · obtain ⟨hm, h1, h2⟩ := putT_ok h
    obtain ⟨pn, rfl⟩ : ∃ pn : Nat, per = (pn : Int) := ⟨per.toNat, by omega⟩
    refine (putt_yes v es pn b w hv hm (by omega) (by omega) hb).mono ?_
    rintro e w' ⟨x, rfl, ho, hbe⟩
    exact ⟨x, by rw [h], by rw [if_pos h]; exact ho, hbe⟩
  · exact putt_no v es per b w hv h
end Go.Proofs.Yteeikmpfgbfeoaa

/-
  A table that is being read: a box with how many entries a block has, entries, rows, a filter; entries and rows in memory of the call's own.
-/
namespace Go.Proofs.Yteeikmpfgbfeoaa
open Go.RowKit

structure OB (W0 : World) (B q : Nat) (w : World) (per : Nat) (ve vr vf : Value) (es : List Ent) (rs : List Rw) : Prop where
  box : w.heap[q]? = some (.cells #[.int .i64 (per : Int), ve, vr, vf] 74 (0, 0))
  ents : OwnE w B ve es
  rows : OwnR w B vr rs
  ap : ∀ j, ve.ownBlock = some j → vr.ownBlock ≠ some j
  ea : ve.ownBlock ≠ some q
  ra : vr.ownBlock ≠ some q
  be : Below B W0 w
  bl : B ≤ w.heap.size
  hq : B ≤ q

/-- What lies beyond is not touched by an append and a store. -/
theorem row_past {w w1 : World} {D e sz n q i : Nat} {y vr v' u : Value} {cs : List Value} (h : w.ownsRow D e sz y n cs) (hm : Moves w w1 vr v') (hv : ∀ j, vr.ownBlock = some j → j < D) (hq : q < D) : (w1.setCell ⟨q, i, none⟩ u).ownsRow D e sz y n cs := by
  have k1 : Kept (fun k => D ≤ k ∧ k < w.heap.size) w w1 := hm.kept fun k hk => ⟨hk.2, fun e => by have := hv k e; omega⟩
  have k2 := k1.setCell (p := ⟨q, i, none⟩) (by show ¬ (D ≤ q ∧ q < w.heap.size); omega) u
  exact own_kept h k2 fun j hj => World.ownsRow.lt h j hj
theorem row_set {w : World} {D e sz n q i : Nat} {y u : Value} {cs : List Value} (h : w.ownsRow D e sz y n cs) (hq : q < D) : (w.setCell ⟨q, i, none⟩ u).ownsRow D e sz y n cs := row_past h (Moves.refl w (.slice none 0 0)) (fun _ h => by cases h) hq

section
variable {W0 : World} {B q per : Nat} {w w' w1 : World} {ve vr vf v' : Value} {es xs : List Ent} {rs m : List Rw}
theorem OB.cell (h : OB W0 B q w per ve vr vf es rs) (i : Nat) : w.cell? ⟨q, i, none⟩ = #[.int .i64 (per : Int), ve, vr, vf][i]? := blk_cell (i := i) h.box
theorem OB.free (h : OB W0 B q w per ve vr vf es rs) (i : Nat) : w.frozen? ⟨q, i, none⟩ = false := blk_free (i := i) h.box
theorem OB.ents0 (h : OB W0 B q w per ve vr vf es rs) : w.ownsRow 0 34 4 ve es.length (es.flatMap Ent.cells) := own_base h.ents fun _ _ => Nat.zero_le _
theorem OB.rows0 (h : OB W0 B q w per ve vr vf es rs) : w.ownsRow 0 67 5 vr rs.length (rs.flatMap Rw.cells) := own_base h.rows fun _ _ => Nat.zero_le _
theorem OB.call (h : OB W0 B q w per ve vr vf es rs) (hb : Below w.heap.size w w') : OB W0 B q w' per ve vr vf es rs where
  box := (hb.block q (blk_lt h.box)).trans h.box
  ents := OwnE.below h.ents hb
  rows := OwnR.below h.rows hb
  ap := h.ap
  ea := h.ea
  ra := h.ra
  be := h.be.trans (hb.mono h.bl)
  bl := Nat.le_trans h.bl hb.size
  hq := h.hq
/-- A store into the box. -/
theorem OB.store (h : OB W0 B q w per ve vr vf es rs) {i per' : Nat} {vf' u : Value} (hs : #[.int .i64 (per : Int), ve, vr, vf].setIfInBounds i u = #[.int .i64 (per' : Int), ve, vr, vf']) : OB W0 B q (w.setCell ⟨q, i, none⟩ u) per' ve vr vf' es rs where
  box := by rw [blk_set h.box, hs]
  ents := own_kept h.ents ((Kept.refl (fun k => k ≠ q) w).setCell (p := ⟨q, i, none⟩) (fun e => e rfl) u) fun k hk e => h.ea (by rw [← e]; exact hk)
  rows := own_kept h.rows ((Kept.refl (fun k => k ≠ q) w).setCell (p := ⟨q, i, none⟩) (fun e => e rfl) u) fun k hk e => h.ra (by rw [← e]; exact hk)
  ap := h.ap
  ea := h.ea
  ra := h.ra
  be := Kept.below ((Kept.of h.be (R := fun k => k < B) fun _ h => h).setCell (p := ⟨q, i, none⟩) (by show ¬ q < B; have := h.hq; omega) u) fun _ h => h
  bl := Nat.le_trans h.bl (((Kept.refl (fun k => k ≠ q) w).setCell (p := ⟨q, i, none⟩) (fun e => e rfl) u).size)
  hq := h.hq
/-- More entries: appended, and stored. -/
theorem OB.putE (h : OB W0 B q w per ve vr vf es rs) (ho : w1.ownsRow 0 34 4 v' (es.length + xs.length) (es.flatMap Ent.cells ++ xs.flatMap Ent.cells)) (hm : Moves w w1 ve v') :
    OB W0 B q (w1.setCell ⟨q, 1, none⟩ v') per v' vr vf (es ++ xs) rs ∧ w1.cell? ⟨q, 1, none⟩ = some ve ∧ w1.frozen? ⟨q, 1, none⟩ = false := by
  have k1 : Kept (fun k => k < w.heap.size ∧ ve.ownBlock ≠ some k) w w1 := hm.kept fun _ h => h
  have c1 : w1.heap[q]? = some (.cells #[.int .i64 (per : Int), ve, vr, vf] 74 (0, 0)) := (k1.block q ⟨blk_lt h.box, h.ea⟩).trans h.box
  have hat : ∀ j, v'.ownBlock = some j → j ≠ q ∧ B ≤ j ∧ vr.ownBlock ≠ some j := by
    intro j hj
    rcases hm.at_ j hj with e | e
    · exact ⟨fun e' => h.ea (by rw [← e']; exact e), (World.ownsRow.lt h.ents j e).1, h.ap j e⟩
    · refine ⟨fun e' => ?_, Nat.le_trans h.bl e.1, fun e' => ?_⟩
      · have := blk_lt h.box; omega
      · have := own_lt h.rows j e'; omega
  have ho1 : OwnE w1 B v' (es ++ xs) := by
    have := own_base ho fun k hk => (hat k hk).2.1
    unfold OwnE
    rw [List.length_append, List.flatMap_append]
    exact this
  have k2 : Kept (fun k => k ≠ q) w1 (w1.setCell ⟨q, 1, none⟩ v') := (Kept.refl _ w1).setCell (p := ⟨q, 1, none⟩) (fun e => e rfl) _
  refine ⟨⟨by rw [blk_set c1]; rfl, own_kept ho1 k2 fun k hk => (hat k hk).1, ?_, fun j hj e => (hat j hj).2.2 e, fun e => (hat q e).1 rfl, h.ra, ?_, ?_, h.hq⟩, blk_cell (i := 1) c1, blk_free c1⟩
  · exact own_kept (own_kept h.rows k1 fun k hk => ⟨own_lt h.rows k hk, fun e => h.ap k e hk⟩) k2 fun k hk e => h.ra (by rw [← e]; exact hk)
  · have hb : Below B W0 w1 := Kept.below ((Kept.of h.be (R := fun k => k < B) fun _ h => h).trans (k1.mono fun k hk => ⟨Nat.lt_of_lt_of_le hk h.bl, fun e => by have := (World.ownsRow.lt h.ents k e).1; omega⟩)) fun _ h => h
    exact Kept.below ((Kept.of hb (R := fun k => k < B) fun _ h => h).setCell (p := ⟨q, 1, none⟩) (by show ¬ q < B; have := h.hq; omega) _) fun _ h => h
  · exact Nat.le_trans h.bl (Nat.le_trans k1.size k2.size)
/-- More rows: appended, and stored. -/
theorem OB.putR (h : OB W0 B q w per ve vr vf es rs) (ho : w1.ownsRow 0 67 5 v' (rs.length + m.length) (rs.flatMap Rw.cells ++ m.flatMap Rw.cells)) (hm : Moves w w1 vr v') :
    OB W0 B q (w1.setCell ⟨q, 2, none⟩ v') per ve v' vf es (rs ++ m) ∧ w1.cell? ⟨q, 2, none⟩ = some vr ∧ w1.frozen? ⟨q, 2, none⟩ = false := by
  have k1 : Kept (fun k => k < w.heap.size ∧ vr.ownBlock ≠ some k) w w1 := hm.kept fun _ h => h
  have c1 : w1.heap[q]? = some (.cells #[.int .i64 (per : Int), ve, vr, vf] 74 (0, 0)) := (k1.block q ⟨blk_lt h.box, h.ra⟩).trans h.box
  have hat : ∀ j, v'.ownBlock = some j → j ≠ q ∧ B ≤ j ∧ ve.ownBlock ≠ some j := by
    intro j hj
    rcases hm.at_ j hj with e | e
    · exact ⟨fun e' => h.ra (by rw [← e']; exact e), (World.ownsRow.lt h.rows j e).1, fun e' => h.ap j e' e⟩
    · refine ⟨fun e' => ?_, Nat.le_trans h.bl e.1, fun e' => ?_⟩
      · have := blk_lt h.box; omega
      · have := own_lt h.ents j e'; omega
  have ho1 : OwnR w1 B v' (rs ++ m) := by
    have := own_base ho fun k hk => (hat k hk).2.1
    unfold OwnR
    rw [List.length_append, List.flatMap_append]
    exact this
  have k2 : Kept (fun k => k ≠ q) w1 (w1.setCell ⟨q, 2, none⟩ v') := (Kept.refl _ w1).setCell (p := ⟨q, 2, none⟩) (fun e => e rfl) _
  refine ⟨⟨by rw [blk_set c1]; rfl, ?_, own_kept ho1 k2 fun k hk => (hat k hk).1, fun j hj e => (hat j e).2.2 hj, h.ea, fun e => (hat q e).1 rfl, ?_, ?_, h.hq⟩, blk_cell (i := 2) c1, blk_free c1⟩
  · exact own_kept (own_kept h.ents k1 fun k hk => ⟨own_lt h.ents k hk, fun e => h.ap k hk e⟩) k2 fun k hk e => h.ea (by rw [← e]; exact hk)
  · have hb : Below B W0 w1 := Kept.below ((Kept.of h.be (R := fun k => k < B) fun _ h => h).trans (k1.mono fun k hk => ⟨Nat.lt_of_lt_of_le hk h.bl, fun e => by have := (World.ownsRow.lt h.rows k e).1; omega⟩)) fun _ h => h
    exact Kept.below ((Kept.of hb (R := fun k => k < B) fun _ h => h).setCell (p := ⟨q, 2, none⟩) (by show ¬ q < B; have := h.hq; omega) _) fun _ h => h
  · exact Nat.le_trans h.bl (Nat.le_trans k1.size k2.size)
end
end Go.Proofs.Yteeikmpfgbfeoaa

/-
  Tables: takes: whether a block of so many entries may be the next one.
-/
namespace Go.Proofs.Yteeikmpfgbfeoaa
open Go.RowKit

def okNext (n per ne nr : Nat) : Bool := decide (n ≤ per) && (ne == per * nr) && decide (ne + n ≤ 256)

set_option maxRecDepth 100000 in
set_option maxHeartbeats 400000 in
theorem takes_any {w : World} {q n per ne nr : Nat} {ea ra : Option Addr} {ec rc : Nat} {vf : Value} (hbox : w.heap[q]? = some (.cells #[.int .i64 (per : Int), .slice ea ne ec, .slice ra nr rc, vf] 74 (0, 0))) (hn : n ≤ 1000) (hp : per ≤ 1000) (he : ne ≤ 1000) (hr : nr ≤ 1000) :
    Calls Try.prog 69 #[.pointer (some ⟨q, 0, none⟩), .int .i64 (n : Int)] w fun e w' => e = .returned (.bool (okNext n per ne nr)) ∧ Below w.heap.size w w' := by
  have z0 : w.cell? ⟨q, 0, none⟩ = some (.int .i64 (per : Int)) := blk_cell (i := 0) hbox
  have z1 : w.cell? ⟨q, 1, none⟩ = some (.slice ea ne ec) := blk_cell (i := 1) hbox
  have z2 : w.cell? ⟨q, 2, none⟩ = some (.slice ra nr rc) := blk_cell (i := 2) hbox
  clear hbox
  obtain ⟨pr, hpr⟩ : ∃ pr, per * nr = pr := ⟨_, rfl⟩
  have hpb : pr ≤ 1000000 := by rw [← hpr]; exact Nat.mul_le_mul hp hr
  have hcast : (per : Int) * (nr : Int) = (pr : Int) := by rw [← hpr]; push_cast; rfl
  have e1 : IntKind.i64.wrap ((per : Int) * (nr : Int)) = (pr : Int) := by rw [hcast]; exact IntWalk.i64_in _ (by omega)
  have e3 : IntKind.i64.wrap (pr : Int) = (pr : Int) := IntWalk.i64_in _ (by omega)
  have e2 : IntKind.i64.wrap ((ne : Int) + (n : Int)) = (ne : Int) + (n : Int) := IntWalk.i64_in _ (by omega)
  unfold okNext
  rw [hpr]
  clear hpr
  cases b1 : decide (n ≤ per) with
  | false =>
    have d1 : decide ((n : Int) ≤ (per : Int)) = false := by simp at b1 ⊢; omega
    have d1' : ¬ n ≤ per := by simpa using b1
    have d1'' : per < n := by omega
    clear b1
    go_enter Try.func69, Try.ntmps69
    go_upto_region 1 with (fail)
    refine wp_region_plan [(true, 0), (true, 1), (true, 2), (true, 3), (true, 4), (true, 5), (true, 6), (true, 7), (true, 8), (true, 9), (true, 10), (true, 11), (true, 12), (true, 13), (true, 14), (true, 15), (true, 16), (true, 17), (true, 18), (true, 19), (true, 20), (true, 21), (true, 22), (true, 23), (true, 24), (true, 25), (true, 26), (true, 27), (true, 28), (true, 29), (true, 30), (true, 31), (true, 32), (true, 33), (true, 34)] (by kernel_rfl) (by kernel_rfl) (by kernel_rfl) (by kernel_rfl) (by kernel_rfl) ?_
    simp only [planO, List.drop_succ_cons, List.drop_zero]
    refine PlanO.take (v := ?vA0) (by kernel_rfl) ?yA0 ?rA0
    case yA0 => (intro wz hz; go_simp; try with_reducible rfl)
    (try simp only [Act.put, List.setIfInBounds_toArray, List.set_cons_zero, List.set_cons_succ])
    refine PlanO.take (v := ?vA1) (by kernel_rfl) ?yA1 ?rA1
    case yA1 => (intro wz hz; go_simp; try with_reducible rfl)
    (try simp only [Act.put, List.setIfInBounds_toArray, List.set_cons_zero, List.set_cons_succ])
    refine PlanO.take (v := ?vA2) (by kernel_rfl) ?yA2 ?rA2
    case yA2 => (intro wz hz; go_simp; try with_reducible rfl)
    (try simp only [Act.put, List.setIfInBounds_toArray, List.set_cons_zero, List.set_cons_succ])
    refine PlanO.take (v := ?vA3) (by kernel_rfl) ?yA3 ?rA3
    case yA3 => (intro wz hz; go_simp; try with_reducible rfl)
    (try simp only [Act.put, List.setIfInBounds_toArray, List.set_cons_zero, List.set_cons_succ])
    refine PlanO.take (v := ?vA4) (by kernel_rfl) ?yA4 ?rA4
    case yA4 => (intro wz hz; have c0 := Ext.at_ hz z0; have c1 := Ext.at_ hz z1; have c2 := Ext.at_ hz z2; go_simp; try with_reducible rfl)
    (try simp only [Act.put, List.setIfInBounds_toArray, List.set_cons_zero, List.set_cons_succ])
    refine PlanO.take (v := .bool false) (by kernel_rfl) ?yA5 ?rA5
    case yA5 => (intro wz hz; go_simp; try with_reducible rfl)
    (try simp only [Act.put, List.setIfInBounds_toArray, List.set_cons_zero, List.set_cons_succ])
    refine PlanO.take (v := .bool false) (by kernel_rfl) ?yA6 ?rA6
    case yA6 => (intro wz hz; go_simp; try with_reducible rfl)
    (try simp only [Act.put, List.setIfInBounds_toArray, List.set_cons_zero, List.set_cons_succ])
    refine PlanO.skip (by kernel_rfl) ?_
    (try simp only [Act.put, List.setIfInBounds_toArray, List.set_cons_zero, List.set_cons_succ])
    refine PlanO.skip (by kernel_rfl) ?_
    (try simp only [Act.put, List.setIfInBounds_toArray, List.set_cons_zero, List.set_cons_succ])
    refine PlanO.skip (by kernel_rfl) ?_
    (try simp only [Act.put, List.setIfInBounds_toArray, List.set_cons_zero, List.set_cons_succ])
    refine PlanO.skip (by kernel_rfl) ?_
    (try simp only [Act.put, List.setIfInBounds_toArray, List.set_cons_zero, List.set_cons_succ])
    refine PlanO.skip (by kernel_rfl) ?_
    (try simp only [Act.put, List.setIfInBounds_toArray, List.set_cons_zero, List.set_cons_succ])
    refine PlanO.skip (by kernel_rfl) ?_
    (try simp only [Act.put, List.setIfInBounds_toArray, List.set_cons_zero, List.set_cons_succ])
    refine PlanO.skip (by kernel_rfl) ?_
    (try simp only [Act.put, List.setIfInBounds_toArray, List.set_cons_zero, List.set_cons_succ])
    refine PlanO.skip (by kernel_rfl) ?_
    (try simp only [Act.put, List.setIfInBounds_toArray, List.set_cons_zero, List.set_cons_succ])
    refine PlanO.skip (by kernel_rfl) ?_
    (try simp only [Act.put, List.setIfInBounds_toArray, List.set_cons_zero, List.set_cons_succ])
    refine PlanO.skip (by kernel_rfl) ?_
    (try simp only [Act.put, List.setIfInBounds_toArray, List.set_cons_zero, List.set_cons_succ])
    refine PlanO.skip (by kernel_rfl) ?_
    (try simp only [Act.put, List.setIfInBounds_toArray, List.set_cons_zero, List.set_cons_succ])
    refine PlanO.skip (by kernel_rfl) ?_
    (try simp only [Act.put, List.setIfInBounds_toArray, List.set_cons_zero, List.set_cons_succ])
    refine PlanO.skip (by kernel_rfl) ?_
    (try simp only [Act.put, List.setIfInBounds_toArray, List.set_cons_zero, List.set_cons_succ])
    refine PlanO.skip (by kernel_rfl) ?_
    (try simp only [Act.put, List.setIfInBounds_toArray, List.set_cons_zero, List.set_cons_succ])
    refine PlanO.skip (by kernel_rfl) ?_
    (try simp only [Act.put, List.setIfInBounds_toArray, List.set_cons_zero, List.set_cons_succ])
    refine PlanO.skip (by kernel_rfl) ?_
    (try simp only [Act.put, List.setIfInBounds_toArray, List.set_cons_zero, List.set_cons_succ])
    refine PlanO.take (v := .bool false) (by kernel_rfl) ?yA23 ?rA23
    case yA23 => (intro wz hz; go_simp; try with_reducible rfl)
    (try simp only [Act.put, List.setIfInBounds_toArray, List.set_cons_zero, List.set_cons_succ])
    refine PlanO.take (v := .bool false) (by kernel_rfl) ?yA24 ?rA24
    case yA24 => (intro wz hz; go_simp; try with_reducible rfl)
    (try simp only [Act.put, List.setIfInBounds_toArray, List.set_cons_zero, List.set_cons_succ])
    refine PlanO.skip (by kernel_rfl) ?_
    (try simp only [Act.put, List.setIfInBounds_toArray, List.set_cons_zero, List.set_cons_succ])
    refine PlanO.skip (by kernel_rfl) ?_
    (try simp only [Act.put, List.setIfInBounds_toArray, List.set_cons_zero, List.set_cons_succ])
    refine PlanO.skip (by kernel_rfl) ?_
    (try simp only [Act.put, List.setIfInBounds_toArray, List.set_cons_zero, List.set_cons_succ])
    refine PlanO.skip (by kernel_rfl) ?_
    (try simp only [Act.put, List.setIfInBounds_toArray, List.set_cons_zero, List.set_cons_succ])
    refine PlanO.skip (by kernel_rfl) ?_
    (try simp only [Act.put, List.setIfInBounds_toArray, List.set_cons_zero, List.set_cons_succ])
    refine PlanO.skip (by kernel_rfl) ?_
    (try simp only [Act.put, List.setIfInBounds_toArray, List.set_cons_zero, List.set_cons_succ])
    refine PlanO.skip (by kernel_rfl) ?_
    (try simp only [Act.put, List.setIfInBounds_toArray, List.set_cons_zero, List.set_cons_succ])
    refine PlanO.skip (by kernel_rfl) ?_
    (try simp only [Act.put, List.setIfInBounds_toArray, List.set_cons_zero, List.set_cons_succ])
    refine PlanO.take (v := ?vA33) (by kernel_rfl) ?yA33 ?rA33
    case yA33 => (intro wz hz; go_simp; try with_reducible rfl)
    (try simp only [Act.put, List.setIfInBounds_toArray, List.set_cons_zero, List.set_cons_succ])
    refine PlanO.take (v := ?vA34) (by kernel_rfl) ?yA34 ?rA34
    case yA34 => (intro wz hz; go_simp; try with_reducible rfl)
    (try simp only [Act.put, List.setIfInBounds_toArray, List.set_cons_zero, List.set_cons_succ])
    refine PlanO.done (NoPanic.normal ?_)
    go_wp2
    go_ret
    exact ⟨rfl, (Below.refl _ _).drew⟩
  | true =>
    have d1 : decide ((n : Int) ≤ (per : Int)) = true := by simp at b1 ⊢; omega
    have d1' : n ≤ per := by simpa using b1
    clear b1
    cases b2 : (ne == pr) with
    | false =>
      have d2 : (((ne : Nat) : Int) == (pr : Int)) = false := by simp at b2 ⊢; omega
      have d2' : ¬ ne = pr := by simpa using b2
      clear b2
      go_enter Try.func69, Try.ntmps69
      go_upto_region 1 with (fail)
      refine wp_region_plan [(true, 0), (true, 1), (true, 2), (true, 3), (true, 4), (true, 5), (true, 6), (true, 7), (true, 8), (true, 9), (true, 10), (true, 11), (true, 12), (true, 13), (true, 14), (true, 15), (true, 16), (true, 17), (true, 18), (true, 19), (true, 20), (true, 21), (true, 22), (true, 23), (true, 24), (true, 25), (true, 26), (true, 27), (true, 28), (true, 29), (true, 30), (true, 31), (true, 32), (true, 33), (true, 34)] (by kernel_rfl) (by kernel_rfl) (by kernel_rfl) (by kernel_rfl) (by kernel_rfl) ?_
      simp only [planO, List.drop_succ_cons, List.drop_zero]
      refine PlanO.take (v := ?vB0) (by kernel_rfl) ?yB0 ?rB0
      case yB0 => (intro wz hz; go_simp; try with_reducible rfl)
      (try simp only [Act.put, List.setIfInBounds_toArray, List.set_cons_zero, List.set_cons_succ])
      refine PlanO.take (v := ?vB1) (by kernel_rfl) ?yB1 ?rB1
      case yB1 => (intro wz hz; go_simp; try with_reducible rfl)
      (try simp only [Act.put, List.setIfInBounds_toArray, List.set_cons_zero, List.set_cons_succ])
      refine PlanO.take (v := ?vB2) (by kernel_rfl) ?yB2 ?rB2
      case yB2 => (intro wz hz; go_simp; try with_reducible rfl)
      (try simp only [Act.put, List.setIfInBounds_toArray, List.set_cons_zero, List.set_cons_succ])
      refine PlanO.take (v := ?vB3) (by kernel_rfl) ?yB3 ?rB3
      case yB3 => (intro wz hz; go_simp; try with_reducible rfl)
      (try simp only [Act.put, List.setIfInBounds_toArray, List.set_cons_zero, List.set_cons_succ])
      refine PlanO.take (v := ?vB4) (by kernel_rfl) ?yB4 ?rB4
      case yB4 => (intro wz hz; have c0 := Ext.at_ hz z0; have c1 := Ext.at_ hz z1; have c2 := Ext.at_ hz z2; go_simp; try with_reducible rfl)
      (try simp only [Act.put, List.setIfInBounds_toArray, List.set_cons_zero, List.set_cons_succ])
      refine PlanO.take (v := .bool true) (by kernel_rfl) ?yB5 ?rB5
      case yB5 => (intro wz hz; go_simp; try with_reducible rfl)
      (try simp only [Act.put, List.setIfInBounds_toArray, List.set_cons_zero, List.set_cons_succ])
      refine PlanO.take (v := .bool true) (by kernel_rfl) ?yB6 ?rB6
      case yB6 => (intro wz hz; go_simp; try with_reducible rfl)
      (try simp only [Act.put, List.setIfInBounds_toArray, List.set_cons_zero, List.set_cons_succ])
      refine PlanO.take (v := ?vB7) (by kernel_rfl) ?yB7 ?rB7
      case yB7 => (intro wz hz; go_simp; try with_reducible rfl)
      (try simp only [Act.put, List.setIfInBounds_toArray, List.set_cons_zero, List.set_cons_succ])
      refine PlanO.take (v := ?vB8) (by kernel_rfl) ?yB8 ?rB8
      case yB8 => (intro wz hz; go_simp; try with_reducible rfl)
      (try simp only [Act.put, List.setIfInBounds_toArray, List.set_cons_zero, List.set_cons_succ])
      refine PlanO.take (v := ?vB9) (by kernel_rfl) ?yB9 ?rB9
      case yB9 => (intro wz hz; go_simp; try with_reducible rfl)
      (try simp only [Act.put, List.setIfInBounds_toArray, List.set_cons_zero, List.set_cons_succ])
      refine PlanO.take (v := ?vB10) (by kernel_rfl) ?yB10 ?rB10
      case yB10 => (intro wz hz; have c0 := Ext.at_ hz z0; have c1 := Ext.at_ hz z1; have c2 := Ext.at_ hz z2; go_simp; try with_reducible rfl)
      (try simp only [Act.put, List.setIfInBounds_toArray, List.set_cons_zero, List.set_cons_succ])
      refine PlanO.take (v := ?vB11) (by kernel_rfl) ?yB11 ?rB11
      case yB11 => (intro wz hz; go_simp; try with_reducible rfl)
      (try simp only [Act.put, List.setIfInBounds_toArray, List.set_cons_zero, List.set_cons_succ])
      refine PlanO.take (v := ?vB12) (by kernel_rfl) ?yB12 ?rB12
      case yB12 => (intro wz hz; go_simp; try with_reducible rfl)
      (try simp only [Act.put, List.setIfInBounds_toArray, List.set_cons_zero, List.set_cons_succ])
      refine PlanO.take (v := ?vB13) (by kernel_rfl) ?yB13 ?rB13
      case yB13 => (intro wz hz; go_simp; try with_reducible rfl)
      (try simp only [Act.put, List.setIfInBounds_toArray, List.set_cons_zero, List.set_cons_succ])
      refine PlanO.take (v := ?vB14) (by kernel_rfl) ?yB14 ?rB14
      case yB14 => (intro wz hz; go_simp; try with_reducible rfl)
      (try simp only [Act.put, List.setIfInBounds_toArray, List.set_cons_zero, List.set_cons_succ])
      refine PlanO.take (v := ?vB15) (by kernel_rfl) ?yB15 ?rB15
      case yB15 => (intro wz hz; have c0 := Ext.at_ hz z0; have c1 := Ext.at_ hz z1; have c2 := Ext.at_ hz z2; go_simp; try with_reducible rfl)
      (try simp only [Act.put, List.setIfInBounds_toArray, List.set_cons_zero, List.set_cons_succ])
      refine PlanO.take (v := ?vB16) (by kernel_rfl) ?yB16 ?rB16
      case yB16 => (intro wz hz; go_simp; try with_reducible rfl)
      (try simp only [Act.put, List.setIfInBounds_toArray, List.set_cons_zero, List.set_cons_succ])
      refine PlanO.take (v := ?vB17) (by kernel_rfl) ?yB17 ?rB17
      case yB17 => (intro wz hz; go_simp; try with_reducible rfl)
      (try simp only [Act.put, List.setIfInBounds_toArray, List.set_cons_zero, List.set_cons_succ])
      refine PlanO.take (v := ?vB18) (by kernel_rfl) ?yB18 ?rB18
      case yB18 => (intro wz hz; go_simp; try with_reducible rfl)
      (try simp only [Act.put, List.setIfInBounds_toArray, List.set_cons_zero, List.set_cons_succ])
      refine PlanO.take (v := ?vB19) (by kernel_rfl) ?yB19 ?rB19
      case yB19 => (intro wz hz; have c0 := Ext.at_ hz z0; have c1 := Ext.at_ hz z1; have c2 := Ext.at_ hz z2; go_simp; try with_reducible rfl)
      (try simp only [Act.put, List.setIfInBounds_toArray, List.set_cons_zero, List.set_cons_succ])
      refine PlanO.take (v := ?vB20) (by kernel_rfl) ?yB20 ?rB20
      case yB20 => (intro wz hz; go_simp; try with_reducible rfl)
      (try simp only [Act.put, List.setIfInBounds_toArray, List.set_cons_zero, List.set_cons_succ])
      refine PlanO.take (v := .int .i64 (pr : Int)) (by kernel_rfl) ?yB21 ?rB21
      case yB21 => (intro wz hz; go_simp; try with_reducible rfl)
      (try simp only [Act.put, List.setIfInBounds_toArray, List.set_cons_zero, List.set_cons_succ])
      refine PlanO.take (v := .bool false) (by kernel_rfl) ?yB22 ?rB22
      case yB22 => (intro wz hz; go_simp; try with_reducible rfl)
      (try simp only [Act.put, List.setIfInBounds_toArray, List.set_cons_zero, List.set_cons_succ])
      refine PlanO.take (v := .bool false) (by kernel_rfl) ?yB23 ?rB23
      case yB23 => (intro wz hz; go_simp; try with_reducible rfl)
      (try simp only [Act.put, List.setIfInBounds_toArray, List.set_cons_zero, List.set_cons_succ])
      refine PlanO.take (v := .bool false) (by kernel_rfl) ?yB24 ?rB24
      case yB24 => (intro wz hz; go_simp; try with_reducible rfl)
      (try simp only [Act.put, List.setIfInBounds_toArray, List.set_cons_zero, List.set_cons_succ])
      refine PlanO.skip (by kernel_rfl) ?_
      (try simp only [Act.put, List.setIfInBounds_toArray, List.set_cons_zero, List.set_cons_succ])
      refine PlanO.skip (by kernel_rfl) ?_
      (try simp only [Act.put, List.setIfInBounds_toArray, List.set_cons_zero, List.set_cons_succ])
      refine PlanO.skip (by kernel_rfl) ?_
      (try simp only [Act.put, List.setIfInBounds_toArray, List.set_cons_zero, List.set_cons_succ])
      refine PlanO.skip (by kernel_rfl) ?_
      (try simp only [Act.put, List.setIfInBounds_toArray, List.set_cons_zero, List.set_cons_succ])
      refine PlanO.skip (by kernel_rfl) ?_
      (try simp only [Act.put, List.setIfInBounds_toArray, List.set_cons_zero, List.set_cons_succ])
      refine PlanO.skip (by kernel_rfl) ?_
      (try simp only [Act.put, List.setIfInBounds_toArray, List.set_cons_zero, List.set_cons_succ])
      refine PlanO.skip (by kernel_rfl) ?_
      (try simp only [Act.put, List.setIfInBounds_toArray, List.set_cons_zero, List.set_cons_succ])
      refine PlanO.skip (by kernel_rfl) ?_
      (try simp only [Act.put, List.setIfInBounds_toArray, List.set_cons_zero, List.set_cons_succ])
      refine PlanO.take (v := ?vB33) (by kernel_rfl) ?yB33 ?rB33
      case yB33 => (intro wz hz; go_simp; try with_reducible rfl)
      (try simp only [Act.put, List.setIfInBounds_toArray, List.set_cons_zero, List.set_cons_succ])
      refine PlanO.take (v := ?vB34) (by kernel_rfl) ?yB34 ?rB34
      case yB34 => (intro wz hz; go_simp; try with_reducible rfl)
      (try simp only [Act.put, List.setIfInBounds_toArray, List.set_cons_zero, List.set_cons_succ])
      refine PlanO.done (NoPanic.normal ?_)
      go_wp2
      go_ret
      exact ⟨rfl, (Below.refl _ _).drew⟩
    | true =>
      have d2 : (((ne : Nat) : Int) == (pr : Int)) = true := by simp at b2 ⊢; omega
      have d2' : ne = pr := by simpa using b2
      have HD := Lib.hid d2'
      clear b2 d2'
      have d3 : decide ((ne : Int) + (n : Int) ≤ 256) = decide (ne + n ≤ 256) := by
        by_cases h : ne + n ≤ 256
        · simp [h]; omega
        · simp [h]; omega
      go_enter Try.func69, Try.ntmps69
      go_upto_region 1 with (fail)
      refine wp_region_plan [(true, 0), (true, 1), (true, 2), (true, 3), (true, 4), (true, 5), (true, 6), (true, 7), (true, 8), (true, 9), (true, 10), (true, 11), (true, 12), (true, 13), (true, 14), (true, 15), (true, 16), (true, 17), (true, 18), (true, 19), (true, 20), (true, 21), (true, 22), (true, 23), (true, 24), (true, 25), (true, 26), (true, 27), (true, 28), (true, 29), (true, 30), (true, 31), (true, 32), (true, 33), (true, 34)] (by kernel_rfl) (by kernel_rfl) (by kernel_rfl) (by kernel_rfl) (by kernel_rfl) ?_
      simp only [planO, List.drop_succ_cons, List.drop_zero]
      refine PlanO.take (v := ?vC0) (by kernel_rfl) ?yC0 ?rC0
      case yC0 => (intro wz hz; go_simp; try with_reducible rfl)
      (try simp only [Act.put, List.setIfInBounds_toArray, List.set_cons_zero, List.set_cons_succ])
      refine PlanO.take (v := ?vC1) (by kernel_rfl) ?yC1 ?rC1
      case yC1 => (intro wz hz; go_simp; try with_reducible rfl)
      (try simp only [Act.put, List.setIfInBounds_toArray, List.set_cons_zero, List.set_cons_succ])
      refine PlanO.take (v := ?vC2) (by kernel_rfl) ?yC2 ?rC2
      case yC2 => (intro wz hz; go_simp; try with_reducible rfl)
      (try simp only [Act.put, List.setIfInBounds_toArray, List.set_cons_zero, List.set_cons_succ])
      refine PlanO.take (v := ?vC3) (by kernel_rfl) ?yC3 ?rC3
      case yC3 => (intro wz hz; go_simp; try with_reducible rfl)
      (try simp only [Act.put, List.setIfInBounds_toArray, List.set_cons_zero, List.set_cons_succ])
      refine PlanO.take (v := ?vC4) (by kernel_rfl) ?yC4 ?rC4
      case yC4 => (intro wz hz; have c0 := Ext.at_ hz z0; have c1 := Ext.at_ hz z1; have c2 := Ext.at_ hz z2; go_simp; try with_reducible rfl)
      (try simp only [Act.put, List.setIfInBounds_toArray, List.set_cons_zero, List.set_cons_succ])
      refine PlanO.take (v := .bool true) (by kernel_rfl) ?yC5 ?rC5
      case yC5 => (intro wz hz; go_simp; try with_reducible rfl)
      (try simp only [Act.put, List.setIfInBounds_toArray, List.set_cons_zero, List.set_cons_succ])
      refine PlanO.take (v := .bool true) (by kernel_rfl) ?yC6 ?rC6
      case yC6 => (intro wz hz; go_simp; try with_reducible rfl)
      (try simp only [Act.put, List.setIfInBounds_toArray, List.set_cons_zero, List.set_cons_succ])
      refine PlanO.take (v := ?vC7) (by kernel_rfl) ?yC7 ?rC7
      case yC7 => (intro wz hz; go_simp; try with_reducible rfl)
      (try simp only [Act.put, List.setIfInBounds_toArray, List.set_cons_zero, List.set_cons_succ])
      refine PlanO.take (v := ?vC8) (by kernel_rfl) ?yC8 ?rC8
      case yC8 => (intro wz hz; go_simp; try with_reducible rfl)
      (try simp only [Act.put, List.setIfInBounds_toArray, List.set_cons_zero, List.set_cons_succ])
      refine PlanO.take (v := ?vC9) (by kernel_rfl) ?yC9 ?rC9
      case yC9 => (intro wz hz; go_simp; try with_reducible rfl)
      (try simp only [Act.put, List.setIfInBounds_toArray, List.set_cons_zero, List.set_cons_succ])
      refine PlanO.take (v := ?vC10) (by kernel_rfl) ?yC10 ?rC10
      case yC10 => (intro wz hz; have c0 := Ext.at_ hz z0; have c1 := Ext.at_ hz z1; have c2 := Ext.at_ hz z2; go_simp; try with_reducible rfl)
      (try simp only [Act.put, List.setIfInBounds_toArray, List.set_cons_zero, List.set_cons_succ])
      refine PlanO.take (v := ?vC11) (by kernel_rfl) ?yC11 ?rC11
      case yC11 => (intro wz hz; go_simp; try with_reducible rfl)
      (try simp only [Act.put, List.setIfInBounds_toArray, List.set_cons_zero, List.set_cons_succ])
      refine PlanO.take (v := ?vC12) (by kernel_rfl) ?yC12 ?rC12
      case yC12 => (intro wz hz; go_simp; try with_reducible rfl)
      (try simp only [Act.put, List.setIfInBounds_toArray, List.set_cons_zero, List.set_cons_succ])
      refine PlanO.take (v := ?vC13) (by kernel_rfl) ?yC13 ?rC13
      case yC13 => (intro wz hz; go_simp; try with_reducible rfl)
      (try simp only [Act.put, List.setIfInBounds_toArray, List.set_cons_zero, List.set_cons_succ])
      refine PlanO.take (v := ?vC14) (by kernel_rfl) ?yC14 ?rC14
      case yC14 => (intro wz hz; go_simp; try with_reducible rfl)
      (try simp only [Act.put, List.setIfInBounds_toArray, List.set_cons_zero, List.set_cons_succ])
      refine PlanO.take (v := ?vC15) (by kernel_rfl) ?yC15 ?rC15
      case yC15 => (intro wz hz; have c0 := Ext.at_ hz z0; have c1 := Ext.at_ hz z1; have c2 := Ext.at_ hz z2; go_simp; try with_reducible rfl)
      (try simp only [Act.put, List.setIfInBounds_toArray, List.set_cons_zero, List.set_cons_succ])
      refine PlanO.take (v := ?vC16) (by kernel_rfl) ?yC16 ?rC16
      case yC16 => (intro wz hz; go_simp; try with_reducible rfl)
      (try simp only [Act.put, List.setIfInBounds_toArray, List.set_cons_zero, List.set_cons_succ])
      refine PlanO.take (v := ?vC17) (by kernel_rfl) ?yC17 ?rC17
      case yC17 => (intro wz hz; go_simp; try with_reducible rfl)
      (try simp only [Act.put, List.setIfInBounds_toArray, List.set_cons_zero, List.set_cons_succ])
      refine PlanO.take (v := ?vC18) (by kernel_rfl) ?yC18 ?rC18
      case yC18 => (intro wz hz; go_simp; try with_reducible rfl)
      (try simp only [Act.put, List.setIfInBounds_toArray, List.set_cons_zero, List.set_cons_succ])
      refine PlanO.take (v := ?vC19) (by kernel_rfl) ?yC19 ?rC19
      case yC19 => (intro wz hz; have c0 := Ext.at_ hz z0; have c1 := Ext.at_ hz z1; have c2 := Ext.at_ hz z2; go_simp; try with_reducible rfl)
      (try simp only [Act.put, List.setIfInBounds_toArray, List.set_cons_zero, List.set_cons_succ])
      refine PlanO.take (v := ?vC20) (by kernel_rfl) ?yC20 ?rC20
      case yC20 => (intro wz hz; go_simp; try with_reducible rfl)
      (try simp only [Act.put, List.setIfInBounds_toArray, List.set_cons_zero, List.set_cons_succ])
      refine PlanO.take (v := .int .i64 (pr : Int)) (by kernel_rfl) ?yC21 ?rC21
      case yC21 => (intro wz hz; go_simp; try with_reducible rfl)
      (try simp only [Act.put, List.setIfInBounds_toArray, List.set_cons_zero, List.set_cons_succ])
      refine PlanO.take (v := .bool true) (by kernel_rfl) ?yC22 ?rC22
      case yC22 => (intro wz hz; go_simp; try with_reducible rfl)
      (try simp only [Act.put, List.setIfInBounds_toArray, List.set_cons_zero, List.set_cons_succ])
      refine PlanO.take (v := .bool true) (by kernel_rfl) ?yC23 ?rC23
      case yC23 => (intro wz hz; go_simp; try with_reducible rfl)
      (try simp only [Act.put, List.setIfInBounds_toArray, List.set_cons_zero, List.set_cons_succ])
      refine PlanO.take (v := .bool true) (by kernel_rfl) ?yC24 ?rC24
      case yC24 => (intro wz hz; go_simp; try with_reducible rfl)
      (try simp only [Act.put, List.setIfInBounds_toArray, List.set_cons_zero, List.set_cons_succ])
      refine PlanO.take (v := ?vC25) (by kernel_rfl) ?yC25 ?rC25
      case yC25 => (intro wz hz; go_simp; try with_reducible rfl)
      (try simp only [Act.put, List.setIfInBounds_toArray, List.set_cons_zero, List.set_cons_succ])
      refine PlanO.take (v := ?vC26) (by kernel_rfl) ?yC26 ?rC26
      case yC26 => (intro wz hz; go_simp; try with_reducible rfl)
      (try simp only [Act.put, List.setIfInBounds_toArray, List.set_cons_zero, List.set_cons_succ])
      refine PlanO.take (v := ?vC27) (by kernel_rfl) ?yC27 ?rC27
      case yC27 => (intro wz hz; go_simp; try with_reducible rfl)
      (try simp only [Act.put, List.setIfInBounds_toArray, List.set_cons_zero, List.set_cons_succ])
      refine PlanO.take (v := ?vC28) (by kernel_rfl) ?yC28 ?rC28
      case yC28 => (intro wz hz; have c0 := Ext.at_ hz z0; have c1 := Ext.at_ hz z1; have c2 := Ext.at_ hz z2; go_simp; try with_reducible rfl)
      (try simp only [Act.put, List.setIfInBounds_toArray, List.set_cons_zero, List.set_cons_succ])
      refine PlanO.take (v := ?vC29) (by kernel_rfl) ?yC29 ?rC29
      case yC29 => (intro wz hz; go_simp; try with_reducible rfl)
      (try simp only [Act.put, List.setIfInBounds_toArray, List.set_cons_zero, List.set_cons_succ])
      refine PlanO.take (v := ?vC30) (by kernel_rfl) ?yC30 ?rC30
      case yC30 => (intro wz hz; go_simp; try with_reducible rfl)
      (try simp only [Act.put, List.setIfInBounds_toArray, List.set_cons_zero, List.set_cons_succ])
      refine PlanO.take (v := ?vC31) (by kernel_rfl) ?yC31 ?rC31
      case yC31 => (intro wz hz; go_simp; try with_reducible rfl)
      (try simp only [Act.put, List.setIfInBounds_toArray, List.set_cons_zero, List.set_cons_succ])
      refine PlanO.take (v := .bool (decide (ne + n ≤ 256))) (by kernel_rfl) ?yC32 ?rC32
      case yC32 => (intro wz hz; go_simp; try with_reducible rfl)
      (try simp only [Act.put, List.setIfInBounds_toArray, List.set_cons_zero, List.set_cons_succ])
      refine PlanO.take (v := .bool (decide (ne + n ≤ 256))) (by kernel_rfl) ?yC33 ?rC33
      case yC33 => (intro wz hz; go_simp; try with_reducible rfl)
      (try simp only [Act.put, List.setIfInBounds_toArray, List.set_cons_zero, List.set_cons_succ])
      refine PlanO.take (v := ?vC34) (by kernel_rfl) ?yC34 ?rC34
      case yC34 => (intro wz hz; go_simp; try with_reducible rfl)
      (try simp only [Act.put, List.setIfInBounds_toArray, List.set_cons_zero, List.set_cons_succ])
      refine PlanO.done (NoPanic.normal ?_)
      go_wp2
      go_ret
      exact ⟨by simp, (Below.refl _ _).drew⟩
end Go.Proofs.Yteeikmpfgbfeoaa
