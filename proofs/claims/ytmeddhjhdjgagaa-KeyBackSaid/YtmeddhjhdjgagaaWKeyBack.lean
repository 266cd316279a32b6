/-
  The walk of the statement KeyBack.
-/
import Derived.Test.YtmeddhjhdjgagaaAwake2
import Derived.Test.YtmeddhjhdjgagaaKeyBackMath
import Derived.Test.YtmeddhjhdjgagaaKeyRefCmp
import Derived.Test.YtmeddhjhdjgagaaOpen
import Derived.Test.YtmeddhjhdjgagaaRegion
namespace Go.Proofs.Ytmeddhjhdjgagaa
open Go.ChangeShapes Go.WideShapes Go.ChangeAt Go.RowKit

set_option maxRecDepth 100000 in
set_option maxHeartbeats 8000000 in
set_option linter.unusedSimpArgs false in
theorem keyBack_false (u : ByteArray) (q : Int) (o : ByteArray) (v : Value) (l : List UInt8) (W : World) (hq : 0 ≤ q ∧ q ≤ 18446744073709551615) (hv : RdB W v l)
    (g1 : ¬ (64 : Int) < (u.size : Int)) (g2 : ¬ (64 : Int) < (o.size : Int)) (g3 : ¬ (100 : Int) < (l.length : Int)) :
    Calls Try.prog 5 #[.string u, .int .u64 q, .bool false, .string o, v] W fun e w' => e = .returned (.bool true) ∧ Below W.heap.size W w' := by
  obtain ⟨va, vc, rfl, hvc, hvm⟩ := hv.form
  unfold maxLen at hvm
  have hs0 : 0 ≤ q / 2048 := by omega
  have hs1 : q / 2048 ≤ 9007199254740991 := by omega
  have hmu : mayB u.data.toList (q / 2048) 1 = true := mayB_mk (by rw [str_len]; omega) hs0 (by omega) (by omega)
  have hmo : mayB o.data.toList (q / 2048) 1 = true := mayB_mk (by rw [str_len]; omega) hs0 (by omega) (by omega)
  have HB := Lib.hid (keyAt_back hmu l)
  have HI := Lib.hid (putK_inj hmu hmo)
  have hlp := putK_length hmu
  clear hmu hmo
  go_enter Try.func5, Try.ntmps5
  go_wp2_with fail
  generalize q / 2048 = s at *
  refine (kput_any u s 1 (by unfold maxLen; omega) _).mono ?_
  rintro e w1 ⟨p, rfl, hp, hb1⟩
  have d0 : w1.cell? ⟨W.heap.size, 0, none⟩ = some (.string u) := (hb1.cell (p := ⟨W.heap.size, 0, none⟩) (by simp)).trans (by go_simp)
  have d1 : w1.cell? ⟨W.heap.size, 1, none⟩ = some (.int .i64 s) := (hb1.cell (p := ⟨W.heap.size, 1, none⟩) (by simp)).trans (by go_simp)
  have d2 : w1.cell? ⟨W.heap.size, 2, none⟩ = some (.int .i64 1) := (hb1.cell (p := ⟨W.heap.size, 2, none⟩) (by simp)).trans (by go_simp)
  have hB1 : Below W.heap.size W w1 := ((Below.refl _ _).alloc (Nat.le_refl _) _).trans (hb1.mono (by simp))
  have hpr := hp.read
  have hvr := hv.below hB1 (Nat.le_refl _)
  clear hp hb1 hv
  generalize hpk : putK u.data.toList s 1 = pk at *
  obtain ⟨pa, pc, rfl, hpc1, hpc2⟩ := hpr.form
  unfold maxLen at hpc2
  have hal : Below w1.heap.size w1 (w1.alloc (.cells #[] 5)) := (Below.refl _ _).alloc (Nat.le_refl _) _
  have hn1 : ([] : List UInt8).length + pk.length ≤ 140737488355328 := by simp; omega
  have hn2 : pk.length + l.length ≤ 140737488355328 := by omega
  have HPK := Lib.hid hpk
  clear hpk
  go_wp2_with (at_builtin; refine wpList_append_bytes rfl (.tmp 41) (.tmp 42) 25 rfl w1.heap.size 5 Try.underlying25 info_u8 _ _ [] pk rfl rfl (OwnB.made w1 _ _ (Nat.le_refl _)) (hpr.below hal (Nat.le_refl _)) hal.size hn1 ?_)
  intro x1 u1 ho1 hk1
  replace ho1 : OwnB u1 w1.heap.size 5 x1 pk := ho1
  have hx1 := hk1 w1.heap.size w1 (Nat.le_refl _) hal
  go_wp2_with (at_builtin; refine wpList_append_bytes rfl (.tmp 43) (.tmp 44) 25 rfl w1.heap.size 5 Try.underlying25 info_u8 _ _ pk l rfl rfl ho1 (hvr.below hx1 (Nat.le_refl _)) hx1.size hn2 ?_)
  intro x2 u2 ho2 hk2
  have hx2 := hk2 w1.heap.size w1 (Nat.le_refl _) hx1
  have hr := ho2.read
  clear hk1 hk2 ho1 ho2 hx1 hn1 hn2 hal
  have hg := kget_any x2 (pk ++ l) 0 u2 hr
  rw [HB.out] at hg
  have HG : Hid (Calls Try.prog 7 #[x2, .int .i64 0] u2 fun e w' => e = .returned (.tuple #[.agg #[.string u, .int .i64 s, .int .i64 1], .int .i64 pk.length, .bool true]) ∧ Below u2.heap.size u2 w') := Lib.hid hg
  clear hg
  go_wp2_with fail
  refine HG.out.mono ?_
  rintro e w3 ⟨rfl, hb3⟩
  have d0' := Ext.at_ hb3 (Ext.at_ hx2 d0)
  have d1' := Ext.at_ hb3 (Ext.at_ hx2 d1)
  have d2' := Ext.at_ hb3 (Ext.at_ hx2 d2)
  have hpb := (hpr.below hx2 (Nat.le_refl _)).below hb3 (Nat.le_refl _)
  have hB3 : Below W.heap.size W w3 := (hB1.trans (hx2.mono hB1.size)).trans (hb3.mono (Nat.le_trans hB1.size hx2.size))
  have hlt : W.heap.size < w3.heap.size := World.block_lt_of_cell? w3 _ d0'
  clear d0 d1 d2 hpr hx2 hb3 hB1 hvr hr HG
  go_wp2_with fail
  obtain ⟨wB, hwB⟩ : ∃ wB, wB = ((w3.alloc (.cells #[.string u, .int .i64 s, .int .i64 1] 23)).alloc (.cells #[.string o, .int .i64 s, .int .i64 1] 23)) := ⟨_, rfl⟩
  rw [← hwB]
  have d0 : wB.cell? ⟨W.heap.size, 0, none⟩ = some (.string u) := by rw [hwB]; go_simp
  have d1 : wB.cell? ⟨W.heap.size, 1, none⟩ = some (.int .i64 s) := by rw [hwB]; go_simp
  have d2 : wB.cell? ⟨W.heap.size, 2, none⟩ = some (.int .i64 1) := by rw [hwB]; go_simp
  have j0 : wB.cell? ⟨w3.heap.size, 0, none⟩ = some (.string u) := by rw [hwB]; go_simp
  have j1 : wB.cell? ⟨w3.heap.size, 1, none⟩ = some (.int .i64 s) := by rw [hwB]; go_simp
  have j2 : wB.cell? ⟨w3.heap.size, 2, none⟩ = some (.int .i64 1) := by rw [hwB]; go_simp
  have o0 : wB.cell? ⟨w3.heap.size + 1, 0, none⟩ = some (.string o) := by rw [hwB]; go_simp
  have o1 : wB.cell? ⟨w3.heap.size + 1, 1, none⟩ = some (.int .i64 s) := by rw [hwB]; go_simp
  have o2 : wB.cell? ⟨w3.heap.size + 1, 2, none⟩ = some (.int .i64 1) := by rw [hwB]; go_simp
  have hal : Below w3.heap.size w3 wB := by rw [hwB]; exact ((Below.refl _ _).alloc (Nat.le_refl _) _).alloc (by simp) _
  have hB : Below W.heap.size W wB := hB3.trans (hal.mono hB3.size)
  replace hpb := (hpb.below hal (Nat.le_refl _)).drew
  clear hwB d0' d1' d2' hal
  have hi := HI.out
  obtain ⟨eqo, heq⟩ : ∃ b, b = (o.toList == u.toList) := ⟨_, rfl⟩
  have he2 : (putK o.data.toList s 1 == pk) = eqo := by
    rw [heq, Bool.eq_iff_iff, beq_iff_eq, beq_iff_eq, toList_data, toList_data]
    exact hi
  have he1 := heq.symm
  clear hi heq HI HB HPK
  refine wp_region_plan [(true, 0), (true, 1), (true, 2), (true, 3), (true, 4), (true, 5), (true, 6), (true, 7), (true, 8), (true, 9), (true, 10), (true, 11), (true, 12), (true, 13), (true, 16), (true, 17), (true, 19), (true, 20), (true, 21), (false, 14), (true, 15), (true, 18), (true, 22), (true, 23), (true, 24), (false, 25), (true, 26), (true, 27)] (by kernel_rfl) (by kernel_rfl) (by kernel_rfl) (by kernel_rfl) (by kernel_rfl) ?_
  simp only [planO, List.drop_succ_cons, List.drop_zero]
  refine PlanO.take (v := ?vfalse0) (by kernel_rfl) ?yfalse0 ?rfalse0
  case yfalse0 => (intro wz hz; go_simp; try with_reducible rfl)
  (try simp only [Act.put, List.setIfInBounds_toArray, List.set_cons_zero, List.set_cons_succ])
  refine PlanO.take (v := ?vfalse1) (by kernel_rfl) ?yfalse1 ?rfalse1
  case yfalse1 => (intro wz hz; go_simp; try with_reducible rfl)
  (try simp only [Act.put, List.setIfInBounds_toArray, List.set_cons_zero, List.set_cons_succ])
  refine PlanO.take (v := ?vfalse2) (by kernel_rfl) ?yfalse2 ?rfalse2
  case yfalse2 => (intro wz hz; have cj0 := Ext.at_ hz j0; have cj1 := Ext.at_ hz j1; have cj2 := Ext.at_ hz j2; go_simp; try with_reducible rfl)
  (try simp only [Act.put, List.setIfInBounds_toArray, List.set_cons_zero, List.set_cons_succ])
  refine PlanO.take (v := ?vfalse3) (by kernel_rfl) ?yfalse3 ?rfalse3
  case yfalse3 => (intro wz hz; have cd0 := Ext.at_ hz d0; have cd1 := Ext.at_ hz d1; have cd2 := Ext.at_ hz d2; go_simp; try with_reducible rfl)
  (try simp only [Act.put, List.setIfInBounds_toArray, List.set_cons_zero, List.set_cons_succ])
  refine PlanO.take (v := ?vfalse4) (by kernel_rfl) ?yfalse4 ?rfalse4
  case yfalse4 => (intro wz hz; go_simp; try with_reducible rfl)
  (try simp only [Act.put, List.setIfInBounds_toArray, List.set_cons_zero, List.set_cons_succ])
  refine PlanO.take (v := ?vfalse5) (by kernel_rfl) ?yfalse5 ?rfalse5
  case yfalse5 => (intro wz hz; go_simp; try with_reducible rfl)
  (try simp only [Act.put, List.setIfInBounds_toArray, List.set_cons_zero, List.set_cons_succ])
  refine PlanO.take (v := ?vfalse6) (by kernel_rfl) ?yfalse6 ?rfalse6
  case yfalse6 => (intro wz hz; go_simp; try with_reducible rfl)
  (try simp only [Act.put, List.setIfInBounds_toArray, List.set_cons_zero, List.set_cons_succ])
  refine PlanO.take (v := ?vfalse7) (by kernel_rfl) ?yfalse7 ?rfalse7
  case yfalse7 => (intro wz hz; go_simp; try with_reducible rfl)
  (try simp only [Act.put, List.setIfInBounds_toArray, List.set_cons_zero, List.set_cons_succ])
  refine PlanO.take (v := ?vfalse8) (by kernel_rfl) ?yfalse8 ?rfalse8
  case yfalse8 => (intro wz hz; go_simp; try with_reducible rfl)
  (try simp only [Act.put, List.setIfInBounds_toArray, List.set_cons_zero, List.set_cons_succ])
  refine PlanO.take (v := ?vfalse9) (by kernel_rfl) ?yfalse9 ?rfalse9
  case yfalse9 => (intro wz hz; go_simp; try with_reducible rfl)
  (try simp only [Act.put, List.setIfInBounds_toArray, List.set_cons_zero, List.set_cons_succ])
  refine PlanO.take (v := ?vfalse10) (by kernel_rfl) ?yfalse10 ?rfalse10
  case yfalse10 => (intro wz hz; go_simp; try with_reducible rfl)
  (try simp only [Act.put, List.setIfInBounds_toArray, List.set_cons_zero, List.set_cons_succ])
  refine PlanO.take (v := ?vfalse11) (by kernel_rfl) ?yfalse11 ?rfalse11
  case yfalse11 => (intro wz hz; go_simp; try with_reducible rfl)
  (try simp only [Act.put, List.setIfInBounds_toArray, List.set_cons_zero, List.set_cons_succ])
  refine PlanO.take (v := ?vfalse12) (by kernel_rfl) ?yfalse12 ?rfalse12
  case yfalse12 => (intro wz hz; go_simp; try with_reducible rfl)
  (try simp only [Act.put, List.setIfInBounds_toArray, List.set_cons_zero, List.set_cons_succ])
  refine PlanO.take (v := ?vfalse13) (by kernel_rfl) ?yfalse13 ?rfalse13
  case yfalse13 => (intro wz hz; have co0 := Ext.at_ hz o0; have co1 := Ext.at_ hz o1; have co2 := Ext.at_ hz o2; go_simp; try with_reducible rfl)
  (try simp only [Act.put, List.setIfInBounds_toArray, List.set_cons_zero, List.set_cons_succ])
  refine PlanO.take (v := ?vfalse16) (by kernel_rfl) ?yfalse16 ?rfalse16
  case yfalse16 => (intro wz hz; go_simp; try with_reducible rfl)
  (try simp only [Act.put, List.setIfInBounds_toArray, List.set_cons_zero, List.set_cons_succ])
  refine PlanO.take (v := ?vfalse17) (by kernel_rfl) ?yfalse17 ?rfalse17
  case yfalse17 => (intro wz hz; have hcv := rdB_convert (P := Try.prog) (hpb.below hz (Nat.le_refl _)) 25 5 9 Try.underlying25 Try.underlying5 Try.underlying9; go_simp; try with_reducible rfl)
  (try simp only [Act.put, List.setIfInBounds_toArray, List.set_cons_zero, List.set_cons_succ])
  refine PlanO.take (v := ?vfalse19) (by kernel_rfl) ?yfalse19 ?rfalse19
  case yfalse19 => (intro wz hz; go_simp; try with_reducible rfl)
  (try simp only [Act.put, List.setIfInBounds_toArray, List.set_cons_zero, List.set_cons_succ])
  refine PlanO.take (v := ?vfalse20) (by kernel_rfl) ?yfalse20 ?rfalse20
  case yfalse20 => (intro wz hz; go_simp; try with_reducible rfl)
  (try simp only [Act.put, List.setIfInBounds_toArray, List.set_cons_zero, List.set_cons_succ])
  refine PlanO.take (v := .bool eqo) (by kernel_rfl) ?yfalse21 ?rfalse21
  case yfalse21 => (intro wz hz; go_simp; try with_reducible rfl)
  (try simp only [Act.put, List.setIfInBounds_toArray, List.set_cons_zero, List.set_cons_succ])
  refine PlanO.exec (fun K hK => ?_)
  go_simp
  go_at_call 15
  refine (kput_any o s 1 (by unfold maxLen; omega) _).mono ?_
  rintro e v1 ⟨p2, rfl, ho2, hc1⟩
  have hr2 := ho2.read
  clear ho2
  have hE1 : Ext wB.drew v1 := hc1
  go_wp2_with fail
  refine hK.out _ _ hc1 ?_
  clear hK K
  (try simp only [Act.put, List.setIfInBounds_toArray, List.set_cons_zero, List.set_cons_succ])
  refine PlanO.take (v := ?vfalse15) (by kernel_rfl) ?yfalse15 ?rfalse15
  case yfalse15 => (intro wz hz; have hcv := rdB_convert (P := Try.prog) (hr2.below hz (Nat.le_refl _)) 25 5 9 Try.underlying25 Try.underlying5 Try.underlying9; go_simp; try with_reducible rfl)
  (try simp only [Act.put, List.setIfInBounds_toArray, List.set_cons_zero, List.set_cons_succ])
  refine PlanO.take (v := .bool eqo) (by kernel_rfl) ?yfalse18 ?rfalse18
  case yfalse18 => (intro wz hz; go_simp; try with_reducible rfl)
  (try simp only [Act.put, List.setIfInBounds_toArray, List.set_cons_zero, List.set_cons_succ])
  refine PlanO.take (v := .bool true) (by kernel_rfl) ?yfalse22 ?rfalse22
  case yfalse22 => (intro wz hz; go_simp; try with_reducible rfl)
  (try simp only [Act.put, List.setIfInBounds_toArray, List.set_cons_zero, List.set_cons_succ])
  refine PlanO.take (v := ?vfalse23) (by kernel_rfl) ?yfalse23 ?rfalse23
  case yfalse23 => (intro wz hz; go_simp; try with_reducible rfl)
  (try simp only [Act.put, List.setIfInBounds_toArray, List.set_cons_zero, List.set_cons_succ])
  refine PlanO.take (v := ?vfalse24) (by kernel_rfl) ?yfalse24 ?rfalse24
  case yfalse24 => (intro wz hz; go_simp; try with_reducible rfl)
  (try simp only [Act.put, List.setIfInBounds_toArray, List.set_cons_zero, List.set_cons_succ])
  refine PlanO.exec (fun K hK => ?_)
  go_simp
  go_at_call 6
  refine (awake2_any _).mono ?_
  rintro e v2 ⟨rfl, hc2⟩
  have hE2 : Ext wB.drew v2 := Ext.trans hE1 hc2
  go_wp2_with fail
  refine hK.out _ _ hc2 ?_
  clear hK K
  (try simp only [Act.put, List.setIfInBounds_toArray, List.set_cons_zero, List.set_cons_succ])
  refine PlanO.take (v := ?vfalse26) (by kernel_rfl) ?yfalse26 ?rfalse26
  case yfalse26 => (intro wz hz; go_simp; try with_reducible rfl)
  (try simp only [Act.put, List.setIfInBounds_toArray, List.set_cons_zero, List.set_cons_succ])
  refine PlanO.take (v := ?vfalse27) (by kernel_rfl) ?yfalse27 ?rfalse27
  case yfalse27 => (intro wz hz; go_simp; try with_reducible rfl)
  (try simp only [Act.put, List.setIfInBounds_toArray, List.set_cons_zero, List.set_cons_succ])
  refine PlanO.done (NoPanic.normal ?_)
  go_wp2
  go_ret
  exact ⟨rfl, hB.trans ((below_draw hE2).mono hB.size)⟩

set_option maxRecDepth 100000 in
set_option maxHeartbeats 8000000 in
set_option linter.unusedSimpArgs false in
theorem keyBack_true (u : ByteArray) (q : Int) (o : ByteArray) (v : Value) (l : List UInt8) (W : World) (hq : 0 ≤ q ∧ q ≤ 18446744073709551615) (hv : RdB W v l)
    (g1 : ¬ (64 : Int) < (u.size : Int)) (g2 : ¬ (64 : Int) < (o.size : Int)) (g3 : ¬ (100 : Int) < (l.length : Int)) :
    Calls Try.prog 5 #[.string u, .int .u64 q, .bool true, .string o, v] W fun e w' => e = .returned (.bool true) ∧ Below W.heap.size W w' := by
  obtain ⟨va, vc, rfl, hvc, hvm⟩ := hv.form
  unfold maxLen at hvm
  have hs0 : 0 ≤ q / 2048 := by omega
  have hs1 : q / 2048 ≤ 9007199254740991 := by omega
  have hmu : mayB u.data.toList (q / 2048) 2 = true := mayB_mk (by rw [str_len]; omega) hs0 (by omega) (by omega)
  have hmo : mayB o.data.toList (q / 2048) 2 = true := mayB_mk (by rw [str_len]; omega) hs0 (by omega) (by omega)
  have HB := Lib.hid (keyAt_back hmu l)
  have HI := Lib.hid (putK_inj hmu hmo)
  have hlp := putK_length hmu
  clear hmu hmo
  go_enter Try.func5, Try.ntmps5
  go_wp2_with fail
  generalize q / 2048 = s at *
  refine (kput_any u s 2 (by unfold maxLen; omega) _).mono ?_
  rintro e w1 ⟨p, rfl, hp, hb1⟩
  have d0 : w1.cell? ⟨W.heap.size, 0, none⟩ = some (.string u) := (hb1.cell (p := ⟨W.heap.size, 0, none⟩) (by simp)).trans (by go_simp)
  have d1 : w1.cell? ⟨W.heap.size, 1, none⟩ = some (.int .i64 s) := (hb1.cell (p := ⟨W.heap.size, 1, none⟩) (by simp)).trans (by go_simp)
  have d2 : w1.cell? ⟨W.heap.size, 2, none⟩ = some (.int .i64 2) := (hb1.cell (p := ⟨W.heap.size, 2, none⟩) (by simp)).trans (by go_simp)
  have hB1 : Below W.heap.size W w1 := ((Below.refl _ _).alloc (Nat.le_refl _) _).trans (hb1.mono (by simp))
  have hpr := hp.read
  have hvr := hv.below hB1 (Nat.le_refl _)
  clear hp hb1 hv
  generalize hpk : putK u.data.toList s 2 = pk at *
  obtain ⟨pa, pc, rfl, hpc1, hpc2⟩ := hpr.form
  unfold maxLen at hpc2
  have hal : Below w1.heap.size w1 (w1.alloc (.cells #[] 5)) := (Below.refl _ _).alloc (Nat.le_refl _) _
  have hn1 : ([] : List UInt8).length + pk.length ≤ 140737488355328 := by simp; omega
  have hn2 : pk.length + l.length ≤ 140737488355328 := by omega
  have HPK := Lib.hid hpk
  clear hpk
  go_wp2_with (at_builtin; refine wpList_append_bytes rfl (.tmp 41) (.tmp 42) 25 rfl w1.heap.size 5 Try.underlying25 info_u8 _ _ [] pk rfl rfl (OwnB.made w1 _ _ (Nat.le_refl _)) (hpr.below hal (Nat.le_refl _)) hal.size hn1 ?_)
  intro x1 u1 ho1 hk1
  replace ho1 : OwnB u1 w1.heap.size 5 x1 pk := ho1
  have hx1 := hk1 w1.heap.size w1 (Nat.le_refl _) hal
  go_wp2_with (at_builtin; refine wpList_append_bytes rfl (.tmp 43) (.tmp 44) 25 rfl w1.heap.size 5 Try.underlying25 info_u8 _ _ pk l rfl rfl ho1 (hvr.below hx1 (Nat.le_refl _)) hx1.size hn2 ?_)
  intro x2 u2 ho2 hk2
  have hx2 := hk2 w1.heap.size w1 (Nat.le_refl _) hx1
  have hr := ho2.read
  clear hk1 hk2 ho1 ho2 hx1 hn1 hn2 hal
  have hg := kget_any x2 (pk ++ l) 0 u2 hr
  rw [HB.out] at hg
  have HG : Hid (Calls Try.prog 7 #[x2, .int .i64 0] u2 fun e w' => e = .returned (.tuple #[.agg #[.string u, .int .i64 s, .int .i64 2], .int .i64 pk.length, .bool true]) ∧ Below u2.heap.size u2 w') := Lib.hid hg
  clear hg
  go_wp2_with fail
  refine HG.out.mono ?_
  rintro e w3 ⟨rfl, hb3⟩
  have d0' := Ext.at_ hb3 (Ext.at_ hx2 d0)
  have d1' := Ext.at_ hb3 (Ext.at_ hx2 d1)
  have d2' := Ext.at_ hb3 (Ext.at_ hx2 d2)
  have hpb := (hpr.below hx2 (Nat.le_refl _)).below hb3 (Nat.le_refl _)
  have hB3 : Below W.heap.size W w3 := (hB1.trans (hx2.mono hB1.size)).trans (hb3.mono (Nat.le_trans hB1.size hx2.size))
  have hlt : W.heap.size < w3.heap.size := World.block_lt_of_cell? w3 _ d0'
  clear d0 d1 d2 hpr hx2 hb3 hB1 hvr hr HG
  go_wp2_with fail
  obtain ⟨wB, hwB⟩ : ∃ wB, wB = ((w3.alloc (.cells #[.string u, .int .i64 s, .int .i64 2] 23)).alloc (.cells #[.string o, .int .i64 s, .int .i64 2] 23)) := ⟨_, rfl⟩
  rw [← hwB]
  have d0 : wB.cell? ⟨W.heap.size, 0, none⟩ = some (.string u) := by rw [hwB]; go_simp
  have d1 : wB.cell? ⟨W.heap.size, 1, none⟩ = some (.int .i64 s) := by rw [hwB]; go_simp
  have d2 : wB.cell? ⟨W.heap.size, 2, none⟩ = some (.int .i64 2) := by rw [hwB]; go_simp
  have j0 : wB.cell? ⟨w3.heap.size, 0, none⟩ = some (.string u) := by rw [hwB]; go_simp
  have j1 : wB.cell? ⟨w3.heap.size, 1, none⟩ = some (.int .i64 s) := by rw [hwB]; go_simp
  have j2 : wB.cell? ⟨w3.heap.size, 2, none⟩ = some (.int .i64 2) := by rw [hwB]; go_simp
  have o0 : wB.cell? ⟨w3.heap.size + 1, 0, none⟩ = some (.string o) := by rw [hwB]; go_simp
  have o1 : wB.cell? ⟨w3.heap.size + 1, 1, none⟩ = some (.int .i64 s) := by rw [hwB]; go_simp
  have o2 : wB.cell? ⟨w3.heap.size + 1, 2, none⟩ = some (.int .i64 2) := by rw [hwB]; go_simp
  have hal : Below w3.heap.size w3 wB := by rw [hwB]; exact ((Below.refl _ _).alloc (Nat.le_refl _) _).alloc (by simp) _
  have hB : Below W.heap.size W wB := hB3.trans (hal.mono hB3.size)
  replace hpb := (hpb.below hal (Nat.le_refl _)).drew
  clear hwB d0' d1' d2' hal
  have hi := HI.out
  obtain ⟨eqo, heq⟩ : ∃ b, b = (o.toList == u.toList) := ⟨_, rfl⟩
  have he2 : (putK o.data.toList s 2 == pk) = eqo := by
    rw [heq, Bool.eq_iff_iff, beq_iff_eq, beq_iff_eq, toList_data, toList_data]
    exact hi
  have he1 := heq.symm
  clear hi heq HI HB HPK
  refine wp_region_plan [(true, 0), (true, 1), (true, 2), (true, 3), (true, 4), (true, 5), (true, 6), (true, 7), (true, 8), (true, 9), (true, 10), (true, 11), (true, 12), (true, 13), (true, 16), (true, 17), (true, 19), (true, 20), (true, 21), (false, 14), (true, 15), (true, 18), (true, 22), (true, 23), (true, 24), (false, 25), (true, 26), (true, 27)] (by kernel_rfl) (by kernel_rfl) (by kernel_rfl) (by kernel_rfl) (by kernel_rfl) ?_
  simp only [planO, List.drop_succ_cons, List.drop_zero]
  refine PlanO.take (v := ?vtrue0) (by kernel_rfl) ?ytrue0 ?rtrue0
  case ytrue0 => (intro wz hz; go_simp; try with_reducible rfl)
  (try simp only [Act.put, List.setIfInBounds_toArray, List.set_cons_zero, List.set_cons_succ])
  refine PlanO.take (v := ?vtrue1) (by kernel_rfl) ?ytrue1 ?rtrue1
  case ytrue1 => (intro wz hz; go_simp; try with_reducible rfl)
  (try simp only [Act.put, List.setIfInBounds_toArray, List.set_cons_zero, List.set_cons_succ])
  refine PlanO.take (v := ?vtrue2) (by kernel_rfl) ?ytrue2 ?rtrue2
  case ytrue2 => (intro wz hz; have cj0 := Ext.at_ hz j0; have cj1 := Ext.at_ hz j1; have cj2 := Ext.at_ hz j2; go_simp; try with_reducible rfl)
  (try simp only [Act.put, List.setIfInBounds_toArray, List.set_cons_zero, List.set_cons_succ])
  refine PlanO.take (v := ?vtrue3) (by kernel_rfl) ?ytrue3 ?rtrue3
  case ytrue3 => (intro wz hz; have cd0 := Ext.at_ hz d0; have cd1 := Ext.at_ hz d1; have cd2 := Ext.at_ hz d2; go_simp; try with_reducible rfl)
  (try simp only [Act.put, List.setIfInBounds_toArray, List.set_cons_zero, List.set_cons_succ])
  refine PlanO.take (v := ?vtrue4) (by kernel_rfl) ?ytrue4 ?rtrue4
  case ytrue4 => (intro wz hz; go_simp; try with_reducible rfl)
  (try simp only [Act.put, List.setIfInBounds_toArray, List.set_cons_zero, List.set_cons_succ])
  refine PlanO.take (v := ?vtrue5) (by kernel_rfl) ?ytrue5 ?rtrue5
  case ytrue5 => (intro wz hz; go_simp; try with_reducible rfl)
  (try simp only [Act.put, List.setIfInBounds_toArray, List.set_cons_zero, List.set_cons_succ])
  refine PlanO.take (v := ?vtrue6) (by kernel_rfl) ?ytrue6 ?rtrue6
  case ytrue6 => (intro wz hz; go_simp; try with_reducible rfl)
  (try simp only [Act.put, List.setIfInBounds_toArray, List.set_cons_zero, List.set_cons_succ])
  refine PlanO.take (v := ?vtrue7) (by kernel_rfl) ?ytrue7 ?rtrue7
  case ytrue7 => (intro wz hz; go_simp; try with_reducible rfl)
  (try simp only [Act.put, List.setIfInBounds_toArray, List.set_cons_zero, List.set_cons_succ])
  refine PlanO.take (v := ?vtrue8) (by kernel_rfl) ?ytrue8 ?rtrue8
  case ytrue8 => (intro wz hz; go_simp; try with_reducible rfl)
  (try simp only [Act.put, List.setIfInBounds_toArray, List.set_cons_zero, List.set_cons_succ])
  refine PlanO.take (v := ?vtrue9) (by kernel_rfl) ?ytrue9 ?rtrue9
  case ytrue9 => (intro wz hz; go_simp; try with_reducible rfl)
  (try simp only [Act.put, List.setIfInBounds_toArray, List.set_cons_zero, List.set_cons_succ])
  refine PlanO.take (v := ?vtrue10) (by kernel_rfl) ?ytrue10 ?rtrue10
  case ytrue10 => (intro wz hz; go_simp; try with_reducible rfl)
  (try simp only [Act.put, List.setIfInBounds_toArray, List.set_cons_zero, List.set_cons_succ])
  refine PlanO.take (v := ?vtrue11) (by kernel_rfl) ?ytrue11 ?rtrue11
  case ytrue11 => (intro wz hz; go_simp; try with_reducible rfl)
  (try simp only [Act.put, List.setIfInBounds_toArray, List.set_cons_zero, List.set_cons_succ])
  refine PlanO.take (v := ?vtrue12) (by kernel_rfl) ?ytrue12 ?rtrue12
  case ytrue12 => (intro wz hz; go_simp; try with_reducible rfl)
  (try simp only [Act.put, List.setIfInBounds_toArray, List.set_cons_zero, List.set_cons_succ])
  refine PlanO.take (v := ?vtrue13) (by kernel_rfl) ?ytrue13 ?rtrue13
  case ytrue13 => (intro wz hz; have co0 := Ext.at_ hz o0; have co1 := Ext.at_ hz o1; have co2 := Ext.at_ hz o2; go_simp; try with_reducible rfl)
  (try simp only [Act.put, List.setIfInBounds_toArray, List.set_cons_zero, List.set_cons_succ])
  refine PlanO.take (v := ?vtrue16) (by kernel_rfl) ?ytrue16 ?rtrue16
  case ytrue16 => (intro wz hz; go_simp; try with_reducible rfl)
  (try simp only [Act.put, List.setIfInBounds_toArray, List.set_cons_zero, List.set_cons_succ])
  refine PlanO.take (v := ?vtrue17) (by kernel_rfl) ?ytrue17 ?rtrue17
  case ytrue17 => (intro wz hz; have hcv := rdB_convert (P := Try.prog) (hpb.below hz (Nat.le_refl _)) 25 5 9 Try.underlying25 Try.underlying5 Try.underlying9; go_simp; try with_reducible rfl)
  (try simp only [Act.put, List.setIfInBounds_toArray, List.set_cons_zero, List.set_cons_succ])
  refine PlanO.take (v := ?vtrue19) (by kernel_rfl) ?ytrue19 ?rtrue19
  case ytrue19 => (intro wz hz; go_simp; try with_reducible rfl)
  (try simp only [Act.put, List.setIfInBounds_toArray, List.set_cons_zero, List.set_cons_succ])
  refine PlanO.take (v := ?vtrue20) (by kernel_rfl) ?ytrue20 ?rtrue20
  case ytrue20 => (intro wz hz; go_simp; try with_reducible rfl)
  (try simp only [Act.put, List.setIfInBounds_toArray, List.set_cons_zero, List.set_cons_succ])
  refine PlanO.take (v := .bool eqo) (by kernel_rfl) ?ytrue21 ?rtrue21
  case ytrue21 => (intro wz hz; go_simp; try with_reducible rfl)
  (try simp only [Act.put, List.setIfInBounds_toArray, List.set_cons_zero, List.set_cons_succ])
  refine PlanO.exec (fun K hK => ?_)
  go_simp
  go_at_call 15
  refine (kput_any o s 2 (by unfold maxLen; omega) _).mono ?_
  rintro e v1 ⟨p2, rfl, ho2, hc1⟩
  have hr2 := ho2.read
  clear ho2
  have hE1 : Ext wB.drew v1 := hc1
  go_wp2_with fail
  refine hK.out _ _ hc1 ?_
  clear hK K
  (try simp only [Act.put, List.setIfInBounds_toArray, List.set_cons_zero, List.set_cons_succ])
  refine PlanO.take (v := ?vtrue15) (by kernel_rfl) ?ytrue15 ?rtrue15
  case ytrue15 => (intro wz hz; have hcv := rdB_convert (P := Try.prog) (hr2.below hz (Nat.le_refl _)) 25 5 9 Try.underlying25 Try.underlying5 Try.underlying9; go_simp; try with_reducible rfl)
  (try simp only [Act.put, List.setIfInBounds_toArray, List.set_cons_zero, List.set_cons_succ])
  refine PlanO.take (v := .bool eqo) (by kernel_rfl) ?ytrue18 ?rtrue18
  case ytrue18 => (intro wz hz; go_simp; try with_reducible rfl)
  (try simp only [Act.put, List.setIfInBounds_toArray, List.set_cons_zero, List.set_cons_succ])
  refine PlanO.take (v := .bool true) (by kernel_rfl) ?ytrue22 ?rtrue22
  case ytrue22 => (intro wz hz; go_simp; try with_reducible rfl)
  (try simp only [Act.put, List.setIfInBounds_toArray, List.set_cons_zero, List.set_cons_succ])
  refine PlanO.take (v := ?vtrue23) (by kernel_rfl) ?ytrue23 ?rtrue23
  case ytrue23 => (intro wz hz; go_simp; try with_reducible rfl)
  (try simp only [Act.put, List.setIfInBounds_toArray, List.set_cons_zero, List.set_cons_succ])
  refine PlanO.take (v := ?vtrue24) (by kernel_rfl) ?ytrue24 ?rtrue24
  case ytrue24 => (intro wz hz; go_simp; try with_reducible rfl)
  (try simp only [Act.put, List.setIfInBounds_toArray, List.set_cons_zero, List.set_cons_succ])
  refine PlanO.exec (fun K hK => ?_)
  go_simp
  go_at_call 6
  refine (awake2_any _).mono ?_
  rintro e v2 ⟨rfl, hc2⟩
  have hE2 : Ext wB.drew v2 := Ext.trans hE1 hc2
  go_wp2_with fail
  refine hK.out _ _ hc2 ?_
  clear hK K
  (try simp only [Act.put, List.setIfInBounds_toArray, List.set_cons_zero, List.set_cons_succ])
  refine PlanO.take (v := ?vtrue26) (by kernel_rfl) ?ytrue26 ?rtrue26
  case ytrue26 => (intro wz hz; go_simp; try with_reducible rfl)
  (try simp only [Act.put, List.setIfInBounds_toArray, List.set_cons_zero, List.set_cons_succ])
  refine PlanO.take (v := ?vtrue27) (by kernel_rfl) ?ytrue27 ?rtrue27
  case ytrue27 => (intro wz hz; go_simp; try with_reducible rfl)
  (try simp only [Act.put, List.setIfInBounds_toArray, List.set_cons_zero, List.set_cons_succ])
  refine PlanO.done (NoPanic.normal ?_)
  go_wp2
  go_ret
  exact ⟨rfl, hB.trans ((below_draw hE2).mono hB.size)⟩

set_option maxRecDepth 100000 in
theorem keyBack_walk (u : ByteArray) (q : Int) (del : Bool) (o : ByteArray) (v : Value) (l : List UInt8) (W : World) (_hu : u.size ≤ maxLen) (hq : (Lit.int .u64 q).wf = true) (_ho : o.size ≤ maxLen) (hv : RdB W v l) :
    Calls Try.prog 5 #[.string u, .int .u64 q, .bool del, .string o, v] W fun e w' => e = .returned (.bool true) ∧ Below W.heap.size W w' := by
  obtain ⟨va, vc, rfl, hvc, hvm⟩ := hv.form
  by_cases g1 : (64 : Int) < (u.size : Int)
  · go_enter Try.func5, Try.ntmps5
    go_wp2_with fail
    refine (awake2_any _).mono ?_
    rintro e w2 ⟨rfl, hb2⟩
    go_wp2
    go_ret
    exact ⟨rfl, hb2⟩
  by_cases g2 : (64 : Int) < (o.size : Int)
  · go_enter Try.func5, Try.ntmps5
    go_wp2_with fail
    refine (awake2_any _).mono ?_
    rintro e w2 ⟨rfl, hb2⟩
    go_wp2
    go_ret
    exact ⟨rfl, hb2⟩
  by_cases g3 : (100 : Int) < (l.length : Int)
  · go_enter Try.func5, Try.ntmps5
    go_wp2_with fail
    refine (awake2_any _).mono ?_
    rintro e w2 ⟨rfl, hb2⟩
    go_wp2
    go_ret
    exact ⟨rfl, hb2⟩
  cases del
  · exact keyBack_false u q o _ l W (bounds_u64 hq) hv g1 g2 g3
  · exact keyBack_true u q o _ l W (bounds_u64 hq) hv g1 g2 g3
end Go.Proofs.Ytmeddhjhdjgagaa
