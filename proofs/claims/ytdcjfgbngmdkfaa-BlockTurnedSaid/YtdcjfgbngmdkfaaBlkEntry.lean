/-
  Blocks: one entry as bytes, as the program tells it.
-/
import Derived.Test.YtdcjfgbngmdkfaaBlkRPut
import Derived.Test.YtdcjfgbngmdkfaaKeyPut
namespace Go.Proofs.Ytdcjfgbngmdkfaa
open Go.RowKit

theorem take_rest (u : ByteArray) (s : Nat) (hs : s ≤ u.size) : (u.extract s u.size).size ≤ u.size := by
  have := congrArg List.length (extract_drop u s)
  rw [size_list, List.length_drop, size_list] at this
  omega

set_option maxRecDepth 100000 in
set_option maxHeartbeats 1000000 in
theorem putEntry_any (u : ByteArray) (q k : Int) (v : ByteArray) (s : Nat) (hs : s ≤ u.size) (hm : Ent.may ⟨u, q, k, v⟩ = true) (w : World) :
    Calls Try.prog 23 #[.agg #[.string u, .int .i64 q, .int .i64 k, .string v], .int .i64 (s : Int)] w (RetB w.heap.size w (entB ⟨u, q, k, v⟩ s)) := by
  obtain ⟨m1, m2, m3, m4, m5⟩ := may_facts hm
  simp only at m1 m2 m3 m4 m5
  have su : u.size ≤ 64 := by rw [size_list] at m1; exact m1
  have sv : v.size ≤ 512 := by rw [size_list] at m5; exact m5
  have sr := take_rest u s hs
  have HX := Lib.hid (extract_drop u s)
  obtain ⟨nm, hnm⟩ : ∃ nm, numE ⟨u, q, k, v⟩ = nm := ⟨_, rfl⟩
  have HKP : Hid (∀ wz, Calls Try.prog 42 #[.agg #[.string (u.extract s u.size), .int .i64 q, .int .i64 k]] wz (RetB wz.heap.size wz (putT (u.data.toList.drop s) ++ putL nm))) := Lib.hid fun wz => by
    have := kput_yes (u.extract s u.size) q k (by omega) m2 m3 (by omega) (by omega) wz
    rw [HX.out] at this
    rw [← hnm]
    exact this
  have HVP : Hid (∀ wz, Calls Try.prog 43 #[.string v] wz (RetB wz.heap.size wz (putT v.data.toList))) := Lib.hid fun wz => putText_any v (by omega) wz
  have HLS := Lib.hid (putL_length s (by omega))
  have HLK : Hid ((putT (u.data.toList.drop s) ++ putL nm).length ≤ 200) := Lib.hid (by
    have h1 := putL_length nm (by rw [← hnm]; unfold numE; simp only; omega)
    have h2 := putT_le (u.data.toList.drop s) (by rw [List.length_drop, size_list]; omega)
    rw [List.length_drop, size_list] at h2
    rw [List.length_append]
    omega)
  have HLV : Hid ((putT v.data.toList).length ≤ 600) := Lib.hid (by have h2 := putT_le v.data.toList (by rw [size_list]; omega); rw [size_list] at h2; omega)
  have HEND : Hid (putL s ++ (putT (u.data.toList.drop s) ++ putL nm) ++ putT v.data.toList = entB ⟨u, q, k, v⟩ s) := Lib.hid (by unfold entB; rw [hnm]; simp only [List.append_assoc])
  have hs9 : (s : Int) ≤ 9223372036854775807 := by omega
  have hsu : (s : Int) ≤ (u.size : Int) := by omega
  clear m1 m5 hm sr hnm
  go_enter Try.func23, Try.ntmps23
  go_upto_region 3 with (fail)
  obtain ⟨w1, hw1⟩ : ∃ w1, w1 = ((w.alloc (.cells #[.string u, .int .i64 q, .int .i64 k, .string v] 36)).alloc (.cells #[.string (u.extract s u.size), .int .i64 q, .int .i64 k] 25)) := ⟨_, rfl⟩
  rw [← hw1]
  have hB : Below w.heap.size w w1 := by rw [hw1]; exact ((Below.refl _ _).alloc (Nat.le_refl _) _).alloc (by simp) _
  have d0 : w1.cell? ⟨w.heap.size + 1, 0, none⟩ = some (.string (u.extract s u.size)) := by rw [hw1]; go_simp
  have d1 : w1.cell? ⟨w.heap.size + 1, 1, none⟩ = some (.int .i64 q) := by rw [hw1]; go_simp
  have d2 : w1.cell? ⟨w.heap.size + 1, 2, none⟩ = some (.int .i64 k) := by rw [hw1]; go_simp
  have d3 : w1.cell? ⟨w.heap.size, 3, none⟩ = some (.string v) := by rw [hw1]; go_simp
  have HS1 := Lib.hid (show w.heap.size < w1.heap.size by rw [hw1]; simp; omega)
  clear hw1
  refine wp_region_plan [(true, 0), (true, 2), (false, 1), (false, 3), (false, 4), (true, 5)] (by kernel_rfl) (by kernel_rfl) (by kernel_rfl) (by kernel_rfl) (by kernel_rfl) ?_
  simp only [planO, List.drop_succ_cons, List.drop_zero]
  refine PlanO.take (v := ?v0) (by kernel_rfl) ?y0 ?r0
  case y0 => (intro wz hz; go_simp; try with_reducible rfl)
  (try simp only [Act.put, List.setIfInBounds_toArray, List.set_cons_zero, List.set_cons_succ])
  refine PlanO.take (v := .agg #[.string (u.extract s u.size), .int .i64 q, .int .i64 k]) (by kernel_rfl) ?y2 ?r2
  case y2 => (intro wz hz; have c0 := Ext.at_ hz d0; have c1 := Ext.at_ hz d1; have c2 := Ext.at_ hz d2; go_simp; try with_reducible rfl)
  (try simp only [Act.put, List.setIfInBounds_toArray, List.set_cons_zero, List.set_cons_succ])
  refine PlanO.keep (fun K hK => ?_)
  go_simp
  go_at_call 41
  refine (put_nat s hs9 _).mono ?_
  rintro e u1 ⟨p1, rfl, ho1, hb1⟩
  have hE1 : Ext w1.drew u1 := hb1
  go_wp2_with fail
  refine hK.out _ _ hb1 ?_
  clear hK K
  (try simp only [Act.put, List.setIfInBounds_toArray, List.set_cons_zero, List.set_cons_succ])
  refine PlanO.keep (fun K hK => ?_)
  go_simp
  go_at_call 42
  refine (HKP.out _).mono ?_
  rintro e u2 ⟨p2, rfl, ho2, hb2⟩
  have hr2 := ho2.read
  clear ho2
  have hE2 : Ext w1.drew u2 := Ext.trans hE1 hb2
  have ho1' := ho1.below hb2 (Nat.le_refl _)
  clear ho1
  go_wp2_with fail
  refine hK.out _ _ (hb2.mono hE1.size) ?_
  clear hK K
  (try simp only [Act.put, List.setIfInBounds_toArray, List.set_cons_zero, List.set_cons_succ])
  refine PlanO.keep (fun K hK => ?_)
  refine step_append_bytes rfl (.tmp 15) (.tmp 17) 23 rfl w1.drew.heap.size 5 Try.underlying23 info_u8 _ _ _ _ rfl rfl ho1' hr2 ?b1 ?b2 ?_
  case b1 => exact hE2.size
  case b2 => have := HLS.out; have := HLK.out; omega
  intro v' w' hown' hb'
  have hE3 : Ext w1.drew w' := hb' _ _ (Nat.le_refl _) hE2
  refine hK.out _ _ (hb' _ _ (Nat.le_refl _) (Below.refl _ _)) ?_
  clear hK K
  (try simp only [Act.put, List.setIfInBounds_toArray, List.set_cons_zero, List.set_cons_succ])
  refine PlanO.take (v := ?v5) (by kernel_rfl) ?y5 ?r5
  case y5 => (intro wz hz; go_simp; try with_reducible rfl)
  (try simp only [Act.put, List.setIfInBounds_toArray, List.set_cons_zero, List.set_cons_succ])
  refine PlanO.done (NoPanic.normal ?_)
  have x3 := Ext.at_ hE3 d3
  have hs3 : w1.drew.heap.size ≤ w'.heap.size := hE3.size
  go_wp2_with (first | (go_at_call 43; (refine (HVP.out _).mono ?_); rintro e u5 ⟨p5, rfl, ho5, hb5⟩; have hr5 := ho5.read; have ho6 := hown'.below hb5 (Nat.le_refl _); clear ho5) | (at_builtin; refine wpList_append_bytes rfl (.tmp 19) (.tmp 22) 23 rfl w1.drew.heap.size 5 Try.underlying23 info_u8 _ _ _ _ rfl rfl ho6 hr5 (Nat.le_trans hs3 hb5.size) (by have := HLS.out; have := HLK.out; have := HLV.out; simp only [List.length_append] at *; omega) ?ap))
  case ap =>
    intro v6 w6 hown6 hb6
    have h5 : Below w.heap.size w w6 := hb6 _ _ hB.size ((hB.trans ((below_draw hE3).mono hB.size)).trans (hb5.mono (Nat.le_trans hB.size hs3)))
    have HO6 : Hid (OwnB w6 w1.heap.size 5 v6 (entB ⟨u, q, k, v⟩ s)) := Lib.hid (by rw [← HEND.out]; simpa only [List.append_assoc] using hown6)
    have HB6 := Lib.hid h5
    have HSZ := Lib.hid hB.size
    clear hown6 h5 hb6
    go_wp2
    go_ret
    exact ⟨_, rfl, HO6.out.mono_B HSZ.out, HB6.out⟩
end Go.Proofs.Ytdcjfgbngmdkfaa
