/-
  What key.Put and the document's PutKey do, for every key.
-/
import Derived.Test.YtdcjfgbngmdkfaaKeyMay
import Derived.Test.YtdcjfgbngmdkfaaRefText
import Derived.Test.YtdcjfgbngmdkfaaRegion
namespace Go.Proofs.Ytdcjfgbngmdkfaa
open Go.RowKit

/-- The bytes of a key: none, if it may not be. -/
def putK (u : List UInt8) (s k : Int) : List UInt8 := bif mayB u s k then putT u ++ putL (2 * s + k - 1).toNat else []

theorem put_pos (n : Int) (h0 : 0 ≤ n) (h1 : n ≤ 9223372036854775807) (w : World) : Calls Try.prog 41 #[.int .i64 n] w (RetB w.heap.size w (putL n.toNat)) := by
  obtain ⟨m, rfl⟩ := Int.eq_ofNat_of_zero_le h0
  exact put_nat m h1 w

theorem rput_pos (n : Int) (h0 : 0 ≤ n) (h1 : n ≤ 9223372036854775807) (w : World) : Calls Try.prog 27 #[.int .i64 n] w (RetB w.heap.size w (putL n.toNat)) := by
  obtain ⟨m, rfl⟩ := Int.eq_ofNat_of_zero_le h0
  exact rput_nat m h1 w

theorem OwnB.mono_B {w : World} {B B' e : Nat} {v : Value} {l : List UInt8} (h : OwnB w B e v l) (hB : B' ≤ B) : OwnB w B' e v l := by
  refine ⟨h.1, ?_⟩
  rcases h.2 with h2 | ⟨g, cap, cur, rfl, h3, r⟩
  · exact .inl h2
  · exact .inr ⟨g, cap, cur, rfl, by omega, r⟩

set_option maxRecDepth 100000 in
theorem kput_no (u : ByteArray) (s k : Int) (hu : u.size ≤ maxLen) (h : mayB u.data.toList s k = false) (w : World) :
    Calls Try.prog 42 #[.agg #[.string u, .int .i64 s, .int .i64 k]] w (RetB w.heap.size w []) := by
  have hm := may_any u s k hu
  rw [h] at hm
  have HM := Lib.hid hm
  clear hm h
  go_enter Try.func42, Try.ntmps42
  go_wp2_with (go_at_call 54; refine (HM.out _).mono ?_; rintro e w1 ⟨rfl, hb⟩)
  go_ret
  exact ⟨_, rfl, OwnB.nil _ _ _, ((Below.refl _ _).alloc (Nat.le_refl _) _).trans (hb.mono (by simp))⟩

set_option maxRecDepth 100000 in
set_option maxHeartbeats 1000000 in
theorem kput_yes (u : ByteArray) (s k : Int) (hu : u.size ≤ 64) (h0 : 0 ≤ s) (h1 : s ≤ 9007199254740992) (hk0 : 1 ≤ k) (hk1 : k ≤ 2) (w : World) :
    Calls Try.prog 42 #[.agg #[.string u, .int .i64 s, .int .i64 k]] w (RetB w.heap.size w (putT u.data.toList ++ putL (2 * s + k - 1).toNat)) := by
  have hm := may_any u s k (by unfold maxLen; omega)
  rw [mayB_mk (by rw [str_len]; exact hu) h0 h1 (by omega)] at hm
  have HM := Lib.hid hm
  have HLP := Lib.hid (putL_length (2 * s + k - 1).toNat (by omega))
  have HLT : Hid ((putT u.data.toList).length ≤ 73) := Lib.hid (by have := putL_length u.size (by omega); unfold putT; rw [List.length_append, str_len]; omega)
  clear hm
  go_enter Try.func42, Try.ntmps42
  go_wp2_with (go_at_call 54; refine (HM.out _).mono ?_; rintro e w1 ⟨rfl, hb⟩)
  have d0 : w1.cell? ⟨w.heap.size, 0, none⟩ = some (.string u) := (hb.cell (p := ⟨w.heap.size, 0, none⟩) (by simp)).trans (by go_simp)
  have d1 : w1.cell? ⟨w.heap.size, 1, none⟩ = some (.int .i64 s) := (hb.cell (p := ⟨w.heap.size, 1, none⟩) (by simp)).trans (by go_simp)
  have d2 : w1.cell? ⟨w.heap.size, 2, none⟩ = some (.int .i64 k) := (hb.cell (p := ⟨w.heap.size, 2, none⟩) (by simp)).trans (by go_simp)
  have hB : Below w.heap.size w w1 := ((Below.refl _ _).alloc (Nat.le_refl _) _).trans (hb.mono (by simp))
  clear hb
  have e1 : IntKind.i64.wrap (2 * s) = 2 * s := IntWalk.i64_in _ (by omega)
  have e2 : IntKind.i64.wrap (2 * s + k) = 2 * s + k := IntWalk.i64_in _ (by omega)
  have e3 : IntKind.i64.wrap (2 * s + k - 1) = 2 * s + k - 1 := IntWalk.i64_in _ (by omega)
  refine wp_region_plan [(true, 0), (true, 1), (true, 3), (true, 4), (true, 5), (true, 6), (true, 7), (true, 8), (true, 9), (false, 2), (false, 10), (false, 11), (true, 12)] (by kernel_rfl) (by kernel_rfl) (by kernel_rfl) (by kernel_rfl) (by kernel_rfl) ?_
  simp only [planO, List.drop_succ_cons, List.drop_zero]
  refine PlanO.take (v := ?v0) (by kernel_rfl) ?y0 ?r0
  case y0 => (intro wz hz; go_simp; try with_reducible rfl)
  (try simp only [Act.put, List.setIfInBounds_toArray, List.set_cons_zero, List.set_cons_succ])
  refine PlanO.take (v := ?v1) (by kernel_rfl) ?y1 ?r1
  case y1 => (intro wz hz; have c0 := Ext.at_ hz d0; have c1 := Ext.at_ hz d1; have c2 := Ext.at_ hz d2; go_simp; try with_reducible rfl)
  (try simp only [Act.put, List.setIfInBounds_toArray, List.set_cons_zero, List.set_cons_succ])
  refine PlanO.take (v := ?v3) (by kernel_rfl) ?y3 ?r3
  case y3 => (intro wz hz; go_simp; try with_reducible rfl)
  (try simp only [Act.put, List.setIfInBounds_toArray, List.set_cons_zero, List.set_cons_succ])
  refine PlanO.take (v := ?v4) (by kernel_rfl) ?y4 ?r4
  case y4 => (intro wz hz; have c0 := Ext.at_ hz d0; have c1 := Ext.at_ hz d1; have c2 := Ext.at_ hz d2; go_simp; try with_reducible rfl)
  (try simp only [Act.put, List.setIfInBounds_toArray, List.set_cons_zero, List.set_cons_succ])
  refine PlanO.take (v := ?v5) (by kernel_rfl) ?y5 ?r5
  case y5 => (intro wz hz; go_simp; try with_reducible rfl)
  (try simp only [Act.put, List.setIfInBounds_toArray, List.set_cons_zero, List.set_cons_succ])
  refine PlanO.take (v := ?v6) (by kernel_rfl) ?y6 ?r6
  case y6 => (intro wz hz; go_simp; try with_reducible rfl)
  (try simp only [Act.put, List.setIfInBounds_toArray, List.set_cons_zero, List.set_cons_succ])
  refine PlanO.take (v := ?v7) (by kernel_rfl) ?y7 ?r7
  case y7 => (intro wz hz; have c0 := Ext.at_ hz d0; have c1 := Ext.at_ hz d1; have c2 := Ext.at_ hz d2; go_simp; try with_reducible rfl)
  (try simp only [Act.put, List.setIfInBounds_toArray, List.set_cons_zero, List.set_cons_succ])
  refine PlanO.take (v := ?v8) (by kernel_rfl) ?y8 ?r8
  case y8 => (intro wz hz; go_simp; try with_reducible rfl)
  (try simp only [Act.put, List.setIfInBounds_toArray, List.set_cons_zero, List.set_cons_succ])
  refine PlanO.take (v := ?v9) (by kernel_rfl) ?y9 ?r9
  case y9 => (intro wz hz; go_simp; try with_reducible rfl)
  (try simp only [Act.put, List.setIfInBounds_toArray, List.set_cons_zero, List.set_cons_succ])
  refine PlanO.keep (fun K hK => ?_)
  go_simp
  go_at_call 43
  refine (putText_any u (by omega) _).mono ?_
  rintro e u1 ⟨p1, rfl, ho1, hb1⟩
  have hE1 : Ext w1.drew u1 := hb1
  go_wp2_with fail
  refine hK.out _ _ hb1 ?_
  clear hK K
  (try simp only [Act.put, List.setIfInBounds_toArray, List.set_cons_zero, List.set_cons_succ])
  refine PlanO.keep (fun K hK => ?_)
  go_simp
  go_at_call 41
  refine (put_pos _ (by omega) (by omega) _).mono ?_
  rintro e u2 ⟨p2, rfl, ho2, hb2⟩
  have hr2 := ho2.read
  clear ho2
  have hE2 : Ext w1.drew u2 := Ext.trans hE1 hb2
  have ho1' := ho1.below hb2 (Nat.le_refl _)
  clear ho1
  go_wp2_with fail
  refine hK.out _ _ (hb2.mono hE1.size) ?_
  clear hK K
  (try simp only [Act.put, List.setIfInBounds_toArray, List.set_cons_zero, List.set_cons_succ])
  refine PlanO.keep (fun K hK => ?_)
  refine step_append_bytes rfl (.tmp 8) (.tmp 16) 23 rfl w1.drew.heap.size 5 Try.underlying23 info_u8 _ _ _ _ rfl rfl ho1' hr2 ?b1 ?b2 ?_
  case b1 => exact hE2.size
  case b2 => have := HLT.out; have := HLP.out; omega
  intro v' w' hown' hb'
  have hE3 : Ext w1.drew w' := hb' _ _ (Nat.le_refl _) hE2
  refine hK.out _ _ (hb' _ _ (Nat.le_refl _) (Below.refl _ _)) ?_
  clear hK K
  (try simp only [Act.put, List.setIfInBounds_toArray, List.set_cons_zero, List.set_cons_succ])
  refine PlanO.take (v := ?v12) (by kernel_rfl) ?y12 ?r12
  case y12 => (intro wz hz; go_simp; try with_reducible rfl)
  (try simp only [Act.put, List.setIfInBounds_toArray, List.set_cons_zero, List.set_cons_succ])
  refine PlanO.done (NoPanic.normal ?_)
  go_wp2
  go_ret
  exact ⟨_, rfl, hown'.mono_B (hB.size), hB.trans ((below_draw hE3).mono hB.size)⟩

theorem kput_any (u : ByteArray) (s k : Int) (hu : u.size ≤ maxLen) (w : World) : Calls Try.prog 42 #[.agg #[.string u, .int .i64 s, .int .i64 k]] w (RetB w.heap.size w (putK u.data.toList s k)) := by
  unfold putK
  cases h : mayB u.data.toList s k with
  | false => exact kput_no u s k hu h w
  | true =>
    have := mayB_true h
    rw [str_len] at this
    exact kput_yes u s k (by omega) (by omega) (by omega) (by omega) (by omega) w



end Go.Proofs.Ytdcjfgbngmdkfaa
