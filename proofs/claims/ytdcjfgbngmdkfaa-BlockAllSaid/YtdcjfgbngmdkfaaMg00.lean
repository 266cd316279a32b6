import Derived.Test.YtdcjfgbngmdkfaaBlkRPut
import Derived.Test.YtdcjfgbngmdkfaaKeyPut
import Derived.Test.YtdcjfgbngmdkfaaBlkShared

/-
  Blocks: one entry as bytes, as the program tells it.
-/
namespace Go.Proofs.Ytdcjfgbngmdkfaa
open Go.RowKit

theorem take_rest (u : ByteArray) (s : Nat) (hs : s ≤ u.size) : (u.extract s u.size).size ≤ u.size := by
  have := congrArg List.length (extract_drop u s)
  rw [size_list, List.length_drop, size_list] at this
  omega

set_option maxRecDepth 100000 in
set_option maxHeartbeats 1000000 in
theorem putEntry_any (u : ByteArray) (q k : Int) (v : ByteArray) (s : Nat) (hs : s ≤ u.size) (hm : Ent.may ⟨u, q, k, v⟩ = true) (w : World) :
    Calls Try.prog 23 #[.agg #[.string u, .int .i64 q, .int .i64 k, .string v], .int .i64 (s : Int)] w (RetB w.heap.size w (entB ⟨u, q, k, v⟩ s)) := by
  obtain ⟨m1, m2, m3, m4, m5⟩ := may_facts hm
  simp only at m1 m2 m3 m4 m5
  have su : u.size ≤ 64 := by rw [size_list] at m1; exact m1
  have sv : v.size ≤ 512 := by rw [size_list] at m5; exact m5
  have sr := take_rest u s hs
  have HX := Lib.hid (extract_drop u s)
  obtain ⟨nm, hnm⟩ : ∃ nm, numE ⟨u, q, k, v⟩ = nm := ⟨_, rfl⟩
  have HKP : Hid (∀ wz, Calls Try.prog 42 #[.agg #[.string (u.extract s u.size), .int .i64 q, .int .i64 k]] wz (RetB wz.heap.size wz (putT (u.data.toList.drop s) ++ putL nm))) := Lib.hid fun wz => by
    have := kput_yes (u.extract s u.size) q k (by omega) m2 m3 (by omega) (by omega) wz
    rw [HX.out] at this
    rw [← hnm]
    exact this
  have HVP : Hid (∀ wz, Calls Try.prog 43 #[.string v] wz (RetB wz.heap.size wz (putT v.data.toList))) := Lib.hid fun wz => putText_any v (by omega) wz
  have HLS := Lib.hid (putL_length s (by omega))
  have HLK : Hid ((putT (u.data.toList.drop s) ++ putL nm).length ≤ 200) := Lib.hid (by
    have h1 := putL_length nm (by rw [← hnm]; unfold numE; simp only; omega)
    have h2 := putT_le (u.data.toList.drop s) (by rw [List.length_drop, size_list]; omega)
    rw [List.length_drop, size_list] at h2
    rw [List.length_append]
    omega)
  have HLV : Hid ((putT v.data.toList).length ≤ 600) := Lib.hid (by have h2 := putT_le v.data.toList (by rw [size_list]; omega); rw [size_list] at h2; omega)
  have HEND : Hid (putL s ++ (putT (u.data.toList.drop s) ++ putL nm) ++ putT v.data.toList = entB ⟨u, q, k, v⟩ s) := Lib.hid (by unfold entB; rw [hnm]; simp only [List.append_assoc])
  have hs9 : (s : Int) ≤ 9223372036854775807 := by omega
  have hsu : (s : Int) ≤ (u.size : Int) := by omega
  clear m1 m5 hm sr hnm
  go_enter Try.func23, Try.ntmps23
  go_upto_region 3 with (fail)
  obtain ⟨w1, hw1⟩ : ∃ w1, w1 = ((w.alloc (.cells #[.string u, .int .i64 q, .int .i64 k, .string v] 36)).alloc (.cells #[.string (u.extract s u.size), .int .i64 q, .int .i64 k] 25)) := ⟨_, rfl⟩
  rw [← hw1]
  have hB : Below w.heap.size w w1 := by rw [hw1]; exact ((Below.refl _ _).alloc (Nat.le_refl _) _).alloc (by simp) _
  have d0 : w1.cell? ⟨w.heap.size + 1, 0, none⟩ = some (.string (u.extract s u.size)) := by rw [hw1]; go_simp
  have d1 : w1.cell? ⟨w.heap.size + 1, 1, none⟩ = some (.int .i64 q) := by rw [hw1]; go_simp
  have d2 : w1.cell? ⟨w.heap.size + 1, 2, none⟩ = some (.int .i64 k) := by rw [hw1]; go_simp
  have d3 : w1.cell? ⟨w.heap.size, 3, none⟩ = some (.string v) := by rw [hw1]; go_simp
  have HS1 := Lib.hid (show w.heap.size < w1.heap.size by rw [hw1]; simp; omega)
  clear hw1
  refine wp_region_plan [(true, 0), (true, 2), (false, 1), (false, 3), (false, 4), (true, 5)] (by kernel_rfl) (by kernel_rfl) (by kernel_rfl) (by kernel_rfl) (by kernel_rfl) ?_
  simp only [planO, List.drop_succ_cons, List.drop_zero]
  refine PlanO.take (v := ?v0) (by kernel_rfl) ?y0 ?r0
  case y0 => (intro wz hz; go_simp; try with_reducible rfl)
  (try simp only [Act.put, List.setIfInBounds_toArray, List.set_cons_zero, List.set_cons_succ])
  refine PlanO.take (v := .agg #[.string (u.extract s u.size), .int .i64 q, .int .i64 k]) (by kernel_rfl) ?y2 ?r2
  case y2 => (intro wz hz; have c0 := Ext.at_ hz d0; have c1 := Ext.at_ hz d1; have c2 := Ext.at_ hz d2; go_simp; try with_reducible rfl)
  (try simp only [Act.put, List.setIfInBounds_toArray, List.set_cons_zero, List.set_cons_succ])
  refine PlanO.keep (fun K hK => ?_)
  go_simp
  go_at_call 41
  refine (put_nat s hs9 _).mono ?_
  rintro e u1 ⟨p1, rfl, ho1, hb1⟩
  have hE1 : Ext w1.drew u1 := hb1
  go_wp2_with fail
  refine hK.out _ _ hb1 ?_
  clear hK K
  (try simp only [Act.put, List.setIfInBounds_toArray, List.set_cons_zero, List.set_cons_succ])
  refine PlanO.keep (fun K hK => ?_)
  go_simp
  go_at_call 42
  refine (HKP.out _).mono ?_
  rintro e u2 ⟨p2, rfl, ho2, hb2⟩
  have hr2 := ho2.read
  clear ho2
  have hE2 : Ext w1.drew u2 := Ext.trans hE1 hb2
  have ho1' := ho1.below hb2 (Nat.le_refl _)
  clear ho1
  go_wp2_with fail
  refine hK.out _ _ (hb2.mono hE1.size) ?_
  clear hK K
  (try simp only [Act.put, List.setIfInBounds_toArray, List.set_cons_zero, List.set_cons_succ])
  refine PlanO.keep (fun K hK => ?_)
  refine step_append_bytes rfl (.tmp 15) (.tmp 17) 23 rfl w1.drew.heap.size 5 Try.underlying23 info_u8 _ _ _ _ rfl rfl ho1' hr2 ?b1 ?b2 ?_
  case b1 => exact hE2.size
  case b2 => have := HLS.out; have := HLK.out; omega
  intro v' w' hown' hb'
  have hE3 : Ext w1.drew w' := hb' _ _ (Nat.le_refl _) hE2
  refine hK.out _ _ (hb' _ _ (Nat.le_refl _) (Below.refl _ _)) ?_
  clear hK K
  (try simp only [Act.put, List.setIfInBounds_toArray, List.set_cons_zero, List.set_cons_succ])
  refine PlanO.take (v := ?v5) (by kernel_rfl) ?y5 ?r5
  case y5 => (intro wz hz; go_simp; try with_reducible rfl)
  (try simp only [Act.put, List.setIfInBounds_toArray, List.set_cons_zero, List.set_cons_succ])
  refine PlanO.done (NoPanic.normal ?_)
  have x3 := Ext.at_ hE3 d3
  have hs3 : w1.drew.heap.size ≤ w'.heap.size := hE3.size
  go_wp2_with (first | (go_at_call 43; (refine (HVP.out _).mono ?_); rintro e u5 ⟨p5, rfl, ho5, hb5⟩; have hr5 := ho5.read; have ho6 := hown'.below hb5 (Nat.le_refl _); clear ho5) | (at_builtin; refine wpList_append_bytes rfl (.tmp 19) (.tmp 22) 23 rfl w1.drew.heap.size 5 Try.underlying23 info_u8 _ _ _ _ rfl rfl ho6 hr5 (Nat.le_trans hs3 hb5.size) (by have := HLS.out; have := HLK.out; have := HLV.out; simp only [List.length_append] at *; omega) ?ap))
  case ap =>
    intro v6 w6 hown6 hb6
    have h5 : Below w.heap.size w w6 := hb6 _ _ hB.size ((hB.trans ((below_draw hE3).mono hB.size)).trans (hb5.mono (Nat.le_trans hB.size hs3)))
    have HO6 : Hid (OwnB w6 w1.heap.size 5 v6 (entB ⟨u, q, k, v⟩ s)) := Lib.hid (by rw [← HEND.out]; simpa only [List.append_assoc] using hown6)
    have HB6 := Lib.hid h5
    have HSZ := Lib.hid hB.size
    clear hown6 h5 hb6
    go_wp2
    go_ret
    exact ⟨_, rfl, HO6.out.mono_B HSZ.out, HB6.out⟩
end Go.Proofs.Ytdcjfgbngmdkfaa

/-
  Blocks: how many bytes two texts begin with alike, as the program counts.
-/
namespace Go.Proofs.Ytdcjfgbngmdkfaa
open Go.RowKit

set_option maxRecDepth 100000 in
set_option maxHeartbeats 2000000 in
theorem common_any (a b : ByteArray) (ha : a.size ≤ maxLen) (w : World) :
    Calls Try.prog 22 #[.string a, .string b] w fun e w' => e = .returned (.int .i64 (comL a.data.toList b.data.toList : Int)) ∧ Below w.heap.size w w' := by
  have sa := size_list a
  have sb := size_list b
  unfold maxLen at ha
  obtain ⟨mn, hmn⟩ : ∃ mn : Int, min (a.size : Int) (b.size : Int) = mn := ⟨_, rfl⟩
  have hmn2 : (if b.size < a.size then (b.size : Int) else (a.size : Int)) = mn := by split <;> omega
  have hm1 : mn ≤ a.size ∧ mn ≤ b.size ∧ (mn = a.size ∨ mn = b.size) := by omega
  go_enter Try.func22, Try.ntmps22
  go_wp2
  go_loopw [5] (fun i wr => ∃ n : Nat, n ≤ a.size ∧ n ≤ b.size ∧ i = .int .i64 (n : Int) ∧ Hid (a.data.toList.take n = b.data.toList.take n) ∧ Hid (Below w.heap.size w wr)) (fun i _ => a.size - (intOf i).toNat)
  case atStart => exact ⟨0, Nat.zero_le _, Nat.zero_le _, rfl, Lib.hid rfl, Lib.hid (Below.refl _ _)⟩
  case round =>
    obtain ⟨n, hna, hnb, rfl, HT, HB⟩ := hrel
    by_cases g0 : (n : Int) < mn
    · have g1 : n < a.size := by omega
      have g2 : n < b.size := by omega
      obtain ⟨x, hx⟩ : ∃ x, a[n].toNat = x := ⟨_, rfl⟩
      obtain ⟨y, hy⟩ : ∃ y, b[n].toNat = y := ⟨_, rfl⟩
      have xa := getD_list a n g1
      have yb := getD_list b n g2
      by_cases hxy : x = y
      · have HN := Lib.hid (take_next (by omega) (by omega) HT.out (by rw [xa, yb]; exact UInt8.toNat_inj.1 (hx.trans (hxy.trans hy.symm))))
        clear xa yb
        go_upto_region 2 with (fail)
        refine wp_region_plan [(true, 0), (true, 1), (true, 2), (true, 3), (true, 4), (true, 5), (true, 6), (true, 7), (true, 8), (true, 9), (true, 10), (true, 11), (true, 12), (true, 13), (true, 14), (true, 15)] (by kernel_rfl) (by kernel_rfl) (by kernel_rfl) (by kernel_rfl) (by kernel_rfl) ?_
        simp only [planO, List.drop_succ_cons, List.drop_zero]
        refine PlanO.take (v := ?vC0) (by kernel_rfl) ?yC0 ?rC0
        case yC0 => (intro wz hz; go_simp; try with_reducible rfl)
        (try simp only [Act.put, List.setIfInBounds_toArray, List.set_cons_zero, List.set_cons_succ])
        refine PlanO.take (v := ?vC1) (by kernel_rfl) ?yC1 ?rC1
        case yC1 => (intro wz hz; go_simp; try with_reducible rfl)
        (try simp only [Act.put, List.setIfInBounds_toArray, List.set_cons_zero, List.set_cons_succ])
        refine PlanO.take (v := ?vC2) (by kernel_rfl) ?yC2 ?rC2
        case yC2 => (intro wz hz; go_simp; try with_reducible rfl)
        (try simp only [Act.put, List.setIfInBounds_toArray, List.set_cons_zero, List.set_cons_succ])
        refine PlanO.take (v := ?vC3) (by kernel_rfl) ?yC3 ?rC3
        case yC3 => (intro wz hz; go_simp; try with_reducible rfl)
        (try simp only [Act.put, List.setIfInBounds_toArray, List.set_cons_zero, List.set_cons_succ])
        refine PlanO.take (v := ?vC4) (by kernel_rfl) ?yC4 ?rC4
        case yC4 => (intro wz hz; go_simp; try with_reducible rfl)
        (try simp only [Act.put, List.setIfInBounds_toArray, List.set_cons_zero, List.set_cons_succ])
        refine PlanO.take (v := .int .i64 mn) (by kernel_rfl) ?yC5 ?rC5
        case yC5 => (intro wz hz; go_simp; try exact hmn2)
        (try simp only [Act.put, List.setIfInBounds_toArray, List.set_cons_zero, List.set_cons_succ])
        refine PlanO.take (v := .bool true) (by kernel_rfl) ?yC6 ?rC6
        case yC6 => (intro wz hz; go_simp; try simp; try omega)
        (try simp only [Act.put, List.setIfInBounds_toArray, List.set_cons_zero, List.set_cons_succ])
        refine PlanO.take (v := .bool true) (by kernel_rfl) ?yC7 ?rC7
        case yC7 => (intro wz hz; go_simp; try simp; try omega)
        (try simp only [Act.put, List.setIfInBounds_toArray, List.set_cons_zero, List.set_cons_succ])
        refine PlanO.take (v := ?vC8) (by kernel_rfl) ?yC8 ?rC8
        case yC8 => (intro wz hz; go_simp; try with_reducible rfl)
        (try simp only [Act.put, List.setIfInBounds_toArray, List.set_cons_zero, List.set_cons_succ])
        refine PlanO.take (v := ?vC9) (by kernel_rfl) ?yC9 ?rC9
        case yC9 => (intro wz hz; go_simp; try with_reducible rfl)
        (try simp only [Act.put, List.setIfInBounds_toArray, List.set_cons_zero, List.set_cons_succ])
        refine PlanO.take (v := .int .u8 (x : Int)) (by kernel_rfl) ?yC10 ?rC10
        case yC10 => (intro wz hz; go_simp; try simpa using hx)
        (try simp only [Act.put, List.setIfInBounds_toArray, List.set_cons_zero, List.set_cons_succ])
        refine PlanO.take (v := ?vC11) (by kernel_rfl) ?yC11 ?rC11
        case yC11 => (intro wz hz; go_simp; try with_reducible rfl)
        (try simp only [Act.put, List.setIfInBounds_toArray, List.set_cons_zero, List.set_cons_succ])
        refine PlanO.take (v := ?vC12) (by kernel_rfl) ?yC12 ?rC12
        case yC12 => (intro wz hz; go_simp; try with_reducible rfl)
        (try simp only [Act.put, List.setIfInBounds_toArray, List.set_cons_zero, List.set_cons_succ])
        refine PlanO.take (v := .int .u8 (y : Int)) (by kernel_rfl) ?yC13 ?rC13
        case yC13 => (intro wz hz; go_simp; try simpa using hy)
        (try simp only [Act.put, List.setIfInBounds_toArray, List.set_cons_zero, List.set_cons_succ])
        refine PlanO.take (v := .bool true) (by kernel_rfl) ?yC14 ?rC14
        case yC14 => (intro wz hz; go_simp; (try simp [hxy]))
        (try simp only [Act.put, List.setIfInBounds_toArray, List.set_cons_zero, List.set_cons_succ])
        refine PlanO.take (v := .bool true) (by kernel_rfl) ?yC15 ?rC15
        case yC15 => (intro wz hz; go_simp; try simp; try omega)
        (try simp only [Act.put, List.setIfInBounds_toArray, List.set_cons_zero, List.set_cons_succ])
        refine PlanO.done (NoPanic.normal ?_)
        go_wp2
        exact ⟨⟨n + 1, by omega, by omega, by go_num, HN, Lib.hid HB.out.drew⟩, by simp [intOf]; omega⟩
      · have HR := Lib.hid (comL_at a.data.toList b.data.toList n (by omega) (by omega) HT.out (.inr (.inr (by rw [xa, yb]; exact fun e => hxy (hx.symm.trans ((congrArg UInt8.toNat e).trans hy))))))
        clear xa yb
        go_upto_region 2 with (fail)
        refine wp_region_plan [(true, 0), (true, 1), (true, 2), (true, 3), (true, 4), (true, 5), (true, 6), (true, 7), (true, 8), (true, 9), (true, 10), (true, 11), (true, 12), (true, 13), (true, 14), (true, 15)] (by kernel_rfl) (by kernel_rfl) (by kernel_rfl) (by kernel_rfl) (by kernel_rfl) ?_
        simp only [planO, List.drop_succ_cons, List.drop_zero]
        refine PlanO.take (v := ?vD0) (by kernel_rfl) ?yD0 ?rD0
        case yD0 => (intro wz hz; go_simp; try with_reducible rfl)
        (try simp only [Act.put, List.setIfInBounds_toArray, List.set_cons_zero, List.set_cons_succ])
        refine PlanO.take (v := ?vD1) (by kernel_rfl) ?yD1 ?rD1
        case yD1 => (intro wz hz; go_simp; try with_reducible rfl)
        (try simp only [Act.put, List.setIfInBounds_toArray, List.set_cons_zero, List.set_cons_succ])
        refine PlanO.take (v := ?vD2) (by kernel_rfl) ?yD2 ?rD2
        case yD2 => (intro wz hz; go_simp; try with_reducible rfl)
        (try simp only [Act.put, List.setIfInBounds_toArray, List.set_cons_zero, List.set_cons_succ])
        refine PlanO.take (v := ?vD3) (by kernel_rfl) ?yD3 ?rD3
        case yD3 => (intro wz hz; go_simp; try with_reducible rfl)
        (try simp only [Act.put, List.setIfInBounds_toArray, List.set_cons_zero, List.set_cons_succ])
        refine PlanO.take (v := ?vD4) (by kernel_rfl) ?yD4 ?rD4
        case yD4 => (intro wz hz; go_simp; try with_reducible rfl)
        (try simp only [Act.put, List.setIfInBounds_toArray, List.set_cons_zero, List.set_cons_succ])
        refine PlanO.take (v := .int .i64 mn) (by kernel_rfl) ?yD5 ?rD5
        case yD5 => (intro wz hz; go_simp; try exact hmn2)
        (try simp only [Act.put, List.setIfInBounds_toArray, List.set_cons_zero, List.set_cons_succ])
        refine PlanO.take (v := .bool true) (by kernel_rfl) ?yD6 ?rD6
        case yD6 => (intro wz hz; go_simp; try simp; try omega)
        (try simp only [Act.put, List.setIfInBounds_toArray, List.set_cons_zero, List.set_cons_succ])
        refine PlanO.take (v := .bool true) (by kernel_rfl) ?yD7 ?rD7
        case yD7 => (intro wz hz; go_simp; try simp; try omega)
        (try simp only [Act.put, List.setIfInBounds_toArray, List.set_cons_zero, List.set_cons_succ])
        refine PlanO.take (v := ?vD8) (by kernel_rfl) ?yD8 ?rD8
        case yD8 => (intro wz hz; go_simp; try with_reducible rfl)
        (try simp only [Act.put, List.setIfInBounds_toArray, List.set_cons_zero, List.set_cons_succ])
        refine PlanO.take (v := ?vD9) (by kernel_rfl) ?yD9 ?rD9
        case yD9 => (intro wz hz; go_simp; try with_reducible rfl)
        (try simp only [Act.put, List.setIfInBounds_toArray, List.set_cons_zero, List.set_cons_succ])
        refine PlanO.take (v := .int .u8 (x : Int)) (by kernel_rfl) ?yD10 ?rD10
        case yD10 => (intro wz hz; go_simp; try simpa using hx)
        (try simp only [Act.put, List.setIfInBounds_toArray, List.set_cons_zero, List.set_cons_succ])
        refine PlanO.take (v := ?vD11) (by kernel_rfl) ?yD11 ?rD11
        case yD11 => (intro wz hz; go_simp; try with_reducible rfl)
        (try simp only [Act.put, List.setIfInBounds_toArray, List.set_cons_zero, List.set_cons_succ])
        refine PlanO.take (v := ?vD12) (by kernel_rfl) ?yD12 ?rD12
        case yD12 => (intro wz hz; go_simp; try with_reducible rfl)
        (try simp only [Act.put, List.setIfInBounds_toArray, List.set_cons_zero, List.set_cons_succ])
        refine PlanO.take (v := .int .u8 (y : Int)) (by kernel_rfl) ?yD13 ?rD13
        case yD13 => (intro wz hz; go_simp; try simpa using hy)
        (try simp only [Act.put, List.setIfInBounds_toArray, List.set_cons_zero, List.set_cons_succ])
        refine PlanO.take (v := .bool false) (by kernel_rfl) ?yD14 ?rD14
        case yD14 => (intro wz hz; go_simp; (try simp); exact_mod_cast hxy)
        (try simp only [Act.put, List.setIfInBounds_toArray, List.set_cons_zero, List.set_cons_succ])
        refine PlanO.take (v := .bool false) (by kernel_rfl) ?yD15 ?rD15
        case yD15 => (intro wz hz; go_simp; try simp; try omega)
        (try simp only [Act.put, List.setIfInBounds_toArray, List.set_cons_zero, List.set_cons_succ])
        refine PlanO.done (NoPanic.normal ?_)
        go_wp2
        go_ret
        exact ⟨by rw [HR.out]; rfl, HB.out.drew⟩
    · have HR := Lib.hid (comL_at a.data.toList b.data.toList n (by omega) (by omega) HT.out (by omega))
      go_upto_region 2 with (fail)
      refine wp_region_plan [(true, 0), (true, 1), (true, 2), (true, 3), (true, 4), (true, 5), (true, 6), (true, 7), (true, 8), (true, 9), (true, 10), (true, 11), (true, 12), (true, 13), (true, 14), (true, 15)] (by kernel_rfl) (by kernel_rfl) (by kernel_rfl) (by kernel_rfl) (by kernel_rfl) ?_
      simp only [planO, List.drop_succ_cons, List.drop_zero]
      refine PlanO.take (v := ?vA0) (by kernel_rfl) ?yA0 ?rA0
      case yA0 => (intro wz hz; go_simp; try with_reducible rfl)
      (try simp only [Act.put, List.setIfInBounds_toArray, List.set_cons_zero, List.set_cons_succ])
      refine PlanO.take (v := ?vA1) (by kernel_rfl) ?yA1 ?rA1
      case yA1 => (intro wz hz; go_simp; try with_reducible rfl)
      (try simp only [Act.put, List.setIfInBounds_toArray, List.set_cons_zero, List.set_cons_succ])
      refine PlanO.take (v := ?vA2) (by kernel_rfl) ?yA2 ?rA2
      case yA2 => (intro wz hz; go_simp; try with_reducible rfl)
      (try simp only [Act.put, List.setIfInBounds_toArray, List.set_cons_zero, List.set_cons_succ])
      refine PlanO.take (v := ?vA3) (by kernel_rfl) ?yA3 ?rA3
      case yA3 => (intro wz hz; go_simp; try with_reducible rfl)
      (try simp only [Act.put, List.setIfInBounds_toArray, List.set_cons_zero, List.set_cons_succ])
      refine PlanO.take (v := ?vA4) (by kernel_rfl) ?yA4 ?rA4
      case yA4 => (intro wz hz; go_simp; try with_reducible rfl)
      (try simp only [Act.put, List.setIfInBounds_toArray, List.set_cons_zero, List.set_cons_succ])
      refine PlanO.take (v := .int .i64 mn) (by kernel_rfl) ?yA5 ?rA5
      case yA5 => (intro wz hz; go_simp; try exact hmn2)
      (try simp only [Act.put, List.setIfInBounds_toArray, List.set_cons_zero, List.set_cons_succ])
      refine PlanO.take (v := .bool false) (by kernel_rfl) ?yA6 ?rA6
      case yA6 => (intro wz hz; go_simp; try simp; try omega)
      (try simp only [Act.put, List.setIfInBounds_toArray, List.set_cons_zero, List.set_cons_succ])
      refine PlanO.take (v := .bool false) (by kernel_rfl) ?yA7 ?rA7
      case yA7 => (intro wz hz; go_simp; try simp; try omega)
      (try simp only [Act.put, List.setIfInBounds_toArray, List.set_cons_zero, List.set_cons_succ])
      refine PlanO.skip (by kernel_rfl) ?_
      (try simp only [Act.put, List.setIfInBounds_toArray, List.set_cons_zero, List.set_cons_succ])
      refine PlanO.skip (by kernel_rfl) ?_
      (try simp only [Act.put, List.setIfInBounds_toArray, List.set_cons_zero, List.set_cons_succ])
      refine PlanO.skip (by kernel_rfl) ?_
      (try simp only [Act.put, List.setIfInBounds_toArray, List.set_cons_zero, List.set_cons_succ])
      refine PlanO.skip (by kernel_rfl) ?_
      (try simp only [Act.put, List.setIfInBounds_toArray, List.set_cons_zero, List.set_cons_succ])
      refine PlanO.skip (by kernel_rfl) ?_
      (try simp only [Act.put, List.setIfInBounds_toArray, List.set_cons_zero, List.set_cons_succ])
      refine PlanO.skip (by kernel_rfl) ?_
      (try simp only [Act.put, List.setIfInBounds_toArray, List.set_cons_zero, List.set_cons_succ])
      refine PlanO.skip (by kernel_rfl) ?_
      (try simp only [Act.put, List.setIfInBounds_toArray, List.set_cons_zero, List.set_cons_succ])
      refine PlanO.take (v := .bool false) (by kernel_rfl) ?yA15 ?rA15
      case yA15 => (intro wz hz; go_simp; try simp; try omega)
      (try simp only [Act.put, List.setIfInBounds_toArray, List.set_cons_zero, List.set_cons_succ])
      refine PlanO.done (NoPanic.normal ?_)
      go_wp2
      go_ret
      exact ⟨by rw [HR.out]; rfl, HB.out.drew⟩
end Go.Proofs.Ytdcjfgbngmdkfaa
