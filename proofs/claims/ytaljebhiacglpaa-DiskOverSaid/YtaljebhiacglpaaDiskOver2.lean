/-
  The walk of the statement DiskOver.
-/
import Derived.Test.YtaljebhiacglpaaDiskMoved
namespace Go.Proofs.Ytaljebhiacglpaa
open Go.RowKit

theorem strB_app (a b : List UInt8) : strB a ++ strB b = strB (a ++ b) := by
  apply ByteArray.ext
  simp

set_option maxRecDepth 100000 in
set_option maxHeartbeats 4000000 in
set_option linter.unusedSimpArgs false in
/-- Bytes with others laid over them. -/
theorem law_over_any (w : World) (va vb : Option Addr) (ca cb : Nat) (la lb : List UInt8) (i : Nat) (h1 : RdB w (.slice va la.length ca) la) (h2 : RdB w (.slice vb lb.length cb) lb) (l1 : la.length ≤ 200) (l2 : lb.length ≤ 200) (hi : i ≤ la.length) :
    Calls Try.prog 36 #[.slice va la.length ca, .int .i64 (i : Int), .slice vb lb.length cb] w fun e w' => e = .returned (.string (strB (wr la i lb))) ∧ Below w.heap.size w w' := by
  have hca : la.length ≤ ca := by obtain ⟨_, _, e, h, _⟩ := RdB.form h1; cases e; exact h
  have hica : i ≤ ca := by omega
  obtain ⟨w1, hw1⟩ : ∃ w1, w1 = w.drew := ⟨_, rfl⟩
  have HB1 := Lib.hid (show Below w.heap.size w w1 by rw [hw1]; exact (Below.refl _ _).drew)
  have HA := Lib.hid (show RdB w1 (.slice va la.length ca) la by rw [hw1]; exact h1.drew)
  have HB := Lib.hid (show RdB w1 (.slice vb lb.length cb) lb by rw [hw1]; exact h2.drew)
  have HI := Lib.hid hi
  have Hw1 := Lib.hid hw1
  clear h1 h2 hw1
  have hil : (i : Int) ≤ (la.length : Int) := by omega
  have hlim : ¬ 9223372036854775807 < i + lb.length := by omega
  by_cases hlt : i + lb.length < la.length
  · have hw : wr la i lb = la.take i ++ lb ++ la.drop (i + lb.length) := rfl
    have hsub : RdB w1 (.slice (va.map fun x => x.add (i + lb.length)) (la.length - (i + lb.length)) (ca - (i + lb.length))) (la.drop (i + lb.length)) := by
      have := sub_rd HA.out (i + lb.length) (la.length - (i + lb.length)) (by omega) (Nat.le_refl _)
      rw [List.take_of_length_le (by rw [List.length_drop]; omega)] at this
      unfold RdB
      rw [List.length_drop]
      exact this
    have HSUB := Lib.hid (rdB_convert (P := Try.prog) hsub 32 5 9 Try.underlying32 Try.underlying5 Try.underlying9)
    clear hsub
    have hne : ¬ ca = i + lb.length := by omega
    have htn : ((i : Int) + (lb.length : Int)).toNat = i + lb.length := by omega
    have hlim2 : ¬ 9223372036854775807 < i + lb.length + (la.length - (i + lb.length)) := by omega
    have hT := strB_app (la.take i) lb
    have hT2 := strB_app (la.take i ++ lb) (la.drop (i + lb.length))
    rw [hw]
    go_enter Try.func36, Try.ntmps36
    go_wp2
    refine wp_region_two (fun wz => Below w1.heap.size w1 wz) (fun wz => Below w1.heap.size w1 wz) [(0, 0), (0, 1), (0, 2), (0, 3), (0, 4), (0, 5), (0, 6), (0, 7)] [] (by kernel_rfl) (by kernel_rfl) (by kernel_rfl) (by kernel_rfl) (by kernel_rfl) (by rw [← Hw1.out]; exact Below.refl _ _) (by rw [← Hw1.out]; exact Below.refl _ _) ?_
    simp only [planT, List.drop_succ_cons, List.drop_zero]
    rw [← Hw1.out]
    refine PlanT.take0 (v := ?vO0) (by kernel_rfl) ?yO0 ?rO0
    case yO0 => (intro wz hz; have hcA := rdB_convert (P := Try.prog) (RdB.front (HA.out.below hz (Nat.le_refl _)) i HI.out) 32 5 9 Try.underlying32 Try.underlying5 Try.underlying9; have hcB := rdB_convert (P := Try.prog) (HB.out.below hz (Nat.le_refl _)) 32 5 9 Try.underlying32 Try.underlying5 Try.underlying9; clear hz; go_simp; try with_reducible rfl)
    (try simp only [Act.put, List.setIfInBounds_toArray, List.set_cons_zero, List.set_cons_succ])
    refine PlanT.take0 (v := ?vO1) (by kernel_rfl) ?yO1 ?rO1
    case yO1 => (intro wz hz; have hcA := rdB_convert (P := Try.prog) (RdB.front (HA.out.below hz (Nat.le_refl _)) i HI.out) 32 5 9 Try.underlying32 Try.underlying5 Try.underlying9; have hcB := rdB_convert (P := Try.prog) (HB.out.below hz (Nat.le_refl _)) 32 5 9 Try.underlying32 Try.underlying5 Try.underlying9; clear hz; go_simp; try with_reducible rfl)
    (try simp only [Act.put, List.setIfInBounds_toArray, List.set_cons_zero, List.set_cons_succ])
    refine PlanT.take0 (v := ?vO2) (by kernel_rfl) ?yO2 ?rO2
    case yO2 => (intro wz hz; have hcA := rdB_convert (P := Try.prog) (RdB.front (HA.out.below hz (Nat.le_refl _)) i HI.out) 32 5 9 Try.underlying32 Try.underlying5 Try.underlying9; have hcB := rdB_convert (P := Try.prog) (HB.out.below hz (Nat.le_refl _)) 32 5 9 Try.underlying32 Try.underlying5 Try.underlying9; clear hz; go_simp; try with_reducible rfl)
    (try simp only [Act.put, List.setIfInBounds_toArray, List.set_cons_zero, List.set_cons_succ])
    refine PlanT.take0 (v := ?vO3) (by kernel_rfl) ?yO3 ?rO3
    case yO3 => (intro wz hz; have hcA := rdB_convert (P := Try.prog) (RdB.front (HA.out.below hz (Nat.le_refl _)) i HI.out) 32 5 9 Try.underlying32 Try.underlying5 Try.underlying9; have hcB := rdB_convert (P := Try.prog) (HB.out.below hz (Nat.le_refl _)) 32 5 9 Try.underlying32 Try.underlying5 Try.underlying9; clear hz; go_simp; try with_reducible rfl)
    (try simp only [Act.put, List.setIfInBounds_toArray, List.set_cons_zero, List.set_cons_succ])
    refine PlanT.take0 (v := ?vO4) (by kernel_rfl) ?yO4 ?rO4
    case yO4 => (intro wz hz; have hcA := rdB_convert (P := Try.prog) (RdB.front (HA.out.below hz (Nat.le_refl _)) i HI.out) 32 5 9 Try.underlying32 Try.underlying5 Try.underlying9; have hcB := rdB_convert (P := Try.prog) (HB.out.below hz (Nat.le_refl _)) 32 5 9 Try.underlying32 Try.underlying5 Try.underlying9; clear hz; go_simp; try with_reducible rfl)
    (try simp only [Act.put, List.setIfInBounds_toArray, List.set_cons_zero, List.set_cons_succ])
    refine PlanT.take0 (v := ?vO5) (by kernel_rfl) ?yO5 ?rO5
    case yO5 => (intro wz hz; have hcA := rdB_convert (P := Try.prog) (RdB.front (HA.out.below hz (Nat.le_refl _)) i HI.out) 32 5 9 Try.underlying32 Try.underlying5 Try.underlying9; have hcB := rdB_convert (P := Try.prog) (HB.out.below hz (Nat.le_refl _)) 32 5 9 Try.underlying32 Try.underlying5 Try.underlying9; clear hz; go_simp; try with_reducible rfl)
    (try simp only [Act.put, List.setIfInBounds_toArray, List.set_cons_zero, List.set_cons_succ])
    refine PlanT.take0 (v := ?vO6) (by kernel_rfl) ?yO6 ?rO6
    case yO6 => (intro wz hz; have hcA := rdB_convert (P := Try.prog) (RdB.front (HA.out.below hz (Nat.le_refl _)) i HI.out) 32 5 9 Try.underlying32 Try.underlying5 Try.underlying9; have hcB := rdB_convert (P := Try.prog) (HB.out.below hz (Nat.le_refl _)) 32 5 9 Try.underlying32 Try.underlying5 Try.underlying9; clear hz; go_simp; try with_reducible rfl)
    (try simp only [Act.put, List.setIfInBounds_toArray, List.set_cons_zero, List.set_cons_succ])
    refine PlanT.take0 (v := ?vO7) (by kernel_rfl) ?yO7 ?rO7
    case yO7 => (intro wz hz; have hcA := rdB_convert (P := Try.prog) (RdB.front (HA.out.below hz (Nat.le_refl _)) i HI.out) 32 5 9 Try.underlying32 Try.underlying5 Try.underlying9; have hcB := rdB_convert (P := Try.prog) (HB.out.below hz (Nat.le_refl _)) 32 5 9 Try.underlying32 Try.underlying5 Try.underlying9; clear hz; go_simp; try with_reducible rfl)
    (try simp only [Act.put, List.setIfInBounds_toArray, List.set_cons_zero, List.set_cons_succ])
    refine PlanT.done (NoPanic.normal ?_)
    have hcS := HSUB.out
    go_wp2
    go_ret
    rw [List.append_assoc]
    exact ⟨rfl, HB1.out⟩
  · have hw : wr la i lb = la.take i ++ lb := by
      unfold wr
      rw [List.drop_of_length_le (by omega), List.append_nil]
    rw [hw]
    have hT := strB_app (la.take i) lb
    go_enter Try.func36, Try.ntmps36
    go_wp2
    refine wp_region_two (fun wz => Below w1.heap.size w1 wz) (fun wz => Below w1.heap.size w1 wz) [(0, 0), (0, 1), (0, 2), (0, 3), (0, 4), (0, 5), (0, 6), (0, 7)] [] (by kernel_rfl) (by kernel_rfl) (by kernel_rfl) (by kernel_rfl) (by kernel_rfl) (by rw [← Hw1.out]; exact Below.refl _ _) (by rw [← Hw1.out]; exact Below.refl _ _) ?_
    simp only [planT, List.drop_succ_cons, List.drop_zero]
    rw [← Hw1.out]
    refine PlanT.take0 (v := ?vP0) (by kernel_rfl) ?yP0 ?rP0
    case yP0 => (intro wz hz; have hcA := rdB_convert (P := Try.prog) (RdB.front (HA.out.below hz (Nat.le_refl _)) i HI.out) 32 5 9 Try.underlying32 Try.underlying5 Try.underlying9; have hcB := rdB_convert (P := Try.prog) (HB.out.below hz (Nat.le_refl _)) 32 5 9 Try.underlying32 Try.underlying5 Try.underlying9; clear hz; go_simp; try with_reducible rfl)
    (try simp only [Act.put, List.setIfInBounds_toArray, List.set_cons_zero, List.set_cons_succ])
    refine PlanT.take0 (v := ?vP1) (by kernel_rfl) ?yP1 ?rP1
    case yP1 => (intro wz hz; have hcA := rdB_convert (P := Try.prog) (RdB.front (HA.out.below hz (Nat.le_refl _)) i HI.out) 32 5 9 Try.underlying32 Try.underlying5 Try.underlying9; have hcB := rdB_convert (P := Try.prog) (HB.out.below hz (Nat.le_refl _)) 32 5 9 Try.underlying32 Try.underlying5 Try.underlying9; clear hz; go_simp; try with_reducible rfl)
    (try simp only [Act.put, List.setIfInBounds_toArray, List.set_cons_zero, List.set_cons_succ])
    refine PlanT.take0 (v := ?vP2) (by kernel_rfl) ?yP2 ?rP2
    case yP2 => (intro wz hz; have hcA := rdB_convert (P := Try.prog) (RdB.front (HA.out.below hz (Nat.le_refl _)) i HI.out) 32 5 9 Try.underlying32 Try.underlying5 Try.underlying9; have hcB := rdB_convert (P := Try.prog) (HB.out.below hz (Nat.le_refl _)) 32 5 9 Try.underlying32 Try.underlying5 Try.underlying9; clear hz; go_simp; try with_reducible rfl)
    (try simp only [Act.put, List.setIfInBounds_toArray, List.set_cons_zero, List.set_cons_succ])
    refine PlanT.take0 (v := ?vP3) (by kernel_rfl) ?yP3 ?rP3
    case yP3 => (intro wz hz; have hcA := rdB_convert (P := Try.prog) (RdB.front (HA.out.below hz (Nat.le_refl _)) i HI.out) 32 5 9 Try.underlying32 Try.underlying5 Try.underlying9; have hcB := rdB_convert (P := Try.prog) (HB.out.below hz (Nat.le_refl _)) 32 5 9 Try.underlying32 Try.underlying5 Try.underlying9; clear hz; go_simp; try with_reducible rfl)
    (try simp only [Act.put, List.setIfInBounds_toArray, List.set_cons_zero, List.set_cons_succ])
    refine PlanT.take0 (v := ?vP4) (by kernel_rfl) ?yP4 ?rP4
    case yP4 => (intro wz hz; have hcA := rdB_convert (P := Try.prog) (RdB.front (HA.out.below hz (Nat.le_refl _)) i HI.out) 32 5 9 Try.underlying32 Try.underlying5 Try.underlying9; have hcB := rdB_convert (P := Try.prog) (HB.out.below hz (Nat.le_refl _)) 32 5 9 Try.underlying32 Try.underlying5 Try.underlying9; clear hz; go_simp; try with_reducible rfl)
    (try simp only [Act.put, List.setIfInBounds_toArray, List.set_cons_zero, List.set_cons_succ])
    refine PlanT.take0 (v := ?vP5) (by kernel_rfl) ?yP5 ?rP5
    case yP5 => (intro wz hz; have hcA := rdB_convert (P := Try.prog) (RdB.front (HA.out.below hz (Nat.le_refl _)) i HI.out) 32 5 9 Try.underlying32 Try.underlying5 Try.underlying9; have hcB := rdB_convert (P := Try.prog) (HB.out.below hz (Nat.le_refl _)) 32 5 9 Try.underlying32 Try.underlying5 Try.underlying9; clear hz; go_simp; try with_reducible rfl)
    (try simp only [Act.put, List.setIfInBounds_toArray, List.set_cons_zero, List.set_cons_succ])
    refine PlanT.take0 (v := ?vP6) (by kernel_rfl) ?yP6 ?rP6
    case yP6 => (intro wz hz; have hcA := rdB_convert (P := Try.prog) (RdB.front (HA.out.below hz (Nat.le_refl _)) i HI.out) 32 5 9 Try.underlying32 Try.underlying5 Try.underlying9; have hcB := rdB_convert (P := Try.prog) (HB.out.below hz (Nat.le_refl _)) 32 5 9 Try.underlying32 Try.underlying5 Try.underlying9; clear hz; go_simp; try with_reducible rfl)
    (try simp only [Act.put, List.setIfInBounds_toArray, List.set_cons_zero, List.set_cons_succ])
    refine PlanT.take0 (v := ?vP7) (by kernel_rfl) ?yP7 ?rP7
    case yP7 => (intro wz hz; have hcA := rdB_convert (P := Try.prog) (RdB.front (HA.out.below hz (Nat.le_refl _)) i HI.out) 32 5 9 Try.underlying32 Try.underlying5 Try.underlying9; have hcB := rdB_convert (P := Try.prog) (HB.out.below hz (Nat.le_refl _)) 32 5 9 Try.underlying32 Try.underlying5 Try.underlying9; clear hz; go_simp; try with_reducible rfl)
    (try simp only [Act.put, List.setIfInBounds_toArray, List.set_cons_zero, List.set_cons_succ])
    refine PlanT.done (NoPanic.normal ?_)
    go_wp2
    go_ret
    exact ⟨rfl, HB1.out⟩
theorem law_over_n (w : World) (va vb : Option Addr) (ca cb : Nat) (la lb : List UInt8) (i n : Nat) (hn : n = lb.length) (h1 : RdB w (.slice va la.length ca) la) (h2 : RdB w (.slice vb n cb) lb) (l1 : la.length ≤ 200) (l2 : lb.length ≤ 200) (hi : i ≤ la.length) :
    Calls Try.prog 36 #[.slice va la.length ca, .int .i64 (i : Int), .slice vb n cb] w fun e w' => e = .returned (.string (strB (wr la i lb))) ∧ Below w.heap.size w w' := by
  subst hn
  exact law_over_any w va vb ca cb la lb i h1 h2 l1 l2 hi

theorem over_fallen (la lb : List UInt8) (i : Nat) (k : Int) : ((fsafe la).wrote i lb).fallen k = fsafe (wr la i (lb.take (rest k lb.length))) := by
  have hm : manyL ((fsafe la).wrote i lb).loose = lb.length := by simp [PF.wrote, fsafe, manyL]
  have hk : kept ((fsafe la).wrote i lb).loose (rest k lb.length) ((fsafe la).wrote i lb).safe = wr la i (lb.take (rest k lb.length)) := by
    show kept [(i, lb)] (rest k lb.length) la = _
    generalize rest k lb.length = r
    by_cases h : r = 0
    · rw [h, kept_zero, List.take_zero, wr_nil]
    · rw [kept_cons _ _ _ _ h]
      rfl
  unfold PF.fallen
  rw [hm, hk]
  rfl

set_option maxRecDepth 100000 in
set_option maxHeartbeats 8000000 in
set_option linter.unusedSimpArgs false in
theorem over_main (C : Int) (keep : Int) (va vb : Option Addr) (ca cb : Nat) (la lb : List UInt8) (W : World) (h1 : RdB W (.slice va la.length ca) la) (h2 : RdB W (.slice vb lb.length cb) lb) (l0 : 0 < la.length) (l1 : la.length ≤ 200) (l2 : lb.length ≤ 200) (hk : (Lit.int .i64 keep).wf = true) (c i K n : Nat) (hC : C = (c : Int)) (hc255 : c ≤ 255) (hK : max 0 keep = (K : Int)) (hi : c % (la.length + 1) = i) (hn : K % (lb.length + 1) = n) :
    Calls Try.prog 10 #[.slice va la.length ca, .slice vb lb.length cb, .int .u8 C, .int .i64 keep] W fun e w' => e = .returned (.bool true) ∧ Below W.heap.size W w' := by
  subst hC
  have hrk : rest keep lb.length = n := by unfold rest; rw [show (max 0 keep).toNat = K by omega]; exact hn
  have hnl : n ≤ lb.length := by have := Nat.mod_lt K (show 0 < lb.length + 1 by omega); omega
  have hil : i ≤ la.length := by have := Nat.mod_lt c (show 0 < la.length + 1 by omega); omega
  have hff : ((fsafe la).wrote i lb).fallen keep = fsafe (wr la i (lb.take n)) := by rw [over_fallen, hrk]
  have hl5 : ((fsafe la).wrote i lb).now.length = max la.length (i + lb.length) := by show (wr la i lb).length = _; exact wr_length _ _ _ hil
  have hl5' : (wr la i lb).length = max la.length (i + lb.length) := wr_length _ _ _ hil
  have hlR : (wr la i (lb.take n)).length = max la.length (i + n) := by rw [wr_length _ _ _ hil, List.length_take, Nat.min_eq_left hnl]
  have hf5 : FOk ((fsafe la).wrote i lb) := fok_of (by simp [PF.wrote, fsafe, manyL]; omega) (by rw [hl5]; omega) (by simp [PF.wrote, fsafe]) ⟨hil, trivial⟩
  have hf6 : FOk (fsafe (wr la i (lb.take n))) := fok_fsafe _ (by rw [hlR]; omega)
  have HN := Lib.hid (on_new W W (Below.refl _ _) 5000 0 0 false (.slice none 0 0))
  have HA := Lib.hid (fun (w : World) (p : Nat) (h : On W w p (PD.new 5000 0 false)) => on_make h (f0_small _) (by decide) ⟨#[120]⟩ (by decide) 0 (dk 5000 1 [PF.new] [([120], 0)] [] [⟨0, [], [120], 0⟩]) (dk_make 5000 0 [] [] [] [] [120] (by kernel_rfl) rfl))
  have HB := Lib.hid (fun (w : World) (p : Nat) (h : On W w p (dk 5000 1 [PF.new] [([120], 0)] [] [⟨0, [], [120], 0⟩])) => on_write h (small_of (by kernel_rfl) (fmem1 fok_new)) (show 1 + 1 < 10000 by omega) ⟨#[120]⟩ (by decide) 0 _ la h1 (by omega) 0 (dk 5000 2 [fw la] [([120], 0)] [] [⟨0, [], [120], 0⟩]) (dk_write 5000 1 _ _ _ _ [120] 0 0 0 la (by kernel_rfl) (by kernel_rfl) (Nat.zero_le _) (by omega) (by omega)))
  have HC := Lib.hid (fun (w : World) (p : Nat) (h : On W w p (dk 5000 2 [fw la] [([120], 0)] [] [⟨0, [], [120], 0⟩])) => on_safe h (small_of (by kernel_rfl) (fmem1 (fok_fw2 la (by omega)))) (show 2 + 1 < 10000 by omega) ⟨#[120]⟩ (by decide) 0 (dk 5000 3 [fsafe la] [([120], 0)] [] [⟨0, [], [120], 0⟩]) (by rw [← safed_fw la]; exact dk_safe 5000 2 _ _ _ _ [120] 0 (by kernel_rfl)))
  have HD := Lib.hid (fun (w : World) (p : Nat) (h : On W w p (dk 5000 3 [fsafe la] [([120], 0)] [] [⟨0, [], [120], 0⟩])) => on_names h (small_of (by kernel_rfl) (fmem1 (fok_fsafe la (by omega)))) (show List.Nodup [0] by decide) (show 3 + 1 < 10000 by omega) 0 (dk 5000 4 [fsafe la] [([120], 0)] [([120], 0)] []) (dk_names 5000 3 _ _ _ _))
  have HE := Lib.hid (fun (w : World) (p : Nat) (h : On W w p (dk 5000 4 [fsafe la] [([120], 0)] [([120], 0)] [])) => on_write h (small_of (by kernel_rfl) (fmem1 (fok_fsafe la (by omega)))) (show 4 + 1 < 10000 by omega) ⟨#[120]⟩ (by decide) (i : Int) _ lb h2 (by omega) 0 (dk 5000 5 [(fsafe la).wrote i lb] [([120], 0)] [([120], 0)] []) (dk_write 5000 4 _ _ _ _ [120] 0 la.length i lb (by kernel_rfl) (by show la.length + 0 = la.length; omega) hil (by omega) (by omega)))
  have HF := Lib.hid (fun (w : World) (p : Nat) (h : On W w p (dk 5000 5 [(fsafe la).wrote i lb] [([120], 0)] [([120], 0)] [])) => on_read h (small_of (by kernel_rfl) (fmem1 hf5)) ⟨#[120]⟩ (by decide) 0 1000 (wr la i lb) 0 (by refine (dk_read 5000 5 [(fsafe la).wrote i lb] [([120], 0)] [([120], 0)] [] [120] 0 0 1000 (by kernel_rfl) (Nat.zero_le _)).trans ?_; show (((wr la i lb).drop 0).take 1000, 0) = _; rw [List.drop_zero, List.take_of_length_le (by rw [hl5']; omega)]))
  have HI := Lib.hid (fun (w : World) (p : Nat) (v : Value) (h : OnR W w p (dk 5000 5 [(fsafe la).wrote i lb] [([120], 0)] [([120], 0)] []) v (wr la i lb)) => on_fallQ h (w.alloc (.cells #[.int .i64 keep] 3)) ((Below.refl _ _).alloc (Nat.le_refl _) _) 0 0 0 false (.slice (some ⟨w.heap.size, 0, none⟩) 1 1) [keep] 0 rfl (by decide) (by simp; exact hk) (by simp)
    (.inr ⟨w.heap.size, 1, rfl, by simp, Nat.le_refl _, by simp, fun i v hv => by rw [blk_cell (heap_alloc_new w _)]; match i, hv with | 0, hv => simpa using hv | i + 1, hv => simp at hv⟩)
    (fun k hk => by have hk3 : k = 0 := (by have : k ≤ 0 := hk; omega); subst hk3; exact small_of (by kernel_rfl) (fmem1 hf5)) (show List.Nodup [0] by decide) (dk 0 0 [fsafe (wr la i (lb.take n))] [([120], 0)] [([120], 0)] []) (by rw [← hff]; rfl))
  have HJ := Lib.hid (fun (w : World) (p : Nat) (v : Value) (h : OnR W w p (dk 0 0 [fsafe (wr la i (lb.take n))] [([120], 0)] [([120], 0)] []) v (wr la i lb)) => onr_read h (small_of (by kernel_rfl) (fmem1 hf6)) ⟨#[120]⟩ (by decide) 0 1000 (wr la i (lb.take n)) 0 (by refine (dk_read 0 0 [fsafe (wr la i (lb.take n))] [([120], 0)] [([120], 0)] [] [120] 0 0 1000 (by kernel_rfl) (Nat.zero_le _)).trans ?_; show (((wr la i (lb.take n)).drop 0).take 1000, 0) = _; rw [List.drop_zero, List.take_of_length_le (by rw [hlR]; omega)]))
  have g0 : ¬ (la.length : Int) = 0 := by omega
  have g0' : ¬ la.length = 0 := by omega
  have g0b : (la.length == 0) = false := by simpa using g0'
  have g1 : ¬ (200 : Int) < (la.length : Int) := by omega
  have g2 : ¬ (200 : Int) < (lb.length : Int) := by omega
  have hn1 : (K : Int).tmod ((lb.length : Int) + 1) = (n : Int) := by rw [Int.tmod_eq_emod_of_nonneg (by omega), ← hn]; simp
  have hn2 : (K : Int) % ((lb.length : Int) + 1) = (n : Int) := by rw [← hn]; simp
  have hi1 : (c : Int).tmod ((la.length : Int) + 1) = (i : Int) := by rw [Int.tmod_eq_emod_of_nonneg (by omega), ← hi]; simp
  have hi2 : (c : Int) % ((la.length : Int) + 1) = (i : Int) := by rw [← hi]; simp
  have hzA : ¬ (la.length : Int) + 1 = 0 := by omega
  have hzB : ¬ (lb.length : Int) + 1 = 0 := by omega
  have hncb : n ≤ cb := by obtain ⟨_, _, e, h, _⟩ := RdB.form h2; cases e; omega
  have HR1 := Lib.hid h1
  have HR2 := Lib.hid h2
  have HLL := Lib.hid (show la.length ≤ 200 ∧ lb.length ≤ 200 ∧ i ≤ la.length ∧ n ≤ lb.length from ⟨l1, l2, hil, hnl⟩)
  clear h1 h2 hrk hff hl5 hl5' hf5 hf6 hlR hn hi
  go_enter Try.func10, Try.ntmps10
  go_wp2_with (first | (go_at_call 15; (with_reducible refine (HN.out).mono ?_); rintro e w0 ⟨p, rfl, h0⟩; have H0 := Lib.hid h0; clear h0) | (go_at_call 26; (with_reducible refine (HA.out _ _ H0.out).mono ?_); rintro e w1 ⟨rfl, h1⟩; have H1 := Lib.hid h1; clear h1) | (go_at_call 27; (with_reducible refine (HB.out _ _ H1.out).mono ?_); rintro e w2 ⟨rfl, h2⟩; have H2 := Lib.hid h2; clear h2) | (go_at_call 28; (with_reducible refine (HC.out _ _ H2.out).mono ?_); rintro e w3 ⟨rfl, h3⟩; have H3 := Lib.hid h3; clear h3) | (go_at_call 29; (with_reducible refine (HD.out _ _ H3.out).mono ?_); rintro e w4 ⟨rfl, h4⟩; have H4 := Lib.hid h4; clear h4) | (go_at_call 27; (with_reducible refine (HE.out _ _ H4.out).mono ?_); rintro e w5 ⟨rfl, h5⟩; have H5 := Lib.hid h5; clear h5) | (go_at_call 33; (with_reducible refine (HF.out _ _ H5.out).mono ?_); rintro e w6 ⟨xa, xc, rfl, h6⟩; have H6 := Lib.hid h6; clear h6) | (go_at_call 30; (with_reducible refine (HI.out _ _ _ H6.out).mono ?_); rintro e w7 ⟨rfl, h7⟩; have H7 := Lib.hid h7; clear h7) | (go_at_call 33; (with_reducible refine (HJ.out _ _ _ H7.out).mono ?_); rintro e w8 ⟨ya, yc, rfl, h8, hr8⟩; have H8 := Lib.hid h8; have HR8 := Lib.hid hr8; clear h8 hr8) | (go_at_call 31; (with_reducible refine (num1_any _ _).mono ?_); rintro e w14 ⟨rfl, rfl⟩))
  obtain ⟨w9, hw9⟩ : ∃ w9, w9 = w8.drew := ⟨_, rfl⟩
  have HB9 := Lib.hid (show Below w8.heap.size w8 w9 by rw [hw9]; exact (Below.refl _ _).drew)
  have Hw9 := Lib.hid hw9
  clear hw9
  have hBW := H8.out.on.below.trans (HB9.out.mono H8.out.on.below.size)
  have HBW := Lib.hid hBW
  have HRN := Lib.hid (H8.out.rd.below HB9.out (Nat.le_refl _))
  have HRL := Lib.hid (HR8.out.below HB9.out (Nat.le_refl _))
  have HRA := Lib.hid (HR1.out.below hBW (Nat.le_refl _))
  have HRB := Lib.hid (HR2.out.below hBW (Nat.le_refl _))
  clear hBW
  refine wp_region_two (fun wz => Below w9.heap.size w9 wz) (fun wz => Below w9.heap.size w9 wz) [(0, 0), (0, 1), (0, 2), (0, 3), (0, 4), (2, 5), (0, 6), (0, 7), (0, 8), (0, 9), (0, 10), (0, 11), (0, 12), (0, 13), (0, 14), (2, 15), (0, 16), (0, 17), (0, 18), (2, 19), (0, 20), (0, 21)] [] (by kernel_rfl) (by kernel_rfl) (by kernel_rfl) (by kernel_rfl) (by kernel_rfl) (by rw [← Hw9.out]; exact Below.refl _ _) (by rw [← Hw9.out]; exact Below.refl _ _) ?_
  simp only [planT, List.drop_succ_cons, List.drop_zero]
  rw [← Hw9.out]
  refine PlanT.take0 (v := ?vV0) (by kernel_rfl) ?yV0 ?rV0
  case yV0 => (intro wz hz; have hcN := rdB_convert (P := Try.prog) (HRN.out.below hz (Nat.le_refl _)) 32 5 9 Try.underlying32 Try.underlying5 Try.underlying9; have hcL := rdB_convert (P := Try.prog) (HRL.out.below hz (Nat.le_refl _)) 32 5 9 Try.underlying32 Try.underlying5 Try.underlying9; clear hz; go_simp; try with_reducible rfl)
  (try simp only [Act.put, List.setIfInBounds_toArray, List.set_cons_zero, List.set_cons_succ])
  refine PlanT.take0 (v := ?vV1) (by kernel_rfl) ?yV1 ?rV1
  case yV1 => (intro wz hz; have hcN := rdB_convert (P := Try.prog) (HRN.out.below hz (Nat.le_refl _)) 32 5 9 Try.underlying32 Try.underlying5 Try.underlying9; have hcL := rdB_convert (P := Try.prog) (HRL.out.below hz (Nat.le_refl _)) 32 5 9 Try.underlying32 Try.underlying5 Try.underlying9; clear hz; go_simp; try with_reducible rfl)
  (try simp only [Act.put, List.setIfInBounds_toArray, List.set_cons_zero, List.set_cons_succ])
  refine PlanT.take0 (v := ?vV2) (by kernel_rfl) ?yV2 ?rV2
  case yV2 => (intro wz hz; have hcN := rdB_convert (P := Try.prog) (HRN.out.below hz (Nat.le_refl _)) 32 5 9 Try.underlying32 Try.underlying5 Try.underlying9; have hcL := rdB_convert (P := Try.prog) (HRL.out.below hz (Nat.le_refl _)) 32 5 9 Try.underlying32 Try.underlying5 Try.underlying9; clear hz; go_simp; try with_reducible rfl)
  (try simp only [Act.put, List.setIfInBounds_toArray, List.set_cons_zero, List.set_cons_succ])
  refine PlanT.take0 (v := ?vV3) (by kernel_rfl) ?yV3 ?rV3
  case yV3 => (intro wz hz; have hcN := rdB_convert (P := Try.prog) (HRN.out.below hz (Nat.le_refl _)) 32 5 9 Try.underlying32 Try.underlying5 Try.underlying9; have hcL := rdB_convert (P := Try.prog) (HRL.out.below hz (Nat.le_refl _)) 32 5 9 Try.underlying32 Try.underlying5 Try.underlying9; clear hz; go_simp; try with_reducible rfl)
  (try simp only [Act.put, List.setIfInBounds_toArray, List.set_cons_zero, List.set_cons_succ])
  refine PlanT.take0 (v := ?vV4) (by kernel_rfl) ?yV4 ?rV4
  case yV4 => (intro wz hz; have hcN := rdB_convert (P := Try.prog) (HRN.out.below hz (Nat.le_refl _)) 32 5 9 Try.underlying32 Try.underlying5 Try.underlying9; have hcL := rdB_convert (P := Try.prog) (HRL.out.below hz (Nat.le_refl _)) 32 5 9 Try.underlying32 Try.underlying5 Try.underlying9; clear hz; go_simp; try with_reducible rfl)
  (try simp only [Act.put, List.setIfInBounds_toArray, List.set_cons_zero, List.set_cons_succ])
  refine PlanT.exec2 (fun K hK => ⟨by kernel_rfl, ?_⟩)
  go_simp
  refine (law_over_n w9 va vb ca cb la lb i lb.length rfl HRA.out HRB.out HLL.out.1 HLL.out.2.1 HLL.out.2.2.1).mono ?_
  rintro e w10 ⟨rfl, hb10⟩
  refine hK.out _ _ hb10 hb10 ?_
  clear hK K
  (try simp only [Act.put, List.setIfInBounds_toArray, List.set_cons_zero, List.set_cons_succ])
  refine PlanT.take0 (v := ?vV6) (by kernel_rfl) ?yV6 ?rV6
  case yV6 => (intro wz hz; have hcN := rdB_convert (P := Try.prog) (HRN.out.below hz (Nat.le_refl _)) 32 5 9 Try.underlying32 Try.underlying5 Try.underlying9; have hcL := rdB_convert (P := Try.prog) (HRL.out.below hz (Nat.le_refl _)) 32 5 9 Try.underlying32 Try.underlying5 Try.underlying9; clear hz; go_simp; try with_reducible rfl)
  (try simp only [Act.put, List.setIfInBounds_toArray, List.set_cons_zero, List.set_cons_succ])
  refine PlanT.take0 (v := ?vV7) (by kernel_rfl) ?yV7 ?rV7
  case yV7 => (intro wz hz; have hcN := rdB_convert (P := Try.prog) (HRN.out.below hz (Nat.le_refl _)) 32 5 9 Try.underlying32 Try.underlying5 Try.underlying9; have hcL := rdB_convert (P := Try.prog) (HRL.out.below hz (Nat.le_refl _)) 32 5 9 Try.underlying32 Try.underlying5 Try.underlying9; clear hz; go_simp; try with_reducible rfl)
  (try simp only [Act.put, List.setIfInBounds_toArray, List.set_cons_zero, List.set_cons_succ])
  refine PlanT.take0 (v := ?vV8) (by kernel_rfl) ?yV8 ?rV8
  case yV8 => (intro wz hz; have hcN := rdB_convert (P := Try.prog) (HRN.out.below hz (Nat.le_refl _)) 32 5 9 Try.underlying32 Try.underlying5 Try.underlying9; have hcL := rdB_convert (P := Try.prog) (HRL.out.below hz (Nat.le_refl _)) 32 5 9 Try.underlying32 Try.underlying5 Try.underlying9; clear hz; go_simp; try with_reducible rfl)
  (try simp only [Act.put, List.setIfInBounds_toArray, List.set_cons_zero, List.set_cons_succ])
  refine PlanT.take0 (v := ?vV9) (by kernel_rfl) ?yV9 ?rV9
  case yV9 => (intro wz hz; have hcN := rdB_convert (P := Try.prog) (HRN.out.below hz (Nat.le_refl _)) 32 5 9 Try.underlying32 Try.underlying5 Try.underlying9; have hcL := rdB_convert (P := Try.prog) (HRL.out.below hz (Nat.le_refl _)) 32 5 9 Try.underlying32 Try.underlying5 Try.underlying9; clear hz; go_simp; try with_reducible rfl)
  (try simp only [Act.put, List.setIfInBounds_toArray, List.set_cons_zero, List.set_cons_succ])
  refine PlanT.take0 (v := ?vV10) (by kernel_rfl) ?yV10 ?rV10
  case yV10 => (intro wz hz; have hcN := rdB_convert (P := Try.prog) (HRN.out.below hz (Nat.le_refl _)) 32 5 9 Try.underlying32 Try.underlying5 Try.underlying9; have hcL := rdB_convert (P := Try.prog) (HRL.out.below hz (Nat.le_refl _)) 32 5 9 Try.underlying32 Try.underlying5 Try.underlying9; clear hz; go_simp; try with_reducible rfl)
  (try simp only [Act.put, List.setIfInBounds_toArray, List.set_cons_zero, List.set_cons_succ])
  refine PlanT.take0 (v := ?vV11) (by kernel_rfl) ?yV11 ?rV11
  case yV11 => (intro wz hz; have hcN := rdB_convert (P := Try.prog) (HRN.out.below hz (Nat.le_refl _)) 32 5 9 Try.underlying32 Try.underlying5 Try.underlying9; have hcL := rdB_convert (P := Try.prog) (HRL.out.below hz (Nat.le_refl _)) 32 5 9 Try.underlying32 Try.underlying5 Try.underlying9; clear hz; go_simp; try with_reducible rfl)
  (try simp only [Act.put, List.setIfInBounds_toArray, List.set_cons_zero, List.set_cons_succ])
  refine PlanT.take0 (v := ?vV12) (by kernel_rfl) ?yV12 ?rV12
  case yV12 => (intro wz hz; have hcN := rdB_convert (P := Try.prog) (HRN.out.below hz (Nat.le_refl _)) 32 5 9 Try.underlying32 Try.underlying5 Try.underlying9; have hcL := rdB_convert (P := Try.prog) (HRL.out.below hz (Nat.le_refl _)) 32 5 9 Try.underlying32 Try.underlying5 Try.underlying9; clear hz; go_simp; try with_reducible rfl)
  (try simp only [Act.put, List.setIfInBounds_toArray, List.set_cons_zero, List.set_cons_succ])
  refine PlanT.take0 (v := ?vV13) (by kernel_rfl) ?yV13 ?rV13
  case yV13 => (intro wz hz; have hcN := rdB_convert (P := Try.prog) (HRN.out.below hz (Nat.le_refl _)) 32 5 9 Try.underlying32 Try.underlying5 Try.underlying9; have hcL := rdB_convert (P := Try.prog) (HRL.out.below hz (Nat.le_refl _)) 32 5 9 Try.underlying32 Try.underlying5 Try.underlying9; clear hz; go_simp; try with_reducible rfl)
  (try simp only [Act.put, List.setIfInBounds_toArray, List.set_cons_zero, List.set_cons_succ])
  refine PlanT.take0 (v := ?vV14) (by kernel_rfl) ?yV14 ?rV14
  case yV14 => (intro wz hz; have hcN := rdB_convert (P := Try.prog) (HRN.out.below hz (Nat.le_refl _)) 32 5 9 Try.underlying32 Try.underlying5 Try.underlying9; have hcL := rdB_convert (P := Try.prog) (HRL.out.below hz (Nat.le_refl _)) 32 5 9 Try.underlying32 Try.underlying5 Try.underlying9; clear hz; go_simp; try with_reducible rfl)
  (try simp only [Act.put, List.setIfInBounds_toArray, List.set_cons_zero, List.set_cons_succ])
  refine PlanT.exec2 (fun K hK => ⟨by kernel_rfl, ?_⟩)
  go_simp
  refine (law_over_n w10 va vb ca cb la (lb.take n) i n (by have := HLL.out.2.2.2; rw [List.length_take]; omega) (HRA.out.below hb10 (Nat.le_refl _)) (RdB.front (HRB.out.below hb10 (Nat.le_refl _)) n HLL.out.2.2.2) HLL.out.1 (by have := HLL.out.2.1; rw [List.length_take]; omega) HLL.out.2.2.1).mono ?_
  rintro e w11 ⟨rfl, hb11⟩
  have hb911 : Below w9.heap.size w9 w11 := hb10.trans (hb11.mono hb10.size)
  refine hK.out _ _ hb911 hb911 ?_
  clear hK K
  (try simp only [Act.put, List.setIfInBounds_toArray, List.set_cons_zero, List.set_cons_succ])
  refine PlanT.take0 (v := ?vV16) (by kernel_rfl) ?yV16 ?rV16
  case yV16 => (intro wz hz; have hcN := rdB_convert (P := Try.prog) (HRN.out.below hz (Nat.le_refl _)) 32 5 9 Try.underlying32 Try.underlying5 Try.underlying9; have hcL := rdB_convert (P := Try.prog) (HRL.out.below hz (Nat.le_refl _)) 32 5 9 Try.underlying32 Try.underlying5 Try.underlying9; clear hz; go_simp; try with_reducible rfl)
  (try simp only [Act.put, List.setIfInBounds_toArray, List.set_cons_zero, List.set_cons_succ])
  refine PlanT.take0 (v := ?vV17) (by kernel_rfl) ?yV17 ?rV17
  case yV17 => (intro wz hz; have hcN := rdB_convert (P := Try.prog) (HRN.out.below hz (Nat.le_refl _)) 32 5 9 Try.underlying32 Try.underlying5 Try.underlying9; have hcL := rdB_convert (P := Try.prog) (HRL.out.below hz (Nat.le_refl _)) 32 5 9 Try.underlying32 Try.underlying5 Try.underlying9; clear hz; go_simp; try with_reducible rfl)
  (try simp only [Act.put, List.setIfInBounds_toArray, List.set_cons_zero, List.set_cons_succ])
  refine PlanT.take0 (v := ?vV18) (by kernel_rfl) ?yV18 ?rV18
  case yV18 => (intro wz hz; have hcN := rdB_convert (P := Try.prog) (HRN.out.below hz (Nat.le_refl _)) 32 5 9 Try.underlying32 Try.underlying5 Try.underlying9; have hcL := rdB_convert (P := Try.prog) (HRL.out.below hz (Nat.le_refl _)) 32 5 9 Try.underlying32 Try.underlying5 Try.underlying9; clear hz; go_simp; try with_reducible rfl)
  (try simp only [Act.put, List.setIfInBounds_toArray, List.set_cons_zero, List.set_cons_succ])
  refine PlanT.exec2 (fun K hK => ⟨by kernel_rfl, ?_⟩)
  go_simp
  refine (awake4_any w11).mono ?_
  rintro e w15 ⟨rfl, B15⟩
  have hb15 : Below w9.heap.size w9 w15 := hb911.trans (B15.mono hb911.size)
  refine hK.out _ _ hb15 hb15 ?_
  clear hK K
  (try simp only [Act.put, List.setIfInBounds_toArray, List.set_cons_zero, List.set_cons_succ])
  refine PlanT.take0 (v := ?vV20) (by kernel_rfl) ?yV20 ?rV20
  case yV20 => (intro wz hz; have hcN := rdB_convert (P := Try.prog) (HRN.out.below hz (Nat.le_refl _)) 32 5 9 Try.underlying32 Try.underlying5 Try.underlying9; have hcL := rdB_convert (P := Try.prog) (HRL.out.below hz (Nat.le_refl _)) 32 5 9 Try.underlying32 Try.underlying5 Try.underlying9; clear hz; go_simp; try with_reducible rfl)
  (try simp only [Act.put, List.setIfInBounds_toArray, List.set_cons_zero, List.set_cons_succ])
  refine PlanT.take0 (v := ?vV21) (by kernel_rfl) ?yV21 ?rV21
  case yV21 => (intro wz hz; have hcN := rdB_convert (P := Try.prog) (HRN.out.below hz (Nat.le_refl _)) 32 5 9 Try.underlying32 Try.underlying5 Try.underlying9; have hcL := rdB_convert (P := Try.prog) (HRL.out.below hz (Nat.le_refl _)) 32 5 9 Try.underlying32 Try.underlying5 Try.underlying9; clear hz; go_simp; try with_reducible rfl)
  (try simp only [Act.put, List.setIfInBounds_toArray, List.set_cons_zero, List.set_cons_succ])
  refine PlanT.done (NoPanic.normal ?_)
  go_wp2
  go_ret
  exact ⟨rfl, HBW.out.trans (Kept.below (Kept.of hb15 (R := fun k => k < w9.heap.size) fun _ h => h) fun k hk => Nat.lt_of_lt_of_le hk HBW.out.size)⟩

set_option maxRecDepth 100000 in
set_option maxHeartbeats 8000000 in
set_option linter.unusedSimpArgs false in
theorem diskOver_walk (v0 : Value) (l0 : List UInt8) (v1 : Value) (l1 : List UInt8) (C keep : Int) (W : World) (h0 : RdB W v0 l0) (h1 : RdB W v1 l1) (hC : (Lit.int .u8 C).wf = true) (hk : (Lit.int .i64 keep).wf = true) :
    Calls Try.prog 10 #[v0, v1, .int .u8 C, .int .i64 keep] W fun e w' => e = .returned (.bool true) ∧ Below W.heap.size W w' := by
  have k0 := h0
  have k1 := h1
  have hb := Go.bounds_u8 hC
  obtain ⟨a0, c0, rfl, _, _⟩ := RdB.form h0
  obtain ⟨a1, c1, rfl, _, _⟩ := RdB.form h1
  obtain ⟨K, hK⟩ := Int.eq_ofNat_of_zero_le (show 0 ≤ max 0 keep by omega)
  obtain ⟨c, hc⟩ := Int.eq_ofNat_of_zero_le hb.1
  by_cases qz : l0.length = 0
  · clear h0 h1 k0 k1 hK hc hb hC
    go_enter Try.func10, Try.ntmps10
    go_wp2_with (go_at_call 14; (with_reducible refine (awake4_any _).mono ?_); rintro e w15 ⟨rfl, B15⟩)
    go_ret
    exact ⟨rfl, B15⟩
  · by_cases q0 : l0.length ≤ 200
    · by_cases q1 : l1.length ≤ 200
      · exact over_main C keep a0 a1 c0 c1 l0 l1 W k0 k1 (by omega) q0 q1 hk c _ K _ hc (by omega) hK rfl rfl
      · clear h0 h1 k0 k1 hK hc hb hC
        go_enter Try.func10, Try.ntmps10
        go_wp2_with (go_at_call 14; (with_reducible refine (awake4_any _).mono ?_); rintro e w15 ⟨rfl, B15⟩)
        go_ret
        exact ⟨rfl, B15⟩
    · clear h0 h1 k0 k1 hK hc hb hC
      go_enter Try.func10, Try.ntmps10
      go_wp2_with (go_at_call 14; (with_reducible refine (awake4_any _).mono ?_); rintro e w15 ⟨rfl, B15⟩)
      go_ret
      exact ⟨rfl, B15⟩
end Go.Proofs.Ytaljebhiacglpaa
