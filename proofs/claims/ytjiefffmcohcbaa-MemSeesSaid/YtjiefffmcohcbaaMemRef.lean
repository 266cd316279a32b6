/-
  What the document's Size, Newest and SameEntries do.
-/
import Derived.Test.YtjiefffmcohcbaaMemRAdd
import Derived.Deep.QuietTactic
import Derived.BigQuiet
namespace Go.Proofs.Ytjiefffmcohcbaa
open Go.RowKit

theorem sizeL_more {L : List Ent} {i : Nat} (hi : i < L.length) : sizeL (L.take (i + 1)) = sizeL (L.take i) + ((L.getD i Ent.none_).u.size + (L.getD i Ent.none_).v.size) := by
  rw [List.take_succ_eq_append_getElem hi, sizeL_app]
  simp [List.getD, hi, sizeL, sizeE]

theorem sizeL_few {L : List Ent} (h : ∀ x ∈ L, x.may = true) (i : Nat) : sizeL (L.take i) ≤ 576 * i := by
  have h1 := may_size (l := L.take i) fun x hx => h x (List.mem_of_mem_take hx)
  have h2 : (L.take i).length ≤ i := by rw [List.length_take]; omega
  have : 576 * (L.take i).length ≤ 576 * i := Nat.mul_le_mul_left _ h2
  omega

set_option maxRecDepth 100000 in
set_option maxHeartbeats 4000000 in
theorem rsize_any {G : Nat → Prop} {w : World} {q : Nat} {L : List Ent} (h : Ro G w q L) (hm : ∀ x ∈ L, x.may = true) (hll : L.length < 100000) :
    Calls Try.prog 13 #[.pointer (some ⟨q, 0, none⟩)] w fun r w' => r = .returned (.int .i64 (sizeL L : Int)) ∧ Below w.heap.size w w' := by
  obtain ⟨v, hq, ho, _⟩ := h
  obtain ⟨va, vc, rfl, hc1, hc2⟩ := ho.form
  unfold maxLen at hc2
  have HQ := Lib.hid hq
  have HO := Lib.hid ho
  have HM := Lib.hid (sizeL_few hm)
  have hqw := blk_lt hq
  have q0 := blk_cell (i := 0) hq
  clear hq ho hm
  go_enter Try.func13, Try.ntmps13
  go_wp2
  go_loopw [3, 4] (fun n i wr => ∃ k : Nat, k ≤ L.length ∧ i = .int .i64 (k : Int) ∧ n = .int .i64 (sizeL (L.take k) : Int) ∧ Hid (Below w.heap.size w wr)) (fun _ i _ => L.length - (intOf i).toNat)
  case atStart => exact ⟨0, Nat.zero_le _, rfl, rfl, Lib.hid (Below.refl _ _)⟩
  case round =>
    obtain ⟨k, hk, rfl, rfl, HB⟩ := hrel
    have q1 := blk_cell (i := 0) ((HB.out.block q hqw).trans HQ.out)
    by_cases hlt : k < L.length
    · obtain ⟨g, rfl, hg, x0, _, _, x3⟩ := own_ent (HO.out.below HB.out) hlt
      have hs := sizeL_more hlt
      have hf1 := HM.out k
      have hf2 := HM.out (k + 1)
      rw [hs] at hf2
      have HS := Lib.hid hs
      clear hs
      generalize L.getD k Ent.none_ = X at *
      obtain ⟨xu, xs, xk, xv⟩ := X
      simp only at x0 x3 hf2
      generalize hN : sizeL (L.take k) = N at *
      have HN := Lib.hid hN
      clear hN
      have w1 : IntKind.i64.wrap ((N : Int) + (xu.size : Int)) = (N : Int) + (xu.size : Int) := IntWalk.i64_in _ (by omega)
      have w2 : IntKind.i64.wrap ((N : Int) + (xu.size : Int) + (xv.size : Int)) = (N : Int) + (xu.size : Int) + (xv.size : Int) := IntWalk.i64_in _ (by omega)
      go_wp2
      go_quiet (fail)
      go_wp2
      refine ⟨⟨k + 1, hlt, by go_num, ?_, Lib.hid (below_drewN HB.out _)⟩, ?_⟩
      · rw [HS.out]
        congr 1
        omega
      · simp [intOf]; omega
    · obtain rfl : k = L.length := by omega
      go_wp2
      go_ret
      rw [List.take_length]
      exact ⟨rfl, HB.out⟩

theorem newest_at {L : List Ent} {u : ByteArray} {s : Int} {k : Nat} (hk : k < L.length) (h : ∀ j, j < k → ¬ ((L.getD j Ent.none_).u = u ∧ (L.getD j Ent.none_).s ≤ s)) (h2 : (L.getD k Ent.none_).u = u ∧ (L.getD k Ent.none_).s ≤ s) : newest L u s = some (L.getD k Ent.none_) := by
  induction L generalizing k with
  | nil => simp at hk
  | cons x r ih =>
    unfold newest
    rw [List.find?_cons]
    cases k with
    | zero =>
      have : decide (x.u = u ∧ x.s ≤ s) = true := by rw [decide_eq_true_eq]; exact h2
      rw [this]; rfl
    | succ k =>
      have h0 := h 0 (by omega)
      have : decide (x.u = u ∧ x.s ≤ s) = false := by rw [decide_eq_false_iff_not]; exact h0
      rw [this]
      exact ih (by simpa using hk) (fun j hj => h (j + 1) (by omega)) h2
theorem newest_no {L : List Ent} {u : ByteArray} {s : Int} (h : ∀ j, j < L.length → ¬ ((L.getD j Ent.none_).u = u ∧ (L.getD j Ent.none_).s ≤ s)) : newest L u s = none := by
  unfold newest
  rw [List.find?_eq_none]
  intro x hx
  obtain ⟨j, hj, rfl⟩ := List.getElem_of_mem hx
  have := h j hj
  simp only [List.getD, List.getElem?_eq_getElem hj, Option.getD_some] at this
  simpa using this

set_option maxRecDepth 100000 in
set_option maxHeartbeats 4000000 in
theorem rnewest_any {w : World} {v : Value} {L : List Ent} (hv : OwnE w 0 v L) (u : ByteArray) (s : Int) :
    Calls Try.prog 17 #[v, .string u, .int .i64 s] w fun r w' => r = .returned (ansN (newest L u s)) ∧ Below w.heap.size w w' := by
  obtain ⟨va, vc, rfl, hc1, hc2⟩ := hv.form
  unfold maxLen at hc2
  have HO := Lib.hid hv
  clear hv
  go_enter Try.func17, Try.ntmps17
  go_wp2
  go_loopw [8] (fun i wr => ∃ k : Nat, k ≤ L.length ∧ i = .int .i64 (k : Int) ∧ Hid (∀ j, j < k → ¬ ((L.getD j Ent.none_).u = u ∧ (L.getD j Ent.none_).s ≤ s)) ∧ Hid (Below w.heap.size w wr ∧ wr.heap[w.heap.size]? = some (.cells #[.string ⟨#[]⟩, .int .i64 0, .int .i64 0, .string ⟨#[]⟩] 34 (0, 0)))) (fun i _ => L.length - (intOf i).toNat)
  case atStart => exact ⟨0, Nat.zero_le _, rfl, Lib.hid (fun j h => by omega), Lib.hid ⟨(Below.refl _ _).alloc (Nat.le_refl _) _, heap_alloc_new w _⟩⟩
  case round =>
    obtain ⟨k, hk, rfl, HK, HB⟩ := hrel
    have hsr := HB.out.2
    have s0 := blk_cell (i := 0) hsr
    have s1 := blk_cell (i := 1) hsr
    have s2 := blk_cell (i := 2) hsr
    have s3 := blk_cell (i := 3) hsr
    have t0 := blk_free (i := 0) hsr
    have t1 := blk_free (i := 1) hsr
    have t2 := blk_free (i := 2) hsr
    have t3 := blk_free (i := 3) hsr
    clear hsr
    by_cases hlt : k < L.length
    · obtain ⟨g, rfl, hg, x0, x1, x2, x3⟩ := own_ent (HO.out.below HB.out.1) hlt
      have HAT := Lib.hid (@newest_at L u s k hlt HK.out)
      have HMO := Lib.hid (show ¬ ((L.getD k Ent.none_).u = u ∧ (L.getD k Ent.none_).s ≤ s) → ∀ j, j < k + 1 → ¬ ((L.getD j Ent.none_).u = u ∧ (L.getD j Ent.none_).s ≤ s) from fun h2 j hj => by
        rcases Nat.lt_or_ge j k with h1 | h1
        · exact HK.out j h1
        · obtain rfl : j = k := by omega
          exact h2)
      generalize L.getD k Ent.none_ = X at *
      obtain ⟨xu, xs, xk, xv⟩ := X
      simp only at x0 x1 x2 x3
      by_cases hu : xu = u
      · by_cases hs : xs ≤ s
        · have HR := Lib.hid (HAT.out ⟨hu, hs⟩)
          clear HAT HMO
          subst hu
          go_wp2
          refine bodyPost_ret (results_row_tmp rfl _ _ w.heap.size 34 #[.string xu, .int .i64 xs, .int .i64 xk, .string xv] (0, 0) _ rfl ?hgA Try.underlying34 rfl (by kernel_rfl)) rfl ?_
          case hgA => exact (set4 HB.out.2 rfl rfl rfl rfl).1
          rw [HR.out]
          exact ⟨rfl, (set4 HB.out.2 rfl rfl rfl rfl).2 _ (Nat.le_refl _) _ HB.out.1⟩
        · have HN := Lib.hid (HMO.out (fun h => hs h.2))
          clear HAT HMO
          subst hu
          go_wp2
          refine ⟨⟨k + 1, hlt, by go_num, HN, HB⟩, ?_⟩
          simp [intOf]; omega
      · have HN := Lib.hid (HMO.out (fun h => hu h.1))
        have hne : (xu.toList == u.toList) = false := by
          rw [beq_eq_false_iff_ne, toList_data, toList_data]
          exact fun e => hu (ByteArray.ext (Array.toList_inj.1 e))
        clear HAT HMO
        go_wp2
        refine ⟨⟨k + 1, hlt, by go_num, HN, HB⟩, ?_⟩
        simp [intOf]; omega
    · have hke : k = L.length := by omega
      have HR := Lib.hid (@newest_no L u s (fun j hj => HK.out j (by omega)))
      clear hke
      go_wp2
      refine bodyPost_ret (results_row_tmp rfl _ _ w.heap.size 34 #[.string ⟨#[]⟩, .int .i64 0, .int .i64 0, .string ⟨#[]⟩] (0, 0) _ rfl ?hgB Try.underlying34 rfl (by kernel_rfl)) rfl ?_
      case hgB => exact (set4 HB.out.2 rfl rfl rfl rfl).1
      rw [HR.out]
      exact ⟨rfl, (set4 HB.out.2 rfl rfl rfl rfl).2 _ (Nat.le_refl _) _ HB.out.1⟩

set_option maxRecDepth 100000 in
set_option maxHeartbeats 4000000 in
/-- SameEntries of one list, told twice. -/
theorem rsame_ent (va vb : Value) (l : List Ent) (w : World) (hl : l.length < 1000000) (ha : OwnE w 0 va l) (hb : OwnE w 0 vb l) :
    Calls Try.prog 14 #[va, vb] w fun e w' => e = .returned (.bool true) ∧ Below w.heap.size w w' := by
  obtain ⟨aa, ca, rfl, _, _⟩ := ha.form
  obtain ⟨ab, cb, rfl, _, _⟩ := hb.form
  have HA := Lib.hid ha
  have HB := Lib.hid hb
  clear ha hb
  go_enter Try.func14, Try.ntmps14
  go_wp2
  go_loopw [5] (fun i wr => ∃ k : Nat, k ≤ l.length ∧ i = .int .i64 k ∧ Hid (Below w.heap.size w wr)) (fun i _ => l.length - (intOf i).toNat)
  case atStart => exact ⟨0, Nat.zero_le _, rfl, Lib.hid (Below.refl _ _)⟩
  case round =>
    obtain ⟨k, hk, rfl, HBL⟩ := hrel
    by_cases hlt : k < l.length
    · obtain ⟨ba, rfl, hba, c0, c1, c2, c3⟩ := own_ent (HA.out.below HBL.out) hlt
      obtain ⟨bb, rfl, hbb, d0, d1, d2, d3⟩ := own_ent (HB.out.below HBL.out) hlt
      generalize l.getD k Ent.none_ = o at *
      go_wp2
      go_quiet (fail)
      go_wp2
      refine ⟨⟨k + 1, by omega, by go_num, Lib.hid (below_drewN HBL.out _)⟩, ?_⟩
      simp [intOf]; omega
    · go_wp2
      go_ret
      exact ⟨rfl, HBL.out⟩
end Go.Proofs.Ytjiefffmcohcbaa
