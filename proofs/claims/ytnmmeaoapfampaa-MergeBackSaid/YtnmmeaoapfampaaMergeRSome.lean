/-
  The first ones of a list of pairs, or the last ones, as the document takes them.
-/
import Derived.Test.YtnmmeaoapfampaaMergeC
namespace Go.Proofs.Ytnmmeaoapfampaa
open Go.RowKit

theorem take_pair {R : List (ByteArray × ByteArray)} {k : Nat} (h : k < R.length) : R.take (k + 1) = R.take k ++ [R.getD k noneP] := by
  rw [List.take_succ_eq_append_getElem h]
  simp [List.getD, h]
theorem rev_pair {l : List (ByteArray × ByteArray)} {k : Nat} (h : k < l.length) : l.reverse.getD k noneP = l.getD (l.length - 1 - k) noneP := by
  simp only [List.getD]
  rw [List.getElem?_reverse h]

set_option maxRecDepth 100000 in
set_option maxHeartbeats 1000000 in
theorem rsome_false (v : Value) (l : List (ByteArray × ByteArray)) (most : Int) (w : World) (hv : OwnP w 0 v l) (hl : l.length ≤ 100000) :
    Calls Try.prog 28 #[v, .bool false, .int .i64 most] w fun e w' => ∃ x, e = .returned x ∧ OwnP w' w.heap.size x (someV l false most) ∧ Below w.heap.size w w' := by
  obtain ⟨va, vc, rfl, hc1, hc2⟩ := hv.form
  unfold maxLen at hc2
  have HV := Lib.hid hv
  obtain ⟨R, hR⟩ : ∃ R, l = R := ⟨_, rfl⟩
  have HRR := Lib.hid hR
  have hRl : R.length = l.length := by rw [← hR]
  have HGT := Lib.hid (show ∀ k, k < l.length → R.getD k noneP = l.getD k noneP from fun k hk => by rw [← hR])
  clear hv hR
  go_enter Try.func28, Try.ntmps28
  go_wp2
  go_loopw [7, 8] (fun x i wr => ∃ k : Nat, k ≤ l.length ∧ (k : Int) ≤ max most 0 ∧ i = .int .i64 (k : Int) ∧ Hid (OwnP wr w.heap.size x (R.take k)) ∧ Hid (Below w.heap.size w wr)) (fun _ i _ => l.length - (intOf i).toNat)
  case atStart => exact ⟨0, Nat.zero_le _, by omega, rfl, Lib.hid (World.ownsRow_nil _ _ _ _), Lib.hid (Below.refl _ _)⟩
  case round =>
    obtain ⟨k, hk, hkm, rfl, HO, HB⟩ := hrel
    by_cases hlt : k < l.length
    · have hlt' : decide ((k : Int) < (l.length : Int)) = true := by simp; omega
      have hltn : decide (k < l.length) = true := by simp; omega
      by_cases hm : (k : Int) < most
      · have hm' : decide ((k : Int) < most) = true := by simpa using hm
        have hin := HGT.out k hlt
        have HTK := Lib.hid (take_pair (R := R) (k := k) (by omega))
        obtain ⟨r, hr⟩ : ∃ r, k = r := ⟨_, rfl⟩
        subst hr
        clear HGT
        obtain ⟨ba, rfl, hba, c0, c1⟩ := own_pair (HV.out.below HB.out) hlt
        rw [hin] at HTK
        generalize l.getD k noneP = X at *
        obtain ⟨xu, xv⟩ := X
        go_wp2_with (at_builtin; refine wpList_append_rd rfl (.tmp 32) (.tmp 37) 30 rfl w.heap.size 42 2 32 (.agg #[.string ⟨#[]⟩, .string ⟨#[]⟩]) Try.underlying30 info_pair rfl (by decide) _ (.slice (some ⟨wr.heap.size, 0, none⟩) 1 1) ((R.take k).length) 1 ((R.take k).flatMap cellsP) ([(xu, xv)].flatMap cellsP) rfl rfl (World.ownsRow.alloc HO.out _) (one_pair wr (xu, xv)) (pairFlat_one _) ?bA ?l1 ?l2 ?kk)
        case bA => exact Nat.le_trans HB.out.size (by simp)
        case l1 => ((try simp only [List.length_take]); omega)
        case l2 => ((try simp only [List.length_take]); unfold maxLen; omega)
        case kk =>
          intro v' w' hown' hb'
          have q2 := hb' w.heap.size w (Nat.le_refl _) (HB.out.alloc HB.out.size _)
          go_wp2
          refine ⟨⟨k + 1, by omega, by omega, by go_num, Lib.hid ?_, Lib.hid q2⟩, by simp [intOf]; omega⟩
          unfold OwnP
          rw [HTK.out, List.length_append, List.flatMap_append]
          have hmin : min k R.length = k := by omega
          simpa [hmin] using hown'
      · have hm' : decide ((k : Int) < most) = false := by simpa using hm
        have hke : k = most.toNat := by omega
        go_wp2
        go_ret
        refine ⟨_, rfl, ?_, HB.out⟩
        unfold someV
        have h := HO.out
        rw [← HRR.out, hke] at h
        exact h
    · have hlt' : decide ((k : Int) < (l.length : Int)) = false := by simp; omega
      have hltn : decide (k < l.length) = false := by simp; omega
      go_wp2
      go_ret
      refine ⟨_, rfl, ?_, HB.out⟩
      unfold someV
      have h := HO.out
      rw [List.take_of_length_le (by omega)] at h
      rw [show (if false = true then l.reverse else l) = R from HRR.out, List.take_of_length_le (by omega)]
      exact h

set_option maxRecDepth 100000 in
set_option maxHeartbeats 1000000 in
theorem rsome_true (v : Value) (l : List (ByteArray × ByteArray)) (most : Int) (w : World) (hv : OwnP w 0 v l) (hl : l.length ≤ 100000) :
    Calls Try.prog 28 #[v, .bool true, .int .i64 most] w fun e w' => ∃ x, e = .returned x ∧ OwnP w' w.heap.size x (someV l true most) ∧ Below w.heap.size w w' := by
  obtain ⟨va, vc, rfl, hc1, hc2⟩ := hv.form
  unfold maxLen at hc2
  have HV := Lib.hid hv
  obtain ⟨R, hR⟩ : ∃ R, l.reverse = R := ⟨_, rfl⟩
  have HRR := Lib.hid hR
  have hRl : R.length = l.length := by rw [← hR]; simp
  have HGT := Lib.hid (show ∀ k, k < l.length → R.getD k noneP = l.getD (l.length - 1 - k) noneP from fun k hk => by rw [← hR]; exact rev_pair hk)
  clear hv hR
  go_enter Try.func28, Try.ntmps28
  go_wp2
  go_loopw [7, 8] (fun x i wr => ∃ k : Nat, k ≤ l.length ∧ (k : Int) ≤ max most 0 ∧ i = .int .i64 (k : Int) ∧ Hid (OwnP wr w.heap.size x (R.take k)) ∧ Hid (Below w.heap.size w wr)) (fun _ i _ => l.length - (intOf i).toNat)
  case atStart => exact ⟨0, Nat.zero_le _, by omega, rfl, Lib.hid (World.ownsRow_nil _ _ _ _), Lib.hid (Below.refl _ _)⟩
  case round =>
    obtain ⟨k, hk, hkm, rfl, HO, HB⟩ := hrel
    by_cases hlt : k < l.length
    · have hlt' : decide ((k : Int) < (l.length : Int)) = true := by simp; omega
      have hltn : decide (k < l.length) = true := by simp; omega
      by_cases hm : (k : Int) < most
      · have hm' : decide ((k : Int) < most) = true := by simpa using hm
        have hin := HGT.out k hlt
        have HTK := Lib.hid (take_pair (R := R) (k := k) (by omega))
        obtain ⟨r, hr⟩ : ∃ r, (l.length - 1 - k) = r := ⟨_, rfl⟩
        rw [hr] at hin
        have hrl : r < l.length := by omega
        have hre : (l.length : Int) - 1 - (k : Int) = (r : Int) := by omega
        have hre2 : IntKind.i64.wrap ((l.length : Int) - 1) = (l.length : Int) - 1 := IntWalk.i64_in _ (by omega)
        have hre3 : IntKind.i64.wrap (r : Int) = (r : Int) := IntWalk.i64_in _ (by omega)
        obtain ⟨ba, rfl, hba, c0, c1⟩ := own_pair (HV.out.below HB.out) hrl
        rw [hin] at HTK
        generalize l.getD r noneP = X at *
        obtain ⟨xu, xv⟩ := X
        go_wp2_with (at_builtin; refine wpList_append_rd rfl (.tmp 21) (.tmp 30) 30 rfl w.heap.size 42 2 32 (.agg #[.string ⟨#[]⟩, .string ⟨#[]⟩]) Try.underlying30 info_pair rfl (by decide) _ (.slice (some ⟨wr.heap.size, 0, none⟩) 1 1) ((R.take k).length) 1 ((R.take k).flatMap cellsP) ([(xu, xv)].flatMap cellsP) rfl rfl (World.ownsRow.alloc HO.out _) (one_pair wr (xu, xv)) (pairFlat_one _) ?bA ?l1 ?l2 ?kk)
        case bA => exact Nat.le_trans HB.out.size (by simp)
        case l1 => ((try simp only [List.length_take]); omega)
        case l2 => ((try simp only [List.length_take]); unfold maxLen; omega)
        case kk =>
          intro v' w' hown' hb'
          have q2 := hb' w.heap.size w (Nat.le_refl _) (HB.out.alloc HB.out.size _)
          go_wp2
          refine ⟨⟨k + 1, by omega, by omega, by go_num, Lib.hid ?_, Lib.hid q2⟩, by simp [intOf]; omega⟩
          unfold OwnP
          rw [HTK.out, List.length_append, List.flatMap_append]
          have hmin : min k R.length = k := by omega
          simpa [hmin] using hown'
      · have hm' : decide ((k : Int) < most) = false := by simpa using hm
        have hke : k = most.toNat := by omega
        go_wp2
        go_ret
        refine ⟨_, rfl, ?_, HB.out⟩
        unfold someV
        have h := HO.out
        rw [← HRR.out, hke] at h
        exact h
    · have hlt' : decide ((k : Int) < (l.length : Int)) = false := by simp; omega
      have hltn : decide (k < l.length) = false := by simp; omega
      go_wp2
      go_ret
      refine ⟨_, rfl, ?_, HB.out⟩
      unfold someV
      have h := HO.out
      rw [List.take_of_length_le (by omega)] at h
      rw [show (if true = true then l.reverse else l) = R from HRR.out, List.take_of_length_le (by omega)]
      exact h

end Go.Proofs.Ytnmmeaoapfampaa
