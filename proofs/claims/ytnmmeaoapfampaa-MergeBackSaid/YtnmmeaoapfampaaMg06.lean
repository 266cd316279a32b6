import Derived.Test.YtnmmeaoapfampaaMg00
import Derived.Test.YtnmmeaoapfampaaRegion
import Derived.Test.YtnmmeaoapfampaaShift
import Derived.Deep.Cut
import Derived.OwnWalk
import Derived.Test.YtnmmeaoapfampaaMergeC
import Derived.Shelf.Abstract
import Derived.Test.YtnmmeaoapfampaaMg05

/-
  Package merge: the entries of the first user, or of the last, and the others.
-/
namespace Go.Proofs.Ytnmmeaoapfampaa
open Go.RowKit

/-- Where the last user begins; where the first one ends. -/
def SplitP (l : List Ent) : Bool → Nat → Prop
  | true, m => m < l.length ∧ (∀ i, m ≤ i → i < l.length → (l.getD i Ent.none_).u = (l.getD (l.length - 1) Ent.none_).u) ∧ (m = 0 ∨ (l.getD (m - 1) Ent.none_).u ≠ (l.getD m Ent.none_).u)
  | false, m => 0 < m ∧ m ≤ l.length ∧ (∀ i, i < m → (l.getD i Ent.none_).u = (l.getD 0 Ent.none_).u) ∧ (m = l.length ∨ (l.getD m Ent.none_).u ≠ (l.getD (m - 1) Ent.none_).u)
theorem usr_yes {a b : ByteArray} (h : a = b) : (a.toList == b.toList) = true := by rw [h]; simp
theorem usr_no {a b : ByteArray} (h : a ≠ b) : (a.toList == b.toList) = false := by
  rw [Lib.toList_data, Lib.toList_data, beq_eq_false_iff_ne]
  exact fun e => h (ByteArray.ext (Array.toList_inj.1 e))

set_option maxRecDepth 100000 in
set_option maxHeartbeats 1000000 in
theorem split_back {va : Option Addr} {c n : Nat} {l : List Ent} {w : World} (hr : RdE w (.slice va n c) l) (hln : l.length = n) (hn : n ≤ 1000) (h0 : 0 < n) :
    Calls Try.prog 26 #[.slice va n c, .bool true] w fun e w' => ∃ x y m, e = .returned (.tuple #[x, y]) ∧ SplitP l true m ∧ (∀ w0, RdE w0 (.slice va n c) l → RdE w0 x (l.drop m) ∧ RdE w0 y (l.take m)) ∧ Below w.heap.size w w' := by
  obtain ⟨hnc, hcm⟩ : n ≤ c ∧ c ≤ maxLen := by obtain ⟨_, _, hv, h1, h2⟩ := hr.form; cases hv; exact ⟨h1, h2⟩
  have HSO : Hid (∃ b o, va = some ⟨b, o, none⟩) := Lib.hid (by
    obtain ⟨_, _, hv, _, _, _, h3⟩ := hr.1
    cases hv
    rcases h3 with ⟨h3, _⟩ | ⟨b, o, h4, _⟩
    · omega
    · exact ⟨b, o, h4⟩)
  have HR := Lib.hid hr
  have HL := Lib.hid hln
  have h0z : 0 < (n : Int) := by omega
  have hn1 : (n : Int) - 1 = ((n - 1 : Nat) : Int) := by omega
  clear hr hln hcm
  go_enter Try.func26, Try.ntmps26
  go_wp2
  go_loopw [6] (fun x wr => ∃ i : Nat, i < n ∧ x = .int .i64 (i : Int) ∧ Hid (∀ j, i ≤ j → j < n → (l.getD j Ent.none_).u = (l.getD (n - 1) Ent.none_).u) ∧ Hid (Below w.heap.size w wr)) (fun x _ => (intOf x).toNat)
  case atStart => exact ⟨n - 1, by omega, by go_num, Lib.hid (fun j h1 h2 => by rw [show j = n - 1 by omega]), Lib.hid (Below.refl _ _)⟩
  case round =>
    obtain ⟨i, hin, rfl, HP, HBB⟩ := hrel
    rcases Nat.eq_zero_or_pos i with hi0 | hi0
    · have hiz : ¬ 0 < (i : Int) := by omega
      have HSP : Hid (SplitP l true i) := Lib.hid ⟨by rw [HL.out]; exact hin, by rw [HL.out]; exact HP.out, .inl hi0⟩
      have HI0 := Lib.hid hi0
      clear hi0
      have hid := HBB.out.drew
      obtain ⟨wd, hwd⟩ : ∃ wd, wd = wr.drew := ⟨_, rfl⟩
      rw [← hwd] at hid
      clear HBB
      have HBB := Lib.hid hid
      have HWD := Lib.hid hwd
      clear hid hwd
      go_wp2
      refine wp_region_plan [(true, 0), (true, 1), (true, 2), (true, 3), (true, 4), (true, 5), (true, 6), (true, 7), (true, 8), (true, 9), (true, 10), (true, 11), (true, 12), (true, 13), (true, 14), (true, 15), (true, 16), (true, 17)] (by kernel_rfl) (by kernel_rfl) (by kernel_rfl) (by kernel_rfl) (by kernel_rfl) ?_
      simp only [planO, List.drop_succ_cons, List.drop_zero]
      refine PlanO.take (v := ?vA0) (by kernel_rfl) ?yA0 ?rA0
      case yA0 => (intro wz hz; go_simp; try with_reducible rfl)
      (try simp only [Act.put, List.setIfInBounds_toArray, List.set_cons_zero, List.set_cons_succ])
      refine PlanO.take (v := .bool false) (by kernel_rfl) ?yA1 ?rA1
      case yA1 => (intro wz hz; go_simp; first | with_reducible rfl | exact HI0.out)
      (try simp only [Act.put, List.setIfInBounds_toArray, List.set_cons_zero, List.set_cons_succ])
      refine PlanO.take (v := .bool false) (by kernel_rfl) ?yA2 ?rA2
      case yA2 => (intro wz hz; go_simp; try with_reducible rfl)
      (try simp only [Act.put, List.setIfInBounds_toArray, List.set_cons_zero, List.set_cons_succ])
      refine PlanO.skip (by kernel_rfl) ?_
      (try simp only [Act.put, List.setIfInBounds_toArray, List.set_cons_zero, List.set_cons_succ])
      refine PlanO.skip (by kernel_rfl) ?_
      (try simp only [Act.put, List.setIfInBounds_toArray, List.set_cons_zero, List.set_cons_succ])
      refine PlanO.skip (by kernel_rfl) ?_
      (try simp only [Act.put, List.setIfInBounds_toArray, List.set_cons_zero, List.set_cons_succ])
      refine PlanO.skip (by kernel_rfl) ?_
      (try simp only [Act.put, List.setIfInBounds_toArray, List.set_cons_zero, List.set_cons_succ])
      refine PlanO.skip (by kernel_rfl) ?_
      (try simp only [Act.put, List.setIfInBounds_toArray, List.set_cons_zero, List.set_cons_succ])
      refine PlanO.skip (by kernel_rfl) ?_
      (try simp only [Act.put, List.setIfInBounds_toArray, List.set_cons_zero, List.set_cons_succ])
      refine PlanO.skip (by kernel_rfl) ?_
      (try simp only [Act.put, List.setIfInBounds_toArray, List.set_cons_zero, List.set_cons_succ])
      refine PlanO.skip (by kernel_rfl) ?_
      (try simp only [Act.put, List.setIfInBounds_toArray, List.set_cons_zero, List.set_cons_succ])
      refine PlanO.skip (by kernel_rfl) ?_
      (try simp only [Act.put, List.setIfInBounds_toArray, List.set_cons_zero, List.set_cons_succ])
      refine PlanO.skip (by kernel_rfl) ?_
      (try simp only [Act.put, List.setIfInBounds_toArray, List.set_cons_zero, List.set_cons_succ])
      refine PlanO.skip (by kernel_rfl) ?_
      (try simp only [Act.put, List.setIfInBounds_toArray, List.set_cons_zero, List.set_cons_succ])
      refine PlanO.skip (by kernel_rfl) ?_
      (try simp only [Act.put, List.setIfInBounds_toArray, List.set_cons_zero, List.set_cons_succ])
      refine PlanO.skip (by kernel_rfl) ?_
      (try simp only [Act.put, List.setIfInBounds_toArray, List.set_cons_zero, List.set_cons_succ])
      refine PlanO.skip (by kernel_rfl) ?_
      (try simp only [Act.put, List.setIfInBounds_toArray, List.set_cons_zero, List.set_cons_succ])
      refine PlanO.take (v := ?vA17) (by kernel_rfl) ?yA17 ?rA17
      case yA17 => (intro wz hz; go_simp; try with_reducible rfl)
      (try simp only [Act.put, List.setIfInBounds_toArray, List.set_cons_zero, List.set_cons_succ])
      refine PlanO.done (NoPanic.normal ?_)
      rw [← HWD.out]
      clear HWD
      obtain ⟨b, off, hva⟩ := HSO.out
      clear HSO
      cases hva
      have HFR : Hid (∀ w0, RdE w0 (.slice (some ⟨b, off, none⟩) n c) l → RdE w0 (.slice (some ⟨b, off, none⟩) i c) (l.take i)) := Lib.hid (fun w0 h => by have e := HL.out; rw [← e] at h; exact h.front i (by omega))
      have hic : i ≤ c := by omega
      have hin0 : i ≤ n := by omega
      have hinz : (i : Int) ≤ (n : Int) := by omega
      by_cases hci : c = i
      · have HFM : Hid (∀ w0, RdE w0 (.slice (some ⟨b, off, none⟩) n c) l → RdE w0 (.slice (some ⟨b, off, none⟩) (n - i) 0) (l.drop i)) := Lib.hid (fun w0 h => by
          have e := HL.out
          rw [← e] at h
          exact h.from_ i (by omega) (fun h1 => by omega) (by omega) (by omega))
        have HFR := Lib.hid (show ∀ w0, RdE w0 (.slice (some ⟨b, off, none⟩) n c) l → RdE w0 (.slice (some ⟨b, off, none⟩) i i) (l.take i) from fun w0 h => by have h2 := HFR.out w0 h; rw [hci] at h2; exact h2)
        go_wp2
        refine wp_region_shift (by kernel_rfl) (by kernel_rfl) ?_
        repeat (quiet_step (fail))
        refine wpQuiet_nil ?_
        intro _ hw'
        obtain ⟨⟨nq, osq⟩, hw''⟩ := hw'
        subst hw''
        have hz := belowT HBB.out (shift_below wd nq osq)
        clear HBB
        generalize shiftW wd nq osq = w9 at hz ⊢
        have HBB := Lib.hid hz
        clear hz
        go_wp2
        go_ret2
        exact ⟨_, _, i, rfl, HSP.out, fun w0 h => ⟨HFM.out w0 h, HFR.out w0 h⟩, HBB.out⟩
      · have HFM : Hid (∀ w0, RdE w0 (.slice (some ⟨b, off, none⟩) n c) l → RdE w0 (.slice (some ⟨b, off + i * 4, none⟩) (n - i) (c - i)) (l.drop i)) := Lib.hid (fun w0 h => by
          have e := HL.out
          rw [← e] at h
          exact h.from_ i (by omega) (fun _ => rfl) rfl (by omega))
        go_wp2
        refine wp_region_shift (by kernel_rfl) (by kernel_rfl) ?_
        repeat (quiet_step (fail))
        refine wpQuiet_nil ?_
        intro _ hw'
        obtain ⟨⟨nq, osq⟩, hw''⟩ := hw'
        subst hw''
        have hz := belowT HBB.out (shift_below wd nq osq)
        clear HBB
        generalize shiftW wd nq osq = w9 at hz ⊢
        have HBB := Lib.hid hz
        clear hz
        go_wp2
        go_ret2
        exact ⟨_, _, i, rfl, HSP.out, fun w0 h => ⟨HFM.out w0 h, HFR.out w0 h⟩, HBB.out⟩
    · obtain ⟨p, hp⟩ : ∃ p, p + 1 = i := ⟨i - 1, by omega⟩
      have hiz : 0 < (i : Int) := by omega
      have hpz : (i : Int) - 1 = (p : Int) := by omega
      have rp : IntKind.i64.wrap (p : Int) = (p : Int) := by rw [IntKind.wrap_i64]; omega
      have hpn : (p : Int) < (n : Int) := by omega
      have hin2 : (i : Int) < (n : Int) := by omega
      obtain ⟨b, off, cap, hv, _, _, hb, hc⟩ := HR.out.at_ (by intro e; have := HL.out; rw [e] at this; simp at this; omega)
      rw [HL.out] at hv
      cases hv
      have HSO : Hid (∃ b' o', some (⟨b, off, none⟩ : Addr) = some ⟨b', o', none⟩) := Lib.hid ⟨_, _, rfl⟩
      obtain ⟨X, hX⟩ : ∃ X, l.getD p Ent.none_ = X := ⟨_, rfl⟩
      obtain ⟨Y, hY⟩ : ∃ Y, l.getD i Ent.none_ = Y := ⟨_, rfl⟩
      have x0 := (hc p (by have := HL.out; omega)).1
      have y0 := (hc i (by have := HL.out; omega)).1
      rw [hX] at x0
      rw [hY] at y0
      have c0 := fun z_ os => ((belowT HBB.out (shift_below wr z_ os)).cell (p := ⟨b, off + p * 4, none⟩) hb).trans x0
      have d0 := fun z_ os => ((belowT HBB.out (shift_below wr z_ os)).cell (p := ⟨b, off + i * 4, none⟩) hb).trans y0
      have HX := Lib.hid hX
      have HY := Lib.hid hY
      clear x0 y0 hc hX hY
      by_cases hu : X.u = Y.u
      · have hb1 := usr_yes hu
        have HU := Lib.hid hu
        have HPP := Lib.hid hp
        clear hu hp
        go_wp2
        refine wp_region_shift (by kernel_rfl) (by kernel_rfl) ?_
        repeat (quiet_step (fail))
        refine wpQuiet_nil ?_
        intro _ hw'
        obtain ⟨⟨nq, osq⟩, hw''⟩ := hw'
        subst hw''
        have hz := belowT HBB.out (shift_below wr nq osq)
        clear c0 d0 HBB
        generalize shiftW wr nq osq = wz at hz ⊢
        have HBB := Lib.hid hz
        clear hz
        go_wp2
        refine ⟨⟨p, by omega, rfl, Lib.hid fun j h1 h2 => ?_, HBB⟩, by simp only [intOf, Int.toNat_natCast]; have := HPP.out; omega⟩
        have e := HPP.out
        rcases Nat.lt_or_ge j i with h3 | h3
        · rw [show j = p by omega, HX.out, HU.out, ← HY.out]
          exact HP.out i (Nat.le_refl _) hin
        · exact HP.out j h3 h2
      · have hb1 := usr_no hu
        have HU := Lib.hid hu
        have HPP := Lib.hid hp
        clear hu hp
        go_wp2
        refine wp_region_shift (by kernel_rfl) (by kernel_rfl) ?_
        repeat (quiet_step (fail))
        refine wpQuiet_nil ?_
        intro _ hw'
        obtain ⟨⟨nq, osq⟩, hw''⟩ := hw'
        subst hw''
        have hz := belowT HBB.out (shift_below wr nq osq)
        clear c0 d0 HBB
        generalize shiftW wr nq osq = wz at hz ⊢
        have HBB := Lib.hid hz
        clear hz
        have HSP : Hid (SplitP l true i) := Lib.hid ⟨by rw [HL.out]; exact hin, by rw [HL.out]; exact HP.out, .inr (by rw [show i - 1 = p by have := HPP.out; omega, HX.out, HY.out]; exact HU.out)⟩
        obtain ⟨b, off, hva⟩ := HSO.out
        clear HSO
        cases hva
        have HFR : Hid (∀ w0, RdE w0 (.slice (some ⟨b, off, none⟩) n c) l → RdE w0 (.slice (some ⟨b, off, none⟩) i c) (l.take i)) := Lib.hid (fun w0 h => by have e := HL.out; rw [← e] at h; exact h.front i (by omega))
        have hic : i ≤ c := by omega
        have hin0 : i ≤ n := by omega
        have hinz : (i : Int) ≤ (n : Int) := by omega
        by_cases hci : c = i
        · have HFM : Hid (∀ w0, RdE w0 (.slice (some ⟨b, off, none⟩) n c) l → RdE w0 (.slice (some ⟨b, off, none⟩) (n - i) 0) (l.drop i)) := Lib.hid (fun w0 h => by
            have e := HL.out
            rw [← e] at h
            exact h.from_ i (by omega) (fun h1 => by omega) (by omega) (by omega))
          have HFR := Lib.hid (show ∀ w0, RdE w0 (.slice (some ⟨b, off, none⟩) n c) l → RdE w0 (.slice (some ⟨b, off, none⟩) i i) (l.take i) from fun w0 h => by have h2 := HFR.out w0 h; rw [hci] at h2; exact h2)
          go_wp2
          refine wp_region_shift (by kernel_rfl) (by kernel_rfl) ?_
          repeat (quiet_step (fail))
          refine wpQuiet_nil ?_
          intro _ hw'
          obtain ⟨⟨nq, osq⟩, hw''⟩ := hw'
          subst hw''
          have hz := belowT HBB.out (shift_below wz nq osq)
          clear HBB
          generalize shiftW wz nq osq = w9 at hz ⊢
          have HBB := Lib.hid hz
          clear hz
          go_wp2
          go_ret2
          exact ⟨_, _, i, rfl, HSP.out, fun w0 h => ⟨HFM.out w0 h, HFR.out w0 h⟩, HBB.out⟩
        · have HFM : Hid (∀ w0, RdE w0 (.slice (some ⟨b, off, none⟩) n c) l → RdE w0 (.slice (some ⟨b, off + i * 4, none⟩) (n - i) (c - i)) (l.drop i)) := Lib.hid (fun w0 h => by
            have e := HL.out
            rw [← e] at h
            exact h.from_ i (by omega) (fun _ => rfl) rfl (by omega))
          go_wp2
          refine wp_region_shift (by kernel_rfl) (by kernel_rfl) ?_
          repeat (quiet_step (fail))
          refine wpQuiet_nil ?_
          intro _ hw'
          obtain ⟨⟨nq, osq⟩, hw''⟩ := hw'
          subst hw''
          have hz := belowT HBB.out (shift_below wz nq osq)
          clear HBB
          generalize shiftW wz nq osq = w9 at hz ⊢
          have HBB := Lib.hid hz
          clear hz
          go_wp2
          go_ret2
          exact ⟨_, _, i, rfl, HSP.out, fun w0 h => ⟨HFM.out w0 h, HFR.out w0 h⟩, HBB.out⟩

set_option maxRecDepth 100000 in
set_option maxHeartbeats 1000000 in
theorem split_forth {va : Option Addr} {c n : Nat} {l : List Ent} {w : World} (hr : RdE w (.slice va n c) l) (hln : l.length = n) (hn : n ≤ 1000) (h0 : 0 < n) :
    Calls Try.prog 26 #[.slice va n c, .bool false] w fun e w' => ∃ x y m, e = .returned (.tuple #[x, y]) ∧ SplitP l false m ∧ (∀ w0, RdE w0 (.slice va n c) l → RdE w0 x (l.take m) ∧ RdE w0 y (l.drop m)) ∧ Below w.heap.size w w' := by
  obtain ⟨hnc, hcm⟩ : n ≤ c ∧ c ≤ maxLen := by obtain ⟨_, _, hv, h1, h2⟩ := hr.form; cases hv; exact ⟨h1, h2⟩
  have HSO : Hid (∃ b o, va = some ⟨b, o, none⟩) := Lib.hid (by
    obtain ⟨_, _, hv, _, _, _, h3⟩ := hr.1
    cases hv
    rcases h3 with ⟨h3, _⟩ | ⟨b, o, h4, _⟩
    · omega
    · exact ⟨b, o, h4⟩)
  have HR := Lib.hid hr
  have HL := Lib.hid hln
  have h0z : 0 < (n : Int) := by omega
  have hn1 : (n : Int) - 1 = ((n - 1 : Nat) : Int) := by omega
  clear hr hln hcm
  go_enter Try.func26, Try.ntmps26
  go_wp2
  go_loopw [7] (fun x wr => ∃ i : Nat, 0 < i ∧ i ≤ n ∧ x = .int .i64 (i : Int) ∧ Hid (∀ j, j < i → (l.getD j Ent.none_).u = (l.getD 0 Ent.none_).u) ∧ Hid (Below w.heap.size w wr)) (fun x _ => n - (intOf x).toNat)
  case atStart => exact ⟨1, by omega, by omega, rfl, Lib.hid (fun j h1 => by rw [show j = 0 by omega]), Lib.hid (Below.refl _ _)⟩
  case round =>
    obtain ⟨i, hi1, hin, rfl, HP, HBB⟩ := hrel
    rcases Nat.lt_or_ge i n with hi0 | hi0
    · obtain ⟨p, hp⟩ : ∃ p, p + 1 = i := ⟨i - 1, by omega⟩
      have hiz : (i : Int) < (n : Int) := by omega
      have hpz : (i : Int) - 1 = (p : Int) := by omega
      have rp : IntKind.i64.wrap (p : Int) = (p : Int) := by rw [IntKind.wrap_i64]; omega
      have hpn : (p : Int) < (n : Int) := by omega
      obtain ⟨b, off, cap, hv, _, _, hb, hc⟩ := HR.out.at_ (by intro e; have := HL.out; rw [e] at this; simp at this; omega)
      rw [HL.out] at hv
      cases hv
      have HSO : Hid (∃ b' o', some (⟨b, off, none⟩ : Addr) = some ⟨b', o', none⟩) := Lib.hid ⟨_, _, rfl⟩
      obtain ⟨X, hX⟩ : ∃ X, l.getD i Ent.none_ = X := ⟨_, rfl⟩
      obtain ⟨Y, hY⟩ : ∃ Y, l.getD p Ent.none_ = Y := ⟨_, rfl⟩
      have x0 := (hc i (by have := HL.out; omega)).1
      have y0 := (hc p (by have := HL.out; omega)).1
      rw [hX] at x0
      rw [hY] at y0
      have c0 := fun z_ os => ((belowT HBB.out (shift_below wr z_ os)).cell (p := ⟨b, off + i * 4, none⟩) hb).trans x0
      have d0 := fun z_ os => ((belowT HBB.out (shift_below wr z_ os)).cell (p := ⟨b, off + p * 4, none⟩) hb).trans y0
      have HX := Lib.hid hX
      have HY := Lib.hid hY
      clear x0 y0 hc hX hY
      by_cases hu : X.u = Y.u
      · have hb1 := usr_yes hu
        have HU := Lib.hid hu
        have HPP := Lib.hid hp
        clear hu hp
        go_wp2
        refine wp_region_shift (by kernel_rfl) (by kernel_rfl) ?_
        repeat (quiet_step (fail))
        refine wpQuiet_nil ?_
        intro _ hw'
        obtain ⟨⟨nq, osq⟩, hw''⟩ := hw'
        subst hw''
        have hz := belowT HBB.out (shift_below wr nq osq)
        clear c0 d0 HBB
        generalize shiftW wr nq osq = wz at hz ⊢
        have HBB := Lib.hid hz
        clear hz
        go_wp2
        refine ⟨⟨i + 1, by omega, by omega, by go_num, Lib.hid fun j h1 => ?_, HBB⟩, by simp only [intOf]; have := HPP.out; omega⟩
        have e := HPP.out
        rcases Nat.lt_or_ge j i with h3 | h3
        · exact HP.out j h3
        · rw [show j = i by omega, HX.out, HU.out, ← HY.out]
          exact HP.out p (by omega)
      · have hb1 := usr_no hu
        have HU := Lib.hid hu
        have HPP := Lib.hid hp
        clear hu hp
        go_wp2
        refine wp_region_shift (by kernel_rfl) (by kernel_rfl) ?_
        repeat (quiet_step (fail))
        refine wpQuiet_nil ?_
        intro _ hw'
        obtain ⟨⟨nq, osq⟩, hw''⟩ := hw'
        subst hw''
        have hz := belowT HBB.out (shift_below wr nq osq)
        clear c0 d0 HBB
        generalize shiftW wr nq osq = wz at hz ⊢
        have HBB := Lib.hid hz
        clear hz
        have HSP : Hid (SplitP l false i) := Lib.hid ⟨hi1, by rw [HL.out]; exact hin, HP.out, .inr (by rw [show i - 1 = p by have := HPP.out; omega, HX.out, HY.out]; exact HU.out)⟩
        obtain ⟨b, off, hva⟩ := HSO.out
        clear HSO
        cases hva
        have HFR : Hid (∀ w0, RdE w0 (.slice (some ⟨b, off, none⟩) n c) l → RdE w0 (.slice (some ⟨b, off, none⟩) i c) (l.take i)) := Lib.hid (fun w0 h => by have e := HL.out; rw [← e] at h; exact h.front i (by omega))
        have hic : i ≤ c := by omega
        have hin0 : i ≤ n := by omega
        have hinz : (i : Int) ≤ (n : Int) := by omega
        by_cases hci : c = i
        · have HFM : Hid (∀ w0, RdE w0 (.slice (some ⟨b, off, none⟩) n c) l → RdE w0 (.slice (some ⟨b, off, none⟩) (n - i) 0) (l.drop i)) := Lib.hid (fun w0 h => by
            have e := HL.out
            rw [← e] at h
            exact h.from_ i (by omega) (fun h1 => by omega) (by omega) (by omega))
          have HFR := Lib.hid (show ∀ w0, RdE w0 (.slice (some ⟨b, off, none⟩) n c) l → RdE w0 (.slice (some ⟨b, off, none⟩) i i) (l.take i) from fun w0 h => by have h2 := HFR.out w0 h; rw [hci] at h2; exact h2)
          go_wp2
          refine wp_region_shift (by kernel_rfl) (by kernel_rfl) ?_
          repeat (quiet_step (fail))
          refine wpQuiet_nil ?_
          intro _ hw'
          obtain ⟨⟨nq, osq⟩, hw''⟩ := hw'
          subst hw''
          have hz := belowT HBB.out (shift_below wz nq osq)
          clear HBB
          generalize shiftW wz nq osq = w9 at hz ⊢
          have HBB := Lib.hid hz
          clear hz
          go_wp2
          go_ret2
          exact ⟨_, _, i, rfl, HSP.out, fun w0 h => ⟨HFR.out w0 h, HFM.out w0 h⟩, HBB.out⟩
        · have HFM : Hid (∀ w0, RdE w0 (.slice (some ⟨b, off, none⟩) n c) l → RdE w0 (.slice (some ⟨b, off + i * 4, none⟩) (n - i) (c - i)) (l.drop i)) := Lib.hid (fun w0 h => by
            have e := HL.out
            rw [← e] at h
            exact h.from_ i (by omega) (fun _ => rfl) rfl (by omega))
          go_wp2
          refine wp_region_shift (by kernel_rfl) (by kernel_rfl) ?_
          repeat (quiet_step (fail))
          refine wpQuiet_nil ?_
          intro _ hw'
          obtain ⟨⟨nq, osq⟩, hw''⟩ := hw'
          subst hw''
          have hz := belowT HBB.out (shift_below wz nq osq)
          clear HBB
          generalize shiftW wz nq osq = w9 at hz ⊢
          have HBB := Lib.hid hz
          clear hz
          go_wp2
          go_ret2
          exact ⟨_, _, i, rfl, HSP.out, fun w0 h => ⟨HFR.out w0 h, HFM.out w0 h⟩, HBB.out⟩
    · have hiz : ¬ (i : Int) < (n : Int) := by omega
      have HSP : Hid (SplitP l false i) := Lib.hid ⟨hi1, by rw [HL.out]; exact hin, HP.out, .inl (by rw [HL.out]; omega)⟩
      have HI0 : Hid (n ≤ i) := Lib.hid hi0
      clear hi0
      have hid := HBB.out.drew
      obtain ⟨wd, hwd⟩ : ∃ wd, wd = wr.drew := ⟨_, rfl⟩
      rw [← hwd] at hid
      clear HBB
      have HBB := Lib.hid hid
      have HWD := Lib.hid hwd
      clear hid hwd
      go_wp2
      refine wp_region_plan [(true, 0), (true, 1), (true, 2), (true, 3), (true, 4), (true, 5), (true, 6), (true, 7), (true, 8), (true, 9), (true, 10), (true, 11), (true, 12), (true, 13), (true, 14), (true, 15), (true, 16), (true, 17), (true, 18), (true, 19)] (by kernel_rfl) (by kernel_rfl) (by kernel_rfl) (by kernel_rfl) (by kernel_rfl) ?_
      simp only [planO, List.drop_succ_cons, List.drop_zero]
      refine PlanO.take (v := ?vB0) (by kernel_rfl) ?yB0 ?rB0
      case yB0 => (intro wz hz; go_simp; try with_reducible rfl)
      (try simp only [Act.put, List.setIfInBounds_toArray, List.set_cons_zero, List.set_cons_succ])
      refine PlanO.take (v := ?vB1) (by kernel_rfl) ?yB1 ?rB1
      case yB1 => (intro wz hz; go_simp; try with_reducible rfl)
      (try simp only [Act.put, List.setIfInBounds_toArray, List.set_cons_zero, List.set_cons_succ])
      refine PlanO.take (v := ?vB2) (by kernel_rfl) ?yB2 ?rB2
      case yB2 => (intro wz hz; go_simp; try with_reducible rfl)
      (try simp only [Act.put, List.setIfInBounds_toArray, List.set_cons_zero, List.set_cons_succ])
      refine PlanO.take (v := .bool false) (by kernel_rfl) ?yB3 ?rB3
      case yB3 => (intro wz hz; go_simp; first | with_reducible rfl | exact HI0.out)
      (try simp only [Act.put, List.setIfInBounds_toArray, List.set_cons_zero, List.set_cons_succ])
      refine PlanO.take (v := .bool false) (by kernel_rfl) ?yB4 ?rB4
      case yB4 => (intro wz hz; go_simp; try with_reducible rfl)
      (try simp only [Act.put, List.setIfInBounds_toArray, List.set_cons_zero, List.set_cons_succ])
      refine PlanO.skip (by kernel_rfl) ?_
      (try simp only [Act.put, List.setIfInBounds_toArray, List.set_cons_zero, List.set_cons_succ])
      refine PlanO.skip (by kernel_rfl) ?_
      (try simp only [Act.put, List.setIfInBounds_toArray, List.set_cons_zero, List.set_cons_succ])
      refine PlanO.skip (by kernel_rfl) ?_
      (try simp only [Act.put, List.setIfInBounds_toArray, List.set_cons_zero, List.set_cons_succ])
      refine PlanO.skip (by kernel_rfl) ?_
      (try simp only [Act.put, List.setIfInBounds_toArray, List.set_cons_zero, List.set_cons_succ])
      refine PlanO.skip (by kernel_rfl) ?_
      (try simp only [Act.put, List.setIfInBounds_toArray, List.set_cons_zero, List.set_cons_succ])
      refine PlanO.skip (by kernel_rfl) ?_
      (try simp only [Act.put, List.setIfInBounds_toArray, List.set_cons_zero, List.set_cons_succ])
      refine PlanO.skip (by kernel_rfl) ?_
      (try simp only [Act.put, List.setIfInBounds_toArray, List.set_cons_zero, List.set_cons_succ])
      refine PlanO.skip (by kernel_rfl) ?_
      (try simp only [Act.put, List.setIfInBounds_toArray, List.set_cons_zero, List.set_cons_succ])
      refine PlanO.skip (by kernel_rfl) ?_
      (try simp only [Act.put, List.setIfInBounds_toArray, List.set_cons_zero, List.set_cons_succ])
      refine PlanO.skip (by kernel_rfl) ?_
      (try simp only [Act.put, List.setIfInBounds_toArray, List.set_cons_zero, List.set_cons_succ])
      refine PlanO.skip (by kernel_rfl) ?_
      (try simp only [Act.put, List.setIfInBounds_toArray, List.set_cons_zero, List.set_cons_succ])
      refine PlanO.skip (by kernel_rfl) ?_
      (try simp only [Act.put, List.setIfInBounds_toArray, List.set_cons_zero, List.set_cons_succ])
      refine PlanO.skip (by kernel_rfl) ?_
      (try simp only [Act.put, List.setIfInBounds_toArray, List.set_cons_zero, List.set_cons_succ])
      refine PlanO.skip (by kernel_rfl) ?_
      (try simp only [Act.put, List.setIfInBounds_toArray, List.set_cons_zero, List.set_cons_succ])
      refine PlanO.take (v := ?vB19) (by kernel_rfl) ?yB19 ?rB19
      case yB19 => (intro wz hz; go_simp; try with_reducible rfl)
      (try simp only [Act.put, List.setIfInBounds_toArray, List.set_cons_zero, List.set_cons_succ])
      refine PlanO.done (NoPanic.normal ?_)
      rw [← HWD.out]
      clear HWD
      obtain ⟨b, off, hva⟩ := HSO.out
      clear HSO
      cases hva
      have HFR : Hid (∀ w0, RdE w0 (.slice (some ⟨b, off, none⟩) n c) l → RdE w0 (.slice (some ⟨b, off, none⟩) i c) (l.take i)) := Lib.hid (fun w0 h => by have e := HL.out; rw [← e] at h; exact h.front i (by omega))
      have hic : i ≤ c := by omega
      have hin0 : i ≤ n := by omega
      have hinz : (i : Int) ≤ (n : Int) := by omega
      by_cases hci : c = i
      · have HFM : Hid (∀ w0, RdE w0 (.slice (some ⟨b, off, none⟩) n c) l → RdE w0 (.slice (some ⟨b, off, none⟩) (n - i) 0) (l.drop i)) := Lib.hid (fun w0 h => by
          have e := HL.out
          rw [← e] at h
          exact h.from_ i (by omega) (fun h1 => by omega) (by omega) (by omega))
        have HFR := Lib.hid (show ∀ w0, RdE w0 (.slice (some ⟨b, off, none⟩) n c) l → RdE w0 (.slice (some ⟨b, off, none⟩) i i) (l.take i) from fun w0 h => by have h2 := HFR.out w0 h; rw [hci] at h2; exact h2)
        go_wp2
        refine wp_region_shift (by kernel_rfl) (by kernel_rfl) ?_
        repeat (quiet_step (fail))
        refine wpQuiet_nil ?_
        intro _ hw'
        obtain ⟨⟨nq, osq⟩, hw''⟩ := hw'
        subst hw''
        have hz := belowT HBB.out (shift_below wd nq osq)
        clear HBB
        generalize shiftW wd nq osq = w9 at hz ⊢
        have HBB := Lib.hid hz
        clear hz
        go_wp2
        go_ret2
        exact ⟨_, _, i, rfl, HSP.out, fun w0 h => ⟨HFR.out w0 h, HFM.out w0 h⟩, HBB.out⟩
      · have HFM : Hid (∀ w0, RdE w0 (.slice (some ⟨b, off, none⟩) n c) l → RdE w0 (.slice (some ⟨b, off + i * 4, none⟩) (n - i) (c - i)) (l.drop i)) := Lib.hid (fun w0 h => by
          have e := HL.out
          rw [← e] at h
          exact h.from_ i (by omega) (fun _ => rfl) rfl (by omega))
        go_wp2
        refine wp_region_shift (by kernel_rfl) (by kernel_rfl) ?_
        repeat (quiet_step (fail))
        refine wpQuiet_nil ?_
        intro _ hw'
        obtain ⟨⟨nq, osq⟩, hw''⟩ := hw'
        subst hw''
        have hz := belowT HBB.out (shift_below wd nq osq)
        clear HBB
        generalize shiftW wd nq osq = w9 at hz ⊢
        have HBB := Lib.hid hz
        clear hz
        go_wp2
        go_ret2
        exact ⟨_, _, i, rfl, HSP.out, fun w0 h => ⟨HFR.out w0 h, HFM.out w0 h⟩, HBB.out⟩
end Go.Proofs.Ytnmmeaoapfampaa

/-
  Package merge: what is seen of one user's entries.
-/
namespace Go.Proofs.Ytnmmeaoapfampaa
open Go.RowKit

set_option maxRecDepth 100000 in
set_option maxHeartbeats 400000 in
theorem index_any {a : Option Addr} {c n : Nat} {l : List Ent} (k : Nat) (caps : Array Value) (hen : Enters Try.prog k) {w : World} (hr : RdE w (.slice a n c) l) (hln : l.length = n) (hn : n ≤ 1000) (p : Nat → Bool)
    (hf : ∀ (i : Nat) wz, i < n → Below w.heap.size w wz → Calls Try.prog k (#[entV (l.getD i Ent.none_)] ++ caps) wz fun e w' => e = .returned (.bool (p i)) ∧ Below wz.heap.size wz w') :
    Calls Try.prog 37 #[.slice a n c, .func (.func k) #[] caps] w fun e w' => ∃ r : Int, e = .returned (.int .i64 r) ∧ Below w.heap.size w w' ∧ ((r = -1 ∧ ∀ i, i < n → p i = false) ∨ ∃ m : Nat, m < n ∧ r = (m : Int) ∧ p m = true ∧ ∀ i, i < m → p i = false) := by
  have HF := Lib.hid hf
  have HR := Lib.hid hr
  have HL := Lib.hid hln
  unfold Enters at hen
  clear hf hr hln
  go_enter Try.func37, Try.ntmps37
  go_wp2
  go_loopw [8] (fun x wr => ∃ i : Nat, i ≤ n ∧ x = .int .i64 (i : Int) ∧ Hid (∀ j, j < i → p j = false) ∧ Hid (Below w.heap.size w wr)) (fun x _ => n - (intOf x).toNat)
  case atStart => exact ⟨0, Nat.zero_le _, rfl, Lib.hid (fun j h => by omega), Lib.hid (Below.refl _ _)⟩
  case round =>
    obtain ⟨i, hin, rfl, HP, HB⟩ := hrel
    by_cases hlt : i < n
    · have hltz : (i : Int) < (n : Int) := by omega
      have HFI := HF.out i wr hlt HB.out
      obtain ⟨b, off, cap, hv, _, _, hb, hc⟩ := HR.out.at_ (by intro e; have := HL.out; rw [e] at this; simp at this; omega)
      rw [HL.out] at hv
      cases hv
      obtain ⟨x0, x1, x2, x3⟩ := hc i (by rw [HL.out]; exact hlt)
      have c0 := (HB.out.cell (p := ⟨b, off + i * 4, none⟩) hb).trans x0
      have c1 := (HB.out.cell (p := ⟨b, off + i * 4 + 1, none⟩) hb).trans x1
      have c2 := (HB.out.cell (p := ⟨b, off + i * 4 + 2, none⟩) hb).trans x2
      have c3 := (HB.out.cell (p := ⟨b, off + i * 4 + 3, none⟩) hb).trans x3
      clear x0 x1 x2 x3 hc
      cases hp : p i with
      | false =>
        have HP2 : Hid (∀ j, j < i + 1 → p j = false) := Lib.hid fun j hj => by
          rcases Nat.lt_or_ge j i with h | h
          · exact HP.out j h
          · obtain rfl : j = i := by omega
            exact hp
        rw [hp] at HFI
        have HFJ := Lib.hid HFI
        clear hp HFI
        go_wp2_with (go_at_fn k; (refine HFJ.out.mono ?_); rintro e w' ⟨rfl, hb1⟩; have HBN := Lib.hid (belowT HB.out hb1); clear hb1)
        exact ⟨⟨i + 1, hlt, by go_num, HP2, HBN⟩, by simp [intOf]; omega⟩
      | true =>
        rw [hp] at HFI
        have HFJ := Lib.hid HFI
        have HPI := Lib.hid hp
        clear hp HFI
        go_wp2_with (go_at_fn k; (refine HFJ.out.mono ?_); rintro e w' ⟨rfl, hb1⟩; have HBN := Lib.hid (belowT HB.out hb1); clear hb1)
        go_ret
        exact ⟨_, rfl, HBN.out, .inr ⟨i, hlt, rfl, HPI.out, HP.out⟩⟩
    · have hltz : ¬ (i : Int) < (n : Int) := by omega
      go_wp2
      go_ret
      exact ⟨_, rfl, HB.out, .inl ⟨rfl, fun j hj => HP.out j (by omega)⟩⟩

theorem enters_older : Enters Try.prog 38 := enters_of Try.func38 (by kernel_rfl) rfl
set_option maxRecDepth 100000 in
theorem older_any {q : Nat} {seq : Int} {w : World} (e : Ent) (h : w.heap[q]? = some (.cells #[.int .i64 seq] 3 (0, 0))) :
    Calls Try.prog 38 #[entV e, .pointer (some ⟨q, 0, none⟩)] w fun r w' => r = .returned (.bool (decide (e.s ≤ seq))) ∧ Below w.heap.size w w' := by
  obtain ⟨u, s, k, v⟩ := e
  have hb : Below w.heap.size w (w.alloc (.cells #[.string u, .int .i64 s, .int .i64 k, .string v] 38)) := (Below.refl _ _).alloc (Nat.le_refl _) _
  have HB := Lib.hid hb
  have c0 : (w.alloc (.cells #[.string u, .int .i64 s, .int .i64 k, .string v] 38)).cell? ⟨q, 0, none⟩ = some (.int .i64 seq) := (hb.cell (p := ⟨q, 0, none⟩) (blk_lt h)).trans (blk_cell (i := 0) h)
  clear hb h
  go_enter Try.func38, Try.ntmps38
  go_wp2
  go_ret
  exact ⟨rfl, HB.out⟩

/-- What is seen of one user's entries. -/
def seenE (l : List Ent) (seq : Int) : Option (ByteArray × ByteArray) := match l.find? (fun e => decide (e.s ≤ seq)) with
  | some e => if e.k = 1 then some (e.u, e.v) else none
  | none => none
/-- A pair, or none, as two values. -/
def ansP : Option (ByteArray × ByteArray) → Value
  | none => .tuple #[.agg #[.string ⟨#[]⟩, .string ⟨#[]⟩], .bool false]
  | some x => .tuple #[.agg #[.string x.1, .string x.2], .bool true]
theorem find_none {l : List Ent} {seq : Int} (h : ∀ i, i < l.length → decide ((l.getD i Ent.none_).s ≤ seq) = false) : seenE l seq = none := by
  have : l.find? (fun e => decide (e.s ≤ seq)) = none := List.find?_eq_none.2 fun x hx => by
    obtain ⟨i, hi, rfl⟩ := List.mem_iff_getElem.1 hx
    have := h i hi
    rw [show l.getD i Ent.none_ = l[i] by simp [List.getD, hi]] at this
    simp [this]
  unfold seenE
  rw [this]
theorem find_some {l : List Ent} {seq : Int} {m : Nat} (hm : m < l.length) (h1 : decide ((l.getD m Ent.none_).s ≤ seq) = true) (h : ∀ i, i < m → decide ((l.getD i Ent.none_).s ≤ seq) = false) :
    seenE l seq = if (l.getD m Ent.none_).k = 1 then some ((l.getD m Ent.none_).u, (l.getD m Ent.none_).v) else none := by
  have e : l.getD m Ent.none_ = l[m] := by simp [List.getD, hm]
  have : l.find? (fun e => decide (e.s ≤ seq)) = some (l.getD m Ent.none_) := by
    rw [List.find?_eq_some_iff_getElem]
    refine ⟨h1, m, hm, e.symm, fun j hj => ?_⟩
    have := h j hj
    rw [show l.getD j Ent.none_ = l[j] by simp [List.getD, show j < l.length by omega]] at this
    simp [this]
  unfold seenE
  rw [this]
theorem set2 {w w1 w2 : World} {q t : Nat} {c0 c1 v0 v1 : Value} (h : w.heap[q]? = some (.cells #[c0, c1] t (0, 0))) (h1 : w1 = w.setCell ⟨q, 0, none⟩ v0) (h2 : w2 = w1.setCell ⟨q, 1, none⟩ v1) :
    w2.heap[q]? = some (.cells #[v0, v1] t (0, 0)) ∧ ∀ B, B ≤ q → ∀ a : World, Below B a w → Below B a w2 := by
  have r1 : w1.heap[q]? = some (.cells #[v0, c1] t (0, 0)) := by rw [h1, blk_set h]; rfl
  have r2 : w2.heap[q]? = some (.cells #[v0, v1] t (0, 0)) := by rw [h2, blk_set r1]; rfl
  refine ⟨r2, fun B hB a hb => ?_⟩
  have k0 := Kept.of hb (R := fun k => k < B) fun _ h => h
  have k1 : Kept (fun k => k < B) a w1 := by rw [h1]; exact k0.setCell (by show ¬ q < B; omega) _
  have k2 : Kept (fun k => k < B) a w2 := by rw [h2]; exact k1.setCell (by show ¬ q < B; omega) _
  exact Kept.below k2 fun _ h => h

set_option maxRecDepth 100000 in
set_option maxHeartbeats 1000000 in
theorem seen_any {a : Option Addr} {c n : Nat} {l : List Ent} (seq : Int) {w : World} (hr : RdE w (.slice a n c) l) (hln : l.length = n) (hn : n ≤ 1000) :
    Calls Try.prog 27 #[.slice a n c, .int .i64 seq] w fun e w' => e = .returned (ansP (seenE l seq)) ∧ Below w.heap.size w w' := by
  obtain ⟨W, hW⟩ : ∃ W, W = (w.alloc (.cells #[.int .i64 seq] 3)).alloc (.cells #[.string ⟨#[]⟩, .string ⟨#[]⟩] 42) := ⟨_, rfl⟩
  have HB : Hid (Below w.heap.size w W) := Lib.hid (by rw [hW]; exact ((Below.refl _ _).alloc (Nat.le_refl _) _).alloc (by simp) _)
  have h1 : W.heap[w.heap.size]? = some (.cells #[.int .i64 seq] 3 (0, 0)) := by rw [hW, Below.heap_alloc _ _ _ (by simp)]; exact heap_alloc_new w _
  have h2 : W.heap[w.heap.size + 1]? = some (.cells #[.string ⟨#[]⟩, .string ⟨#[]⟩] 42 (0, 0)) := by rw [hW]; have := heap_alloc_new (w.alloc (.cells #[.int .i64 seq] 3)) (.cells #[.string ⟨#[]⟩, .string ⟨#[]⟩] 42); simpa using this
  have HI := Lib.hid (index_any _ #[.pointer (some ⟨w.heap.size, 0, none⟩)] enters_older (hr.below HB.out (Nat.le_refl _)) hln hn (fun i => decide ((l.getD i Ent.none_).s ≤ seq)) fun i wz hi hb => older_any (l.getD i Ent.none_) ((hb.block _ (blk_lt h1)).trans h1))
  have HRD := Lib.hid hr
  have HLN := Lib.hid hln
  have H2 := Lib.hid h2
  have HW := Lib.hid hW
  clear hr hln h1 h2 hW
  go_enter Try.func27, Try.ntmps27
  go_upto_region 1 with (fail)
  rw [← HW.out]
  clear HW
  go_upto_region 2 with (go_at_call 37; (refine HI.out.mono ?_); rintro e w1 ⟨r, rfl, hb1, hres⟩; have HB1 := Lib.hid (belowT HB.out hb1); have HR1 := Lib.hid ((hb1.block _ (blk_lt H2.out)).trans H2.out); have HRES := Lib.hid hres; clear hb1 hres)
  have q0 := blk_cell (i := 0) HR1.out
  replace q0 : w1.cell? ⟨w.heap.size + 1, 0, none⟩ = some (.string ⟨#[]⟩) := q0
  have q1 := blk_cell (i := 1) HR1.out
  replace q1 : w1.cell? ⟨w.heap.size + 1, 1, none⟩ = some (.string ⟨#[]⟩) := q1
  have qf : ∀ o, w1.frozen? ⟨w.heap.size + 1, o, none⟩ = false := fun o => blk_free HR1.out
  rcases HRES.out with ⟨rfl, hall⟩ | ⟨m, hm, rfl, hp, hall⟩
  · have HN := Lib.hid (find_none (l := l) (seq := seq) fun i hi => hall i (by have := HLN.out; omega))
    clear hall HRES
    go_wp2
    refine bodyPost_ret (results_row_tmp rfl _ _ (w.heap.size + 1) 42 #[.string ⟨#[]⟩, .string ⟨#[]⟩] (0, 0) _ rfl ?hgE Try.underlying42 rfl (by kernel_rfl)) rfl ?_
    case hgE => exact (set2 HR1.out rfl rfl).1
    rw [HN.out]
    exact ⟨rfl, (set2 HR1.out rfl rfl).2 _ (Nat.le_succ _) _ HB1.out⟩
  · have HS := Lib.hid (find_some (l := l) (seq := seq) (m := m) (by rw [HLN.out]; exact hm) hp hall)
    obtain ⟨b, off, cap, hv, _, _, hb, hc⟩ := HRD.out.at_ (by intro e; have := HLN.out; rw [e] at this; simp at this; omega)
    rw [HLN.out] at hv
    cases hv
    obtain ⟨x0, x1, x2, x3⟩ := hc m (by rw [HLN.out]; exact hm)
    obtain ⟨X, hX⟩ : ∃ X, l.getD m Ent.none_ = X := ⟨_, rfl⟩
    rw [hX] at x0 x1 x2 x3 HS
    obtain ⟨xu, xs, xk, xv⟩ := X
    dsimp only at x0 x1 x2 x3
    have c0 := (HB1.out.cell (p := ⟨b, off + m * 4, none⟩) hb).trans x0
    have c2 := (HB1.out.cell (p := ⟨b, off + m * 4 + 2, none⟩) hb).trans x2
    have c3 := (HB1.out.cell (p := ⟨b, off + m * 4 + 3, none⟩) hb).trans x3
    have hmz : (m : Int) < (n : Int) := by omega
    have hm0 : ¬ (m : Int) < 0 := by omega
    clear x0 x1 x2 x3 hc hp hall HRES hX
    by_cases hk : xk = 1
    · have HS2 : Hid (seenE l seq = some (xu, xv)) := Lib.hid (by rw [HS.out, if_pos hk])
      clear HS
      go_wp2
      go_big_region
      go_wp2
      refine bodyPost_ret (results_row_tmp rfl _ _ (w.heap.size + 1) 42 #[.string xu, .string xv] (0, 0) _ rfl ?hgF Try.underlying42 rfl (by kernel_rfl)) rfl ?_
      case hgF => exact (set2 HR1.out rfl rfl).1
      rw [HS2.out]
      exact ⟨rfl, ((set2 HR1.out rfl rfl).2 _ (Nat.le_succ _) _ HB1.out).drew⟩
    · have HS2 : Hid (seenE l seq = none) := Lib.hid (by rw [HS.out, if_neg hk])
      clear HS
      go_wp2
      refine bodyPost_ret (results_row_tmp rfl _ _ (w.heap.size + 1) 42 #[.string ⟨#[]⟩, .string ⟨#[]⟩] (0, 0) _ rfl ?hgG Try.underlying42 rfl (by kernel_rfl)) rfl ?_
      case hgG => exact (set2 HR1.out rfl rfl).1
      rw [HS2.out]
      exact ⟨rfl, (set2 HR1.out rfl rfl).2 _ (Nat.le_succ _) _ HB1.out⟩
end Go.Proofs.Ytnmmeaoapfampaa

/-
  Package merge: plain facts: what is seen, user by user.
-/
namespace Go.Proofs.Ytnmmeaoapfampaa
open Go.RowKit

theorem usr_le_trans {a b c : ByteArray} (h1 : cmpL a.data.toList b.data.toList ≤ 0) (h2 : cmpL b.data.toList c.data.toList ≤ 0) : cmpL a.data.toList c.data.toList ≤ 0 := by
  have h := cmpL_three a.data.toList b.data.toList c.data.toList
  have s1 := cmpL_sgn a.data.toList b.data.toList
  have s2 := cmpL_sgn b.data.toList c.data.toList
  unfold Three Sgn at *
  omega
theorem mem_getD {l : List Ent} {x : Ent} (h : x ∈ l) : ∃ i, i < l.length ∧ x = l.getD i Ent.none_ := by
  obtain ⟨i, hi, rfl⟩ := List.mem_iff_getElem.1 h
  exact ⟨i, hi, by simp [List.getD, hi]⟩
theorem mem_take {l : List Ent} {x : Ent} {m : Nat} (h : x ∈ l.take m) : ∃ i, i < m ∧ i < l.length ∧ x = l.getD i Ent.none_ := by
  obtain ⟨i, hi, rfl⟩ := List.mem_iff_getElem.1 h
  rw [List.length_take] at hi
  exact ⟨i, by omega, by omega, by rw [List.getElem_take]; simp [List.getD, show i < l.length by omega]⟩
theorem mem_drop {l : List Ent} {x : Ent} {m : Nat} (h : x ∈ l.drop m) : ∃ i, m ≤ i ∧ i < l.length ∧ x = l.getD i Ent.none_ := by
  obtain ⟨i, hi, rfl⟩ := List.mem_iff_getElem.1 h
  rw [List.length_drop] at hi
  exact ⟨m + i, by omega, by omega, by rw [List.getElem_drop]; simp [List.getD, show m + i < l.length by omega]⟩

/-- Two parts that no user has a share in both of. -/
theorem rows_app {p : Ent → Bool} {A B : List Ent} (h : ∀ x ∈ A, ∀ y ∈ B, x.u ≠ y.u) : rowsV p (A ++ B) (A ++ B).length = rowsV p A A.length ++ rowsV p B B.length := by
  have key : ∀ n, n ≤ B.length → rowsV p (A ++ B) (A.length + n) = rowsV p A A.length ++ rowsV p B n := by
    intro n
    induction n with
    | zero =>
      intro _
      have hA : ∀ n, n ≤ A.length → rowsV p (A ++ B) n = rowsV p A n := by
        intro n
        induction n with
        | zero => intro _; rfl
        | succ n ih =>
          intro hn
          have e1 : (A ++ B).getD n Ent.none_ = A.getD n Ent.none_ := by simp [List.getD, List.getElem?_append_left (show n < A.length by omega)]
          have e2 : tookV p (A ++ B) n = tookV p A n := by
            unfold tookV seenV
            rw [e1, List.take_append_of_le_length (by omega)]
          rw [rows_succ, rows_succ, ih (by omega), e1, e2]
      rw [Nat.add_zero, hA _ (Nat.le_refl _)]
      simp [rowsV]
    | succ n ih =>
      intro hn
      have e1 : (A ++ B).getD (A.length + n) Ent.none_ = B.getD n Ent.none_ := by simp [List.getD, List.getElem?_append_right]
      have hB : B.getD n Ent.none_ ∈ B := by
        simp only [List.getD, List.getElem?_eq_getElem (show n < B.length by omega), Option.getD_some]
        exact List.getElem_mem _
      have e2 : tookV p (A ++ B) (A.length + n) = tookV p B n := by
        unfold tookV seenV
        rw [e1, List.take_append, List.take_of_length_le (by omega), Nat.add_sub_cancel_left, List.any_append]
        have hF : (A.any fun x => decide (x.u = (B.getD n Ent.none_).u) && p x) = false := List.any_eq_false.2 fun x hx => by
          rw [decide_eq_false (h x hx _ hB)]; simp
        rw [hF, Bool.false_or]
      rw [← Nat.add_assoc, rows_succ, rows_succ, ih (by omega), e1, e2, List.append_assoc]
  rw [List.length_append]
  exact key _ (Nat.le_refl _)
theorem whole_app {A B : List Ent} (seq : Int) (h : ∀ x ∈ A, ∀ y ∈ B, x.u ≠ y.u) : wholeV (A ++ B) seq = wholeV A seq ++ wholeV B seq := by
  unfold wholeV
  rw [rows_app h, pairs_append]
/-- One user. -/
theorem whole_one {G : List Ent} (seq : Int) (h : ∀ x ∈ G, ∀ y ∈ G, x.u = y.u) : wholeV G seq = (seenE G seq).toList := by
  have key : ∀ n, n ≤ G.length → rowsV (inS seq) G n = ((G.take n).find? (inS seq)).toList := by
    intro n
    induction n with
    | zero => intro _; simp [rowsV]
    | succ n ih =>
      intro hn
      have hg : G.getD n Ent.none_ ∈ G := by
        simp only [List.getD, List.getElem?_eq_getElem (show n < G.length by omega), Option.getD_some]
        exact List.getElem_mem _
      have e1 : G.take (n + 1) = G.take n ++ [G.getD n Ent.none_] := by
        rw [List.take_succ_eq_append_getElem (by omega)]
        simp [List.getD, show n < G.length by omega]
      rw [rows_succ, ih (by omega), e1, List.find?_append]
      cases hf : (G.take n).find? (inS seq) with
      | some e =>
        have he := List.find?_some hf
        have hm := List.mem_of_find?_eq_some hf
        have hs : tookV (inS seq) G n = false := by
          unfold tookV
          have : seenV (inS seq) G n (G.getD n Ent.none_).u = true := by
            unfold seenV
            rw [List.any_eq_true]
            exact ⟨e, hm, by rw [he, h e (List.mem_of_mem_take hm) _ hg]; simp⟩
          rw [this]; simp
        rw [hs]
        simp
      | none =>
        have hs : tookV (inS seq) G n = inS seq (G.getD n Ent.none_) := by
          unfold tookV
          have : seenV (inS seq) G n (G.getD n Ent.none_).u = false := by
            unfold seenV
            rw [List.any_eq_false]
            intro x hx
            have := List.find?_eq_none.1 hf x hx
            simp [this]
          rw [this]; simp
        rw [hs]
        generalize G.getD n Ent.none_ = z
        cases hi : inS seq z <;> simp [hi]
  have h1 := key _ (Nat.le_refl _)
  rw [List.take_length] at h1
  unfold wholeV seenE
  rw [h1]
  have e : (inS seq) = fun e => decide (e.s ≤ seq) := rfl
  rw [e]
  cases G.find? (fun e => decide (e.s ≤ seq)) with
  | none => rfl
  | some x =>
    unfold pairsV
    by_cases hk : x.k = 1 <;> simp [hk]
theorem whole_usr {M : List Ent} {seq : Int} {x : ByteArray × ByteArray} (h : x ∈ wholeV M seq) : ∃ e ∈ M, x.1 = e.u := by
  unfold wholeV pairsV at h
  obtain ⟨e, he, rfl⟩ := List.mem_map.1 h
  exact ⟨e, (rows_sub (Nat.le_refl _) (List.mem_filter.1 he).1).1, rfl⟩

theorem Cut.low {l : List Ent} {u : ByteArray} {m : Nat} (h : Cut l u m) (hu : Up l) {i : Nat} (hi : i < m) : notBelow u (l.getD i Ent.none_).u = false := by
  have h1 := h.ahead (by omega)
  have h2 := up_le hu (i := i) (j := m - 1) (by omega) (by have := h.le; omega)
  unfold notBelow at *
  rw [decide_eq_false_iff_not] at *
  intro h3
  have h4 := cmpL_turn (l.getD i Ent.none_).u.data.toList u.data.toList
  have h5 := cmpL_turn (l.getD (m - 1) Ent.none_).u.data.toList u.data.toList
  have h6 := cmpL_three u.data.toList (l.getD i Ent.none_).u.data.toList (l.getD (m - 1) Ent.none_).u.data.toList
  have s1 := cmpL_sgn u.data.toList (l.getD i Ent.none_).u.data.toList
  have s2 := cmpL_sgn (l.getD i Ent.none_).u.data.toList (l.getD (m - 1) Ent.none_).u.data.toList
  unfold Three Sgn at *
  omega
theorem Cut.high {l : List Ent} {u : ByteArray} {m : Nat} (h : Cut l u m) (hu : Up l) {i : Nat} (hi : m ≤ i) (hl : i < l.length) : notBelow u (l.getD i Ent.none_).u = true := by
  have h1 := h.at_ (by omega)
  have h2 := up_le hu (i := m) (j := i) hi hl
  unfold notBelow at *
  rw [decide_eq_true_eq] at *
  have h4 := cmpL_turn (l.getD i Ent.none_).u.data.toList u.data.toList
  have h5 := cmpL_turn (l.getD m Ent.none_).u.data.toList u.data.toList
  have := usr_le_trans (a := u) (by omega) h2
  omega
theorem inK_eq (lo hi u : ByteArray) : inK lo hi u = (notBelow lo u && (decide (hi.size = 0) || !notBelow hi u)) := by
  unfold inK notBelow
  congr 2
  by_cases h : cmpL u.data.toList hi.data.toList < 0
  · rw [decide_eq_true h, decide_eq_false (by omega)]; rfl
  · rw [decide_eq_false h, decide_eq_true (by omega)]; rfl
/-- What is seen between two keys is what is seen of the part between them. -/
theorem cut_whole {l : List Ent} (hu : Up l) {lo hi : ByteArray} {f g e : Nat} (seq : Int) (h1 : Cut l lo f) (h2 : if hi.size = 0 then e = l.length else Cut l hi e) (hg : g = max f e) : allV l seq lo hi = wholeV ((l.drop f).take (g - f)) seq := by
  have hd : l = l.take f ++ ((l.drop f).take (g - f) ++ l.drop g) := by
    have : l.drop g = (l.drop f).drop (g - f) := by rw [List.drop_drop]; congr 1; omega
    rw [this, List.take_append_drop, List.take_append_drop]
  have k1 : ∀ x ∈ l.take f, notBelow lo x.u = false := fun x hx => by
    obtain ⟨i, hi, _, rfl⟩ := mem_take hx
    exact h1.low hu hi
  have k2 : ∀ x ∈ l.drop f, notBelow lo x.u = true := fun x hx => by
    obtain ⟨i, hi, hl, rfl⟩ := mem_drop hx
    exact h1.high hu hi hl
  have k3 : ∀ x ∈ (l.drop f).take (g - f), inK lo hi x.u = true := fun x hx => by
    have hx2 := List.mem_of_mem_take hx
    obtain ⟨i, hi, hl, rfl⟩ := mem_take hx
    rw [List.length_drop] at hl
    have e1 : (l.drop f).getD i Ent.none_ = l.getD (f + i) Ent.none_ := by simp [List.getD]
    rw [inK_eq, k2 _ hx2, Bool.true_and, e1]
    split at h2
    · rename_i hs; simp [hs]
    · rename_i hs
      rw [h2.low hu (show f + i < e by omega)]
      simp
  have k4 : ∀ x ∈ l.drop g, inK lo hi x.u = false := fun x hx => by
    obtain ⟨i, hi, hl, rfl⟩ := mem_drop hx
    split at h2
    · omega
    · rename_i hs
      rw [inK_eq, h2.high hu (show e ≤ i by omega) hl]
      simp [hs]
  have k5 : ∀ x ∈ l.drop g, notBelow lo x.u = true := fun x hx => by
    obtain ⟨i, hi, hl, rfl⟩ := mem_drop hx
    exact h1.high hu (by omega) hl
  rw [all_cut]
  have d1 : ∀ x ∈ l.take f, ∀ y ∈ (l.drop f).take (g - f) ++ l.drop g, x.u ≠ y.u := fun x hx y hy e => by
    have a1 := k1 x hx
    have a2 : notBelow lo y.u = true := by
      rcases List.mem_append.1 hy with h | h
      · exact k2 y (List.mem_of_mem_take h)
      · exact k5 y h
    rw [e, a2] at a1
    cases a1
  have d2 : ∀ x ∈ (l.drop f).take (g - f), ∀ y ∈ l.drop g, x.u ≠ y.u := fun x hx y hy e => by
    have a1 := k3 x hx
    rw [e, k4 y hy] at a1
    cases a1
  have hw : wholeV l seq = wholeV (l.take f) seq ++ (wholeV ((l.drop f).take (g - f)) seq ++ wholeV (l.drop g) seq) := by
    rw [← whole_app seq d2, ← whole_app seq d1, ← hd]
  rw [hw, List.filter_append, List.filter_append]
  have f1 : (wholeV (l.take f) seq).filter (fun x => inK lo hi x.1) = [] := List.filter_eq_nil_iff.2 fun x hx => by
    obtain ⟨e, he, h⟩ := whole_usr hx
    rw [h, inK_eq, k1 e he]
    simp
  have f2 : (wholeV ((l.drop f).take (g - f)) seq).filter (fun x => inK lo hi x.1) = wholeV ((l.drop f).take (g - f)) seq := List.filter_eq_self.2 fun x hx => by
    obtain ⟨e, he, h⟩ := whole_usr hx
    rw [h]
    exact k3 e he
  have f3 : (wholeV (l.drop g) seq).filter (fun x => inK lo hi x.1) = [] := List.filter_eq_nil_iff.2 fun x hx => by
    obtain ⟨e, he, h⟩ := whole_usr hx
    rw [h, k4 e he]
    simp
  rw [f1, f2, f3, List.nil_append, List.append_nil]

/-- The last user's entries, and those ahead; the first user's, and those behind. -/
theorem split_whole {l : List Ent} (hu : Up l) {back : Bool} {m : Nat} (seq : Int) (h : SplitP l back m) : wholeV l seq = if back then wholeV (l.take m) seq ++ (seenE (l.drop m) seq).toList else (seenE (l.take m) seq).toList ++ wholeV (l.drop m) seq := by
  have hdis : 0 < m → m < l.length → (l.getD (m - 1) Ent.none_).u ≠ (l.getD m Ent.none_).u → ∀ x ∈ l.take m, ∀ y ∈ l.drop m, x.u ≠ y.u := fun h0 hm hne x hx y hy e => by
    obtain ⟨i, hi, _, rfl⟩ := mem_take hx
    obtain ⟨j, hj, hjl, rfl⟩ := mem_drop hy
    have a1 := up_le hu (i := i) (j := m - 1) (by omega) (by omega)
    have a2 := usr_lt (up_le hu (i := m - 1) (j := m) (by omega) hm) hne
    have a3 := up_le hu (i := m) (j := j) hj hjl
    have a4 := usr_le_trans a1 (by omega : cmpL (l.getD (m - 1) Ent.none_).u.data.toList (l.getD m Ent.none_).u.data.toList ≤ 0)
    have a5 := usr_le_trans a3 (c := (l.getD (m - 1) Ent.none_).u) (by rw [← e]; exact a1)
    have a6 := cmpL_turn (l.getD (m - 1) Ent.none_).u.data.toList (l.getD m Ent.none_).u.data.toList
    omega
  cases back with
  | true =>
    obtain ⟨h1, h2, h3⟩ := h
    have hd : wholeV l seq = wholeV (l.take m) seq ++ wholeV (l.drop m) seq := by
      rcases Nat.eq_zero_or_pos m with h0 | h0
      · subst h0; rfl
      · rw [← whole_app seq (hdis h0 h1 (h3.resolve_left (by omega))), List.take_append_drop]
    rw [hd, if_pos rfl, whole_one seq (G := l.drop m)]
    intro x hx y hy
    obtain ⟨i, hi, hil, rfl⟩ := mem_drop hx
    obtain ⟨j, hj, hjl, rfl⟩ := mem_drop hy
    rw [h2 i hi hil, h2 j hj hjl]
  | false =>
    obtain ⟨h0, h1, h2, h3⟩ := h
    have hd : wholeV l seq = wholeV (l.take m) seq ++ wholeV (l.drop m) seq := by
      rcases Nat.lt_or_ge m l.length with h4 | h4
      · rw [← whole_app seq (hdis h0 h4 ((h3.resolve_left (by omega)).symm)), List.take_append_drop]
      · rw [List.take_of_length_le h4, List.drop_of_length_le h4]
        simp [wholeV, rowsV, pairsV]
    rw [hd, if_neg (by simp), whole_one seq (G := l.take m)]
    intro x hx y hy
    obtain ⟨i, hi, _, rfl⟩ := mem_take hx
    obtain ⟨j, hj, _, rfl⟩ := mem_take hy
    rw [h2 i hi, h2 j hj]

/-- The other way round, or not. -/
def rvL {α : Type} (back : Bool) (l : List α) : List α := if back then l.reverse else l
theorem rv_step {l one left : List Ent} {back : Bool} {m : Nat} (hu : Up l) (seq : Int) (h : SplitP l back m) (h1 : one = if back then l.drop m else l.take m) (h2 : left = if back then l.take m else l.drop m) :
    rvL back (wholeV l seq) = (seenE one seq).toList ++ rvL back (wholeV left seq) := by
  rw [split_whole hu seq h]
  subst h1 h2
  cases back with
  | true =>
    simp only [rvL, if_true, List.reverse_append]
    congr 1
    cases seenE (l.drop m) seq <;> rfl
  | false => simp [rvL]
theorem rv_end {P T : List (ByteArray × ByteArray)} {most : Int} {back : Bool} {left : List Ent} {seq : Int} (h : P ++ rvL back (wholeV left seq) = rvL back T) (h1 : left = [] ∨ most ≤ P.length) (h2 : P.length ≤ most.toNat) : P = someV T back most := by
  unfold someV
  have e : (if back = true then T.reverse else T) = rvL back T := rfl
  rw [e, ← h]
  rcases h1 with h1 | h1
  · subst h1
    have : rvL back (wholeV [] seq) = [] := by cases back <;> rfl
    rw [this, List.append_nil, List.take_of_length_le h2]
  · rw [List.take_append_of_le_length (by omega), List.take_of_length_le (by omega)]
end Go.Proofs.Ytnmmeaoapfampaa

/-
  Package merge: what is seen of entries in order.
-/
namespace Go.Proofs.Ytnmmeaoapfampaa
open Go.RowKit

/-- How long a slice is. -/
def lenE : Value → Nat
  | .slice _ n _ => n
  | _ => 0
theorem info_pairs : (Try.prog.info? 42).map (fun i => (i.zero, i.size, i.bytes)) = some (some (.agg #[.string ⟨#[]⟩, .string ⟨#[]⟩]), 2, 32) := by kernel_rfl
/-- The parts of a split. -/
def oneV (back : Bool) (m : Nat) (l : List Ent) : List Ent := if back then l.drop m else l.take m
def restV (back : Bool) (m : Nat) (l : List Ent) : List Ent := if back then l.take m else l.drop m
theorem split_any {va : Option Addr} {c n : Nat} {l : List Ent} {w : World} (back : Bool) (hr : RdE w (.slice va n c) l) (hln : l.length = n) (hn : n ≤ 1000) (h0 : 0 < n) :
    Calls Try.prog 26 #[.slice va n c, .bool back] w fun e w' => ∃ x y m, e = .returned (.tuple #[x, y]) ∧ SplitP l back m ∧ (∀ w0, RdE w0 (.slice va n c) l → RdE w0 x (oneV back m l) ∧ RdE w0 y (restV back m l)) ∧ Below w.heap.size w w' := by
  cases back with
  | true => exact split_back hr hln hn h0
  | false => exact split_forth hr hln hn h0
theorem one_len (back : Bool) (m : Nat) (l : List Ent) : (oneV back m l).length ≤ l.length := by
  unfold oneV
  split
  · rw [List.length_drop]; omega
  · rw [List.length_take]; omega
theorem rest_less {back : Bool} {m : Nat} {l : List Ent} (h : SplitP l back m) (h0 : 0 < l.length) : (restV back m l).length < l.length := by
  cases back with
  | true => have := h.1; simp only [restV, if_true, List.length_take]; omega
  | false => have := h.1; simp only [restV, Bool.false_eq_true, if_false, List.length_drop]; omega
theorem rest_up {back : Bool} {m : Nat} {l : List Ent} (h : Up l) : Up (restV back m l) := by
  unfold restV
  split
  · exact h.sublist (List.take_sublist _ _)
  · exact h.sublist (List.drop_sublist _ _)

set_option maxRecDepth 100000 in
set_option maxHeartbeats 2000000 in
theorem view_any {va : Option Addr} {c n : Nat} {l : List Ent} {seq most : Int} (lo hi : ByteArray) (back : Bool) {w : World} (hr : RdE w (.slice va n c) l) (hln : l.length = n) (hn : n ≤ 1000) (hup : Up l) :
    Calls Try.prog 17 #[.slice va n c, .int .i64 seq, .string lo, .string hi, .bool back, .int .i64 most] w fun e w' => ∃ x, e = .returned x ∧ OwnP w' w.heap.size x (viewV l seq lo hi back most) ∧ Below w.heap.size w w' := by
  have HW : Hid (Calls Try.prog 25 #[.slice va n c, .string lo, .string hi] w fun e w' => ∃ (M : List Ent) (a : Option Addr) (cap : Nat), e = .returned (.slice a M.length cap) ∧ RdE w' (.slice a M.length cap) M ∧ allV l seq lo hi = wholeV M seq ∧ M.length ≤ 1000 ∧ Up M ∧ Below w.heap.size w w') := Lib.hid ((within_any lo hi hr hln hn).mono fun e w' ⟨x, f, g, e', h1, h2, h3, h4, h5, h6⟩ => by
    obtain ⟨a, cap, rfl, _, _⟩ := h2.form
    refine ⟨_, a, cap, h1, h2, cut_whole hup seq h3 h4 h5, ?_, (hup.sublist (List.drop_sublist _ _)).sublist (List.take_sublist _ _), h6⟩
    rw [List.length_take, List.length_drop]
    omega)
  clear hr hln hn
  go_enter Try.func17, Try.ntmps17
  go_wp2_with (go_at_call 25; (refine HW.out.mono ?_); rintro e w1 ⟨M, ma, mc, rfl, hrd, hall, hml, hmu, hb1⟩; have HALL := Lib.hid hall; have HML := Lib.hid hml; have HRM := Lib.hid hrd; have HMU := Lib.hid hmu; have HB1 := Lib.hid hb1; clear hall hml hrd hmu hb1)
  clear HW
  go_loopw [13, 14] (fun x13 x14 wr => ∃ (left : List Ent) (P : List (ByteArray × ByteArray)) (pa la : Option Addr) (pc lc : Nat), x13 = .slice pa P.length pc ∧ x14 = .slice la left.length lc ∧ Hid (OwnP wr w1.heap.size (.slice pa P.length pc) P) ∧ Hid (RdE w1 (.slice la left.length lc) left) ∧ Hid (P ++ rvL back (wholeV left seq) = rvL back (wholeV M seq)) ∧ Hid (Up left ∧ left.length ≤ 1000 ∧ P.length + left.length ≤ 1000 ∧ P.length ≤ most.toNat) ∧ Hid (Below w1.heap.size w1 wr)) (fun _ x14 _ => lenE x14)
  case atStart => exact ⟨M, [], none, ma, 0, mc, rfl, rfl, Lib.hid (World.ownsRow_nil _ _ _ _), HRM, Lib.hid rfl, Lib.hid ⟨HMU.out, HML.out, by have := HML.out; simpa using this, Nat.zero_le _⟩, Lib.hid (Below.refl _ _)⟩
  case round =>
    clear HRM HMU
    obtain ⟨left, P, pa, la, pc, lc, rfl, rfl, HP, HRD, HEQ, HF, HBB⟩ := hrel
    obtain ⟨pn, hpn⟩ : ∃ pn, P.length = pn := ⟨_, rfl⟩
    obtain ⟨ln, hln⟩ : ∃ ln, left.length = ln := ⟨_, rfl⟩
    rw [hpn] at HP ⊢
    rw [hln] at HRD ⊢
    have HPN := Lib.hid hpn
    have HLN := Lib.hid hln
    have hbig : ln ≤ 1000 ∧ pn + ln ≤ 1000 := by have := HF.out; omega
    obtain ⟨hl1, hl2⟩ := hbig
    clear hpn hln
    have HEND : Hid ((left = [] ∨ most ≤ P.length) → OwnP wr w.heap.size (.slice pa pn pc) (viewV l seq lo hi back most)) := Lib.hid fun h => by
      unfold viewV
      rw [HALL.out, ← rv_end HEQ.out h HF.out.2.2.2]
      exact own_monoP HP.out HB1.out.size
    rcases Nat.eq_zero_or_pos ln with h0 | h0
    · have hz : ¬ 0 < (ln : Int) := by omega
      have HE2 := Lib.hid (HEND.out (.inl (List.eq_nil_of_length_eq_zero (HLN.out.trans h0))))
      clear HEND h0
      go_wp2
      go_ret
      exact ⟨_, rfl, HE2.out, belowT HB1.out HBB.out⟩
    · have hz : 0 < (ln : Int) := by omega
      rcases Int.lt_or_le (pn : Int) most with hmo | hmo
      · have HSP := Lib.hid (split_any back (HRD.out.below HBB.out (Nat.le_refl _)) HLN.out hl1 h0)
        clear HEND
        go_upto_region 6 with (go_at_call 26; (refine HSP.out.mono ?_); rintro e w2 ⟨x, y, m, rfl, hs, h12, hb⟩; obtain ⟨h1, h2⟩ := h12 w1 HRD.out; obtain ⟨a1, c1, rfl, _, _⟩ := h1.form; obtain ⟨a2, c2, rfl, _, _⟩ := h2.form; have HS := Lib.hid hs; have H1 := Lib.hid h1; have H2 := Lib.hid h2; have HB2 := Lib.hid hb; clear hs h12 h1 h2 hb)
        have HQ := Lib.hid (rv_step (back := back) HF.out.1 seq HS.out rfl rfl)
        have HO1 := Lib.hid (one_len back m left)
        have HLE := Lib.hid (rest_less HS.out (by rw [HLN.out]; exact h0))
        have HRU : Hid (Up (restV back m left)) := Lib.hid (rest_up HF.out.1)
        change Hid (_ = (seenE (oneV back m left) seq).toList ++ rvL back (wholeV (restV back m left) seq)) at HQ
        generalize oneV back m left = one at *
        generalize restV back m left = rest at *
        have HSE := Lib.hid (seen_any seq (H1.out.below (belowT HBB.out HB2.out) (Nat.le_refl _)) rfl (by have := HO1.out; have := HLN.out; omega))
        obtain ⟨n1, hn1⟩ : ∃ n1, one.length = n1 := ⟨_, rfl⟩
        obtain ⟨n2, hn2⟩ : ∃ n2, rest.length = n2 := ⟨_, rfl⟩
        rw [hn1] at HSE ⊢
        rw [hn2]
        rw [hn2] at HLE
        have HN2 := Lib.hid hn2
        clear hn1 hn2 HSP
        cases ho : seenE one seq with
        | none =>
          rw [ho] at HSE HQ
          simp only [ansP] at HSE
          clear ho
          go_wp2_with (go_at_call 27; (refine HSE.out.mono ?_); rintro e w3 ⟨rfl, hb⟩; have HB3 := Lib.hid hb; clear hb)
          have hb3 := belowT HB2.out HB3.out
          have hb4 := hb3.alloc hb3.size (.cells #[.string ⟨#[]⟩, .string ⟨#[]⟩] 42)
          refine ⟨⟨rest, P, pa, a2, pc, c2, by rw [HPN.out], by rw [HN2.out], Lib.hid (by rw [HPN.out]; exact OwnP.below HP.out hb4), H2, Lib.hid (by have := HEQ.out; rw [HQ.out] at this; simpa using this), Lib.hid ⟨HRU.out, ?_, ?_, HF.out.2.2.2⟩, Lib.hid (belowT HBB.out hb4)⟩, ?_⟩
          · have := HLE.out; have := HLN.out; have := HN2.out; omega
          · have := HLE.out; have := HLN.out; have := HN2.out; have := HPN.out; omega
          · simp only [lenE]; have := HLE.out; have := HLN.out; omega
        | some p =>
          obtain ⟨pu, pv⟩ := p
          rw [ho] at HSE HQ
          simp only [ansP] at HSE
          clear ho
          go_upto_region 8 with (go_at_call 27; (refine HSE.out.mono ?_); rintro e w3 ⟨rfl, hb⟩; have HB3 := Lib.hid hb; clear hb)
          have hb3 := belowT HB2.out HB3.out
          have hb4 := hb3.alloc hb3.size (.cells #[.string pu, .string pv] 42)
          have hr4 := heap_alloc_new w3 (.cells #[.string pu, .string pv] 42)
          obtain ⟨q, hq⟩ : ∃ q, q = w3.heap.size := ⟨_, rfl⟩
          obtain ⟨w4, hw4⟩ : ∃ w4, w4 = w3.alloc (.cells #[.string pu, .string pv] 42) := ⟨_, rfl⟩
          rw [← hw4] at hb4 hr4 ⊢
          rw [← hq] at hr4 ⊢
          have r0 := blk_cell (i := 0) hr4
          replace r0 : w4.cell? ⟨q, 0, none⟩ = some (.string pu) := r0
          have r1 := blk_cell (i := 1) hr4
          replace r1 : w4.cell? ⟨q, 1, none⟩ = some (.string pv) := r1
          have HB4 := Lib.hid (belowT HBB.out hb4)
          have HO4 : Hid (w4.ownsRow w1.heap.size 42 2 (.slice pa pn pc) pn (P.flatMap cellsP)) := Lib.hid (by have h := OwnP.below HP.out hb4; unfold OwnP at h; rw [HPN.out] at h; exact h)
          clear hb3 hb4 hr4 hq hw4
          go_wp2_with (at_builtin; refine wpList_append_rd rfl (.tmp 44) (.tmp 46) 30 rfl w1.heap.size 42 2 32 (.agg #[.string ⟨#[]⟩, .string ⟨#[]⟩]) Try.underlying30 info_pair rfl (by decide) (.slice pa pn pc) (.slice (some ⟨w4.heap.size, 0, none⟩) 1 1) pn 1 (P.flatMap cellsP) ([(pu, pv)].flatMap cellsP) rfl rfl (World.ownsRow.alloc HO4.out _) (one_pair w4 (pu, pv)) (pairFlat_one _) ?bA ?l1 ?l2 ?kk)
          case bA => (have := HB4.out.size; simp; omega)
          case l1 => omega
          case l2 => (unfold maxLen; omega)
          case kk =>
            intro v5 w5 hown hBk
            obtain ⟨a5, c5, rfl, _, _⟩ := rd_of_own hown
            have HB5 := Lib.hid (hBk w1.heap.size w1 (Nat.le_refl _) (HB4.out.alloc HB4.out.size _))
            have HO5 := Lib.hid hown
            clear hown hBk
            go_wp2
            have hl5 : (P ++ [(pu, pv)]).length = pn + 1 := by rw [List.length_append, HPN.out]; rfl
            refine ⟨⟨rest, P ++ [(pu, pv)], a5, a2, c5, c2, by rw [hl5], by rw [HN2.out], Lib.hid ?_, H2, Lib.hid (by have := HEQ.out; rw [HQ.out] at this; simpa using this), Lib.hid ⟨HRU.out, ?_, ?_, ?_⟩, HB5⟩, ?_⟩
            · have h := HO5.out
              unfold OwnP
              rw [hl5, List.flatMap_append]
              exact h
            · have := HLE.out; have := HLN.out; have := HN2.out; omega
            · have := HLE.out; have := HLN.out; have := HN2.out; omega
            · rw [hl5]; omega
            · simp only [lenE]; have := HLE.out; have := HLN.out; omega
      · have hz2 : ¬ (pn : Int) < most := by omega
        have HE2 := Lib.hid (HEND.out (.inr (by rw [HPN.out]; exact hmo)))
        clear HEND
        go_wp2
        go_ret
        exact ⟨_, rfl, HE2.out, belowT HB1.out HBB.out⟩

theorem viewC_any : ViewC := fun v es seq lo hi back most w h hs hu _ _ _ _ => by
  obtain ⟨a, c, rfl, _, _⟩ := h.form
  exact view_any lo hi back h rfl hs.1 hu
end Go.Proofs.Ytnmmeaoapfampaa
