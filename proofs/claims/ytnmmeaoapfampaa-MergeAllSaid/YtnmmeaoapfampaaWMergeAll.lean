/-
  The walk of MergeAll.
-/
import Derived.Test.YtnmmeaoapfampaaMergeAwake
import Derived.Test.YtnmmeaoapfampaaMergeRMerge
import Derived.Test.YtnmmeaoapfampaaEntSame
namespace Go.Proofs.Ytnmmeaoapfampaa
open Go.RowKit

theorem flat_len : ∀ {ls : List (List Ent)} {m : Nat}, (∀ X ∈ ls, X.length ≤ m) → ls.flatten.length ≤ ls.length * m
  | [], m, _ => by simp
  | X :: ls, m, h => by
    have h1 := h X (by simp)
    have h2 := flat_len (ls := ls) (m := m) fun Y hY => h Y (List.mem_cons_of_mem _ hY)
    rw [List.flatten_cons, List.length_append, List.length_cons, Nat.succ_mul]
    omega
theorem merge_len (ls : List (List Ent)) : (mergeE ls).length ≤ ls.flatten.length := sort_len _

set_option maxRecDepth 100000 in
set_option maxHeartbeats 600000 in
theorem mergeAll_walkC (HP : MergeC) (HA : ViewC) (v0 : Value) (ls : List (List Ent)) (W : World) (w0 : RdLE W v0 ls) :
    Calls Try.prog 3 #[v0] W fun r w' => r = .returned (.bool true) ∧ Below W.heap.size W w' := by
  have HAW := Lib.hid (awake15_any HP HA)
  have HM := Lib.hid HP
  obtain ⟨va, vc, rfl, hc1, hc2⟩ := w0.form
  unfold maxLen at hc2
  have HV0 := Lib.hid w0
  clear w0 HP HA
  by_cases c1 : 10 < ls.length
  · have d1 : decide ((10 : Int) < (ls.length : Int)) = true := by simp; omega
    have d1n : decide (10 < ls.length) = true := by simp; omega
    go_enter Try.func3, Try.ntmps3
    go_wp2_with (go_at_call 10; (refine (HAW.out _).mono ?_); rintro e w9 ⟨rfl, hb9⟩)
    go_ret
    exact ⟨rfl, hb9⟩
  · have d1 : decide ((10 : Int) < (ls.length : Int)) = false := by simp; omega
    have d1n : decide (10 < ls.length) = false := by simp; omega
    go_enter Try.func3, Try.ntmps3
    go_wp2
    go_loopw [3] (fun i wr => ∃ k : Nat, k ≤ ls.length ∧ i = .int .i64 (k : Int) ∧ Hid (∀ j, j < k → ∀ X, ls[j]? = some X → X.length ≤ 40 ∧ SmallE X) ∧ Hid (Below W.heap.size W wr)) (fun i _ => ls.length - (intOf i).toNat)
    case atStart => exact ⟨0, Nat.zero_le _, rfl, Lib.hid (fun j h => by omega), Lib.hid (Below.refl _ _)⟩
    case round =>
      obtain ⟨k, hk, rfl, HX, HB⟩ := hrel
      by_cases hlt : k < ls.length
      · have hlt' : (k : Int) < (ls.length : Int) := by omega
        obtain ⟨X, hX⟩ : ∃ X, ls[k]? = some X := ⟨_, List.getElem?_eq_getElem hlt⟩
        obtain ⟨b, o, a, cap, rfl, hcell, hr, hbl⟩ := (HV0.out.below HB.out (Nat.le_refl _)).at_ hX
        have HR := Lib.hid hr
        have HXK := Lib.hid hX
        clear hr hX
        by_cases h40 : 40 < X.length
        · have d4 : decide ((40 : Int) < (X.length : Int)) = true := by simp; omega
          have d4n : decide (40 < X.length) = true := by simp; omega
          go_wp2_with (first | (go_at_call 11; (refine (great12_any _ X _ HR.out).mono ?_); rintro e w1 ⟨⟨g, rfl, hg⟩, rfl⟩; cases g) | (go_at_call 10; (refine (HAW.out _).mono ?_); rintro e w9 ⟨rfl, hb9⟩))
          all_goals
            go_ret
            exact ⟨rfl, belowT HB.out hb9⟩
        · have d4 : decide ((40 : Int) < (X.length : Int)) = false := by simp; omega
          have d4n : decide (40 < X.length) = false := by simp; omega
          go_wp2_with (first | (go_at_call 11; (refine (great12_any _ X _ HR.out).mono ?_); rintro e w1 ⟨⟨g, rfl, hg⟩, rfl⟩; cases g) | (go_at_call 10; (refine (HAW.out _).mono ?_); rintro e w9 ⟨rfl, hb9⟩))
          rotate_left
          · go_ret
            exact ⟨rfl, belowT HB.out hb9⟩
          refine ⟨⟨k + 1, by omega, by go_num, Lib.hid fun j hj Y hY => ?_, HB⟩, by simp [intOf]; omega⟩
          rcases Nat.lt_or_ge j k with h | h
          · exact HX.out j h Y hY
          · obtain rfl : j = k := by omega
            rw [HXK.out] at hY
            obtain rfl := Option.some.inj hY
            exact ⟨by omega, hg (by simp)⟩
      · have hlt' : ¬ (k : Int) < (ls.length : Int) := by omega
        obtain rfl : k = ls.length := by omega
        have hall : ∀ X ∈ ls, X.length ≤ 40 ∧ SmallE X := fun X hX => by
          obtain ⟨i, hi, rfl⟩ := List.mem_iff_getElem.1 hX
          exact HX.out i hi _ (List.getElem?_eq_getElem hi)
        have hfl : ls.flatten.length ≤ 400 := Nat.le_trans (flat_len fun X hX => (hall X hX).1) (by omega)
        have HSM := Lib.hid (show SmallE ls.flatten from ⟨by omega, fun e he => by
          obtain ⟨X, hX, heX⟩ := List.mem_flatten.1 he
          exact (hall X hX).2.2 e heX⟩)
        have HLS := Lib.hid (show ls.length ≤ 1000 by omega)
        have HFL := Lib.hid (show ls.flatten.length ≤ 100000 by omega)
        have HML := Lib.hid (show (mergeE ls).length < 1000000 by have := merge_len ls; omega)
        clear hall
        go_wp2_with (first | (go_at_call 13; (refine (HM.out _ ls _ (HV0.out.below HB.out (Nat.le_refl _)) HLS.out HSM.out).mono ?_); rintro e w3 ⟨x3, rfl, ho, hb⟩; have HO3 := Lib.hid ho; have HB3 := Lib.hid (belowT HB.out hb); clear ho hb) | (go_at_call 14; (refine (rmerge_any _ ls _ (HV0.out.below HB3.out (Nat.le_refl _)) HFL.out).mono ?_); rintro e w4 ⟨x4, rfl, ho, hb⟩; have HO4 := Lib.hid ho; have HO34 := Lib.hid (HO3.out.below hb); have HB4 := Lib.hid (belowT HB3.out hb); clear ho hb) | (go_at_call 12; (refine (rsame_ent _ _ (mergeE ls) _ HML.out (own_monoE HO34.out (Nat.zero_le _)) (own_monoE HO4.out (Nat.zero_le _))).mono ?_); rintro e w5 ⟨rfl, hb⟩; have HB5 := Lib.hid (belowT HB4.out hb); clear hb) | (go_at_call 10; (refine (HAW.out _).mono ?_); rintro e w9 ⟨rfl, hb9⟩))
        go_ret
        exact ⟨rfl, belowT HB5.out hb9⟩
end Go.Proofs.Ytnmmeaoapfampaa
