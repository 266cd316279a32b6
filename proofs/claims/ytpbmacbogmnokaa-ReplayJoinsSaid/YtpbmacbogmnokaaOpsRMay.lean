/-
  What the document's MayOps does, for every list of operations.
-/
import Derived.Test.YtpbmacbogmnokaaOpsMay
namespace Go.Proofs.Ytpbmacbogmnokaa
open Go.RowKit

set_option maxRecDepth 100000 in
set_option maxHeartbeats 4000000 in
theorem rmayO_any (v : Value) (l : List Ope) (w : World) (hv : RdO w v l) :
    Calls Try.prog 42 #[v] w fun e w' => e = .returned (.int .i64 (mayOs l)) ∧ Below w.heap.size w w' := by
  obtain ⟨a, cap, rfl, hc1, hc2⟩ := hv.form
  unfold maxLen at hc2
  by_cases h0 : l.length = 0
  · have HR : Hid (1 = mayOs l) := Lib.hid (by unfold mayOs; rw [if_pos h0])
    rw [h0]
    go_enter Try.func42, Try.ntmps42
    go_wp2
    go_ret
    exact ⟨oret_num HR.out, Below.refl _ _⟩
  have h0' : ((l.length : Int) == 0) = false := by simp; exact fun h => h0 (by rw [h]; rfl)
  by_cases h1 : 32 < l.length
  · have HR : Hid (4 = mayOs l) := Lib.hid (by unfold mayOs; rw [if_neg h0, if_pos h1])
    have h1' : (32 : Int) < (l.length : Int) := by omega
    go_enter Try.func42, Try.ntmps42
    go_wp2
    go_ret
    exact ⟨oret_num HR.out, Below.refl _ _⟩
  have h1' : (l.length : Int) ≤ 32 := by omega
  have HR : Hid (mayOs l = firstW l) := Lib.hid (by unfold mayOs; rw [if_neg h0, if_neg h1])
  obtain ⟨b, off, rfl, hbw, _⟩ := hv.at_ (by intro h; subst h; simp at h0)
  go_enter Try.func42, Try.ntmps42
  go_wp2
  go_loopw [3] (fun i wr => ∃ k : Nat, k ≤ l.length ∧ i = .int .i64 k ∧ Hid (∀ j, j < k → ∀ o, l[j]? = some o → mayO o = 0) ∧ Below w.heap.size w wr) (fun i _ => l.length - (intOf i).toNat)
  case atStart => exact ⟨0, Nat.zero_le _, rfl, Lib.hid (fun j h => by omega), Below.refl _ _⟩
  case round =>
    obtain ⟨k, hk, rfl, HG, hb⟩ := hrel
    by_cases hlt : k < l.length
    · obtain ⟨_, _, hbe, _, hcells⟩ := (hv.below hb (Nat.le_refl _)).at_ (by intro h; subst h; simp at hlt)
      cases hbe
      obtain ⟨d0, d1, d2⟩ := hcells k hlt
      have hf := opFits_at hv.2 k hlt
      have HL := Lib.hid (@firstW_here l k hlt)
      have HN := Lib.hid (@first_more l k)
      generalize l.getD k Ope.none_ = o at *
      obtain ⟨ok, ou, ov⟩ := o
      simp only at d0 d1 d2
      obtain ⟨hf1, hf2, hf3⟩ := hf
      unfold maxLen at hf2 hf3
      simp only at hf1 hf2 hf3
      clear hcells
      have E := @empty_size ov
      by_cases hz : ov.size = 0
      all_goals
        (first | (have E2 : ov.toList.isEmpty = true := (by rw [E]; exact decide_eq_true hz)) | (have E2 : ov.toList.isEmpty = false := (by rw [E]; exact decide_eq_false hz)))
        have HZ := Lib.hid hz
        clear E hz
        rcases ope_ways ok with rfl | rfl | ⟨g1, g2, g3, g4, g5⟩
        all_goals
          go_wp2
          all_goals
            first
            | (go_ret
               have hz := HZ.out
               refine ⟨oret_num (Eq.trans ?_ (HR.out.trans (HL.out HG.out ?_)).symm), hb.alloc hb.size _⟩
               · first
                 | exact mayO_kind (by assumption) (by assumption)
                 | exact mayO_large (by simp) (by simp only; omega)
                 | exact mayO_del rfl (by simp only; omega) (by simp only; omega) hz
               · first
                 | (rw [← mayO_kind (by assumption) (by assumption)]; decide)
                 | (rw [← mayO_large (by simp) (by simp only; omega)]; decide)
                 | (rw [← mayO_del rfl (by simp only; omega) (by simp only; omega) hz]; decide))
            | (have hz := HZ.out
               refine ⟨⟨k + 1, by omega, by go_num, Lib.hid (HN.out HG.out hlt (mayO_ok (by simp) (by simp only; omega) (by simp only; omega) (by first | exact .inl rfl | exact .inr hz)).symm), hb.alloc hb.size _⟩, ?_⟩
               simp [intOf]; omega)
    · obtain rfl : k = l.length := by omega
      go_wp2
      go_ret
      exact ⟨oret_num (by rw [HR.out, firstW_end HG.out]), hb⟩
end Go.Proofs.Ytpbmacbogmnokaa
