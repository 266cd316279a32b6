/-
  What the statements of chapters 12 and 13 go through; a number of theirs.
-/
import Derived.Test.YtnmmeaoapfampaaOwnEnt
import Derived.Test.YtnmmeaoapfampaaRegion
import Derived.Deep.Cut
namespace Go.Proofs.Ytnmmeaoapfampaa
open Go.RowKit

def SmallE (es : List Ent) : Prop := es.length ≤ 1000 ∧ ∀ e ∈ es, e.u.size ≤ 1000 ∧ e.v.size ≤ 1000


/-- Which it says: only where it is false all of them are small. -/
def FewE (es : List Ent) (e : Ending) : Prop := ∃ g : Bool, e = .returned (.bool g) ∧ (g = false → SmallE es)
theorem fewE_yes (es : List Ent) : FewE es (.returned (.bool true)) := ⟨true, rfl, fun h => by cases h⟩
theorem fewE_no {es : List Ent} (h : es.length ≤ 300) (h2 : ∀ j, j < es.length → (es.getD j Ent.none_).u.size ≤ 300 ∧ (es.getD j Ent.none_).v.size ≤ 1000) : FewE es (.returned (.bool false)) := by
  refine ⟨false, rfl, fun _ => ⟨by omega, fun e he => ?_⟩⟩
  obtain ⟨j, hj, rfl⟩ := List.mem_iff_getElem.1 he
  have := h2 j hj
  rw [show es.getD j Ent.none_ = es[j] by simp [List.getD, hj]] at this
  omega

set_option maxRecDepth 100000 in
set_option maxHeartbeats 2000000 in
theorem great12_any (v : Value) (es : List Ent) (w : World) (hv : RdE w v es) :
    Calls Try.prog 11 #[v] w fun e w' => FewE es e ∧ w = w' := by
  obtain ⟨a, c, rfl, h1, h2⟩ := hv.form
  have HV := Lib.hid hv
  clear hv
  unfold maxLen at h2
  go_enter Try.func11, Try.ntmps11
  go_wp2
  go_loop [3] (fun i => ∃ k : Nat, k ≤ es.length ∧ k ≤ 400 ∧ i = .int .i64 (k : Int) ∧ Hid (∀ j, j < k → (es.getD j Ent.none_).u.size ≤ 300 ∧ (es.getD j Ent.none_).v.size ≤ 1000)) (fun i => 400 - (intOf i).toNat)
  case atStart => exact ⟨0, Nat.zero_le _, by omega, rfl, Lib.hid (fun j h => by omega)⟩
  case round =>
    obtain ⟨k, hk, hk2, rfl, HK⟩ := hrel
    by_cases hlt : k < es.length
    · by_cases h400 : k < 400
      · obtain ⟨_, _, hva, hone⟩ := HV.out.one
        cases hva
        obtain ⟨b, off, rfl, hbw, c0, c1, c2, c3, hfit⟩ := hone k hlt
        have HMO := Lib.hid (show (es.getD k Ent.none_).u.size ≤ 300 ∧ (es.getD k Ent.none_).v.size ≤ 1000 → ∀ j, j < k + 1 → (es.getD j Ent.none_).u.size ≤ 300 ∧ (es.getD j Ent.none_).v.size ≤ 1000 from fun h j hj => by
          rcases Nat.lt_or_ge j k with h1 | h1
          · exact HK.out j h1
          · obtain rfl : j = k := by omega
            exact h)
        clear hone hfit c1 c2 hbw
        generalize es.getD k Ent.none_ = X at *
        obtain ⟨xu, xs, xk, xv⟩ := X
        simp only at c0 c3
        have hk3 : decide ((k : Int) < 400) = true := by simp; omega
        by_cases h3 : 300 < xu.size
        · have h3' : decide ((300 : Int) < (xu.size : Int)) = true := by simp; omega
          clear HMO
          go_wp2
          go_ret
          exact ⟨fewE_yes _, rfl⟩
        · have h3' : decide ((300 : Int) < (xu.size : Int)) = false := by simp; omega
          by_cases h4 : 1000 < xv.size
          · have h4' : decide ((1000 : Int) < (xv.size : Int)) = true := by simp; omega
            clear HMO
            go_wp2
            go_ret
            exact ⟨fewE_yes _, rfl⟩
          · have h4' : decide ((1000 : Int) < (xv.size : Int)) = false := by simp; omega
            have HN := Lib.hid (HMO.out ⟨by simp only; omega, by simp only; omega⟩)
            clear HMO
            go_wp2
            exact ⟨⟨k + 1, hlt, by omega, by go_num, HN⟩, by simp [intOf]; omega⟩
      · have hk3 : decide ((k : Int) < 400) = false := by simp; omega
        have hgt : decide ((300 : Int) < (es.length : Int)) = true := by simp; omega
        go_wp2
        go_ret
        exact ⟨fewE_yes _, rfl⟩
    · have hke : decide ((k : Int) < (es.length : Int)) = false := by simp; omega
      by_cases h80 : 300 < es.length
      · have hgt : decide ((300 : Int) < (es.length : Int)) = true := by simp; omega
        go_wp2
        go_ret
        exact ⟨fewE_yes _, rfl⟩
      · have hgt : decide ((300 : Int) < (es.length : Int)) = false := by simp; omega
        have HN := Lib.hid (fewE_no (es := es) (by omega) (fun j hj => HK.out j (by omega)))
        go_wp2
        go_ret
        exact ⟨HN.out, rfl⟩
end Go.Proofs.Ytnmmeaoapfampaa
