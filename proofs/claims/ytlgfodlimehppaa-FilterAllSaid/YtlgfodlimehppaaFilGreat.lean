/-
  Chapter 11: which keys a statement goes through.
-/
import Derived.Test.YtlgfodlimehppaaFilC
import Derived.Test.YtlgfodlimehppaaCells
namespace Go.Proofs.Ytlgfodlimehppaa
open Go.RowKit Ieee

/-- Which it says: only where it is false all of them are gone through. -/
def Few (n : Nat) (e : Ending) : Prop := ∃ g : Bool, e = .returned (.bool g) ∧ (g = false → n ≤ 80)
theorem few_yes (n : Nat) : Few n (.returned (.bool true)) := ⟨true, rfl, fun h => by cases h⟩
theorem few_no {n : Nat} (h : n ≤ 80) : Few n (.returned (.bool false)) := ⟨false, rfl, fun _ => h⟩

set_option maxRecDepth 100000 in
set_option maxHeartbeats 2000000 in
theorem great_any (v : Value) (l : List ByteArray) (w : World) (hv : Rd w 1 v l.length (l.map Value.string)) (hs : ∀ s ∈ l, s.size ≤ maxLen) :
    Calls Try.prog 7 #[v] w fun e w' => Few l.length e ∧ w = w' := by
  obtain ⟨a, c, rfl, h1, h2⟩ : ∃ a c, v = .slice a l.length c ∧ l.length ≤ c ∧ c ≤ maxLen := by obtain ⟨a, c, h, h1, h2, _⟩ := hv; exact ⟨a, c, h, h1, h2⟩
  have HV := Lib.hid hv
  have HSZ := Lib.hid hs
  clear hv hs
  unfold maxLen at h2
  go_enter Try.func7, Try.ntmps7
  go_wp2
  go_loop [3] (fun i => ∃ k : Nat, k ≤ l.length ∧ k ≤ 100 ∧ i = .int .i64 (k : Int)) (fun i => 100 - (intOf i).toNat)
  case atStart => exact ⟨0, Nat.zero_le _, by omega, rfl⟩
  case round =>
    obtain ⟨k, hk, hk2, rfl⟩ := hrel
    by_cases hlt : k < l.length
    · by_cases h100 : k < 100
      · obtain ⟨sb, so, rfl, hsb, hsc⟩ := rd_str HV.out hlt
        have hsz : (l.getD k ⟨#[]⟩).size ≤ maxLen := HSZ.out _ (by simp only [List.getD, List.getElem?_eq_getElem hlt, Option.getD_some]; exact List.getElem_mem hlt)
        generalize l.getD k ⟨#[]⟩ = str at *
        unfold maxLen at hsz
        have hk3 : (k : Int) < 100 := by omega
        by_cases h3 : 300 < str.size
        · have h3' : (300 : Int) < (str.size : Int) := by omega
          go_wp2
          go_ret
          exact ⟨few_yes _, rfl⟩
        · have h3' : ¬ (300 : Int) < (str.size : Int) := by omega
          go_wp2
          exact ⟨⟨k + 1, hlt, by omega, by go_num⟩, by simp [intOf]; omega⟩
      · have hk3 : ¬ (k : Int) < 100 := by omega
        have hgt : (80 : Int) < (l.length : Int) := by omega
        go_wp2
        go_ret
        exact ⟨few_yes _, rfl⟩
    · have hke : (k : Int) = (l.length : Int) := by omega
      by_cases h80 : 80 < l.length
      · have hgt : (80 : Int) < (l.length : Int) := by omega
        go_wp2
        go_ret
        exact ⟨few_yes _, rfl⟩
      · have hgt : ¬ (80 : Int) < (l.length : Int) := by omega
        go_wp2
        go_ret
        exact ⟨few_no (by omega), rfl⟩
end Go.Proofs.Ytlgfodlimehppaa
