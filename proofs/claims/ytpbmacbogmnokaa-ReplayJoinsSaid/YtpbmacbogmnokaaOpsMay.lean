/-
  What batch.May and the document's MayOps do, for every list of operations.
-/
import Derived.Test.YtpbmacbogmnokaaOps
namespace Go.Proofs.Ytpbmacbogmnokaa
open Go.RowKit

theorem mayO_kind {o : Ope} (h1 : o.k ≠ 1) (h2 : o.k ≠ 2) : 1 = mayO o := by unfold mayO; rw [if_pos ⟨h1, h2⟩]
theorem mayO_large {o : Ope} (h : o.k = 1 ∨ o.k = 2) (h2 : 64 < o.u.size ∨ 512 < o.v.size) : 4 = mayO o := by unfold mayO; rw [if_neg (by omega), if_pos h2]
theorem mayO_del {o : Ope} (h : o.k = 2) (h1 : o.u.size ≤ 64) (h2 : o.v.size ≤ 512) (h3 : o.v.size ≠ 0) : 1 = mayO o := by unfold mayO; rw [if_neg (by omega), if_neg (by omega), if_pos ⟨h, h3⟩]
theorem mayO_ok {o : Ope} (h : o.k = 1 ∨ o.k = 2) (h1 : o.u.size ≤ 64) (h2 : o.v.size ≤ 512) (h3 : o.k = 1 ∨ o.v.size = 0) : 0 = mayO o := by unfold mayO; rw [if_neg (by omega), if_neg (by omega), if_neg (by omega)]

theorem empty_size {s : ByteArray} : s.toList.isEmpty = decide (s.size = 0) := by
  rw [otoList_data, ← ostr_len]
  cases s.data.toList <;> simp


theorem ope_ways (k : Int) : k = 1 ∨ k = 2 ∨ ((k != 1) = true ∧ (k != 2) = true ∧ (k == 2) = false ∧ k ≠ 1 ∧ k ≠ 2) := by
  by_cases h1 : k = 1
  · exact .inl h1
  · by_cases h2 : k = 2
    · exact .inr (.inl h2)
    · exact .inr (.inr ⟨by simp [h1], by simp [h2], by simp [h2], h1, h2⟩)

set_option maxRecDepth 100000 in
set_option maxHeartbeats 1000000 in
theorem mayOp_any (o : Ope) (hf : o.fits) (w : World) :
    Calls Try.prog 57 #[o.val] w fun e w' => e = .returned (.int .i64 (mayO o)) ∧ Below w.heap.size w w' := by
  obtain ⟨k, u, v⟩ := o
  obtain ⟨hk, hu, hv⟩ := hf
  unfold maxLen at hu hv
  simp only at hk hu hv
  have E := @empty_size v
  by_cases hz : v.size = 0
  all_goals
    (first | (have E2 : v.toList.isEmpty = true := (by rw [E]; exact decide_eq_true hz)) | (have E2 : v.toList.isEmpty = false := (by rw [E]; exact decide_eq_false hz)))
    have HZ := Lib.hid hz
    clear E hz
    rcases ope_ways k with rfl | rfl | ⟨h1, h2, h3, h4, h5⟩
    all_goals
      go_enter Try.func57, Try.ntmps57
      go_wp2
      all_goals
        go_ret
        refine ⟨oret_num ?_, (Below.refl _ _).alloc (Nat.le_refl _) _⟩
        have hz := HZ.out
        first
        | exact mayO_kind (by assumption) (by assumption)
        | exact mayO_large (by simp) (by simp only; omega)
        | exact mayO_del rfl (by simp only; omega) (by simp only; omega) hz
        | exact mayO_ok (by simp) (by simp only; omega) (by simp only; omega) (by first | exact .inl rfl | exact .inr hz)

theorem firstW_here {l : List Ope} {k : Nat} (hk : k < l.length) (h : ∀ j, j < k → ∀ o, l[j]? = some o → mayO o = 0) (h2 : mayO (l.getD k Ope.none_) ≠ 0) : firstW l = mayO (l.getD k Ope.none_) := by
  rw [firstW_skip h]
  have hg : l.getD k Ope.none_ = l[k] := by simp [List.getD, hk]
  rw [List.drop_eq_getElem_cons hk, firstW, ← hg, if_neg h2]

theorem firstW_end {l : List Ope} (h : ∀ j, j < l.length → ∀ o, l[j]? = some o → mayO o = 0) : firstW l = 0 := by
  rw [firstW_skip h, List.drop_length]
  rfl

theorem first_more {l : List Ope} {k : Nat} (h : ∀ j, j < k → ∀ o, l[j]? = some o → mayO o = 0) (hk : k < l.length) (h2 : mayO (l.getD k Ope.none_) = 0) : ∀ j, j < k + 1 → ∀ o, l[j]? = some o → mayO o = 0 := by
  intro j hj o ho
  rcases Nat.lt_or_ge j k with h1 | h1
  · exact h j h1 o ho
  · obtain rfl : j = k := by omega
    rw [opGet hk] at ho
    cases ho
    exact h2

theorem mayO_le (o : Ope) : 0 ≤ mayO o ∧ mayO o ≤ 4 := by
  unfold mayO
  (repeat' split) <;> omega

theorem mayO_ways (o : Ope) : mayO o = 0 ∨ ((mayO o != 0) = true ∧ mayO o ≠ 0) := by
  by_cases h : mayO o = 0
  · exact .inl h
  · exact .inr ⟨by simp [h], h⟩

set_option maxRecDepth 100000 in
set_option maxHeartbeats 4000000 in
theorem bmay_any (v : Value) (l : List Ope) (w : World) (hv : RdO w v l) :
    Calls Try.prog 50 #[v] w fun e w' => e = .returned (.int .i64 (mayOs l)) ∧ Below w.heap.size w w' := by
  obtain ⟨a, cap, rfl, hc1, hc2⟩ := hv.form
  unfold maxLen at hc2
  by_cases h0 : l.length = 0
  · have HR : Hid (1 = mayOs l) := Lib.hid (by unfold mayOs; rw [if_pos h0])
    rw [h0]
    go_enter Try.func50, Try.ntmps50
    go_wp2
    go_ret
    exact ⟨oret_num HR.out, Below.refl _ _⟩
  have h0' : ((l.length : Int) == 0) = false := by simp; exact fun h => h0 (by rw [h]; rfl)
  by_cases h1 : 32 < l.length
  · have HR : Hid (4 = mayOs l) := Lib.hid (by unfold mayOs; rw [if_neg h0, if_pos h1])
    have h1' : (32 : Int) < (l.length : Int) := by omega
    go_enter Try.func50, Try.ntmps50
    go_wp2
    go_ret
    exact ⟨oret_num HR.out, Below.refl _ _⟩
  have h1' : (l.length : Int) ≤ 32 := by omega
  have HR : Hid (mayOs l = firstW l) := Lib.hid (by unfold mayOs; rw [if_neg h0, if_neg h1])
  obtain ⟨b, off, rfl, hbw, _⟩ := hv.at_ (by intro h; subst h; simp at h0)
  go_enter Try.func50, Try.ntmps50
  go_wp2
  go_loopw [14] (fun i wr => ∃ k : Nat, k ≤ l.length ∧ i = .int .i64 k ∧ Hid (∀ j, j < k → ∀ o, l[j]? = some o → mayO o = 0) ∧ Below w.heap.size w wr) (fun i _ => l.length - (intOf i).toNat)
  case atStart => exact ⟨0, Nat.zero_le _, rfl, Lib.hid (fun j h => by omega), Below.refl _ _⟩
  case round =>
    obtain ⟨k, hk, rfl, HG, hb⟩ := hrel
    by_cases hlt : k < l.length
    · obtain ⟨_, _, hbe, _, hcells⟩ := (hv.below hb (Nat.le_refl _)).at_ (by intro h; subst h; simp at hlt)
      cases hbe
      obtain ⟨d0, d1, d2⟩ := hcells k hlt
      have hf := opFits_at hv.2 k hlt
      have hmay := mayOp_any (l.getD k Ope.none_) hf
      have HL := Lib.hid (@firstW_here l k hlt)
      have HN := Lib.hid (@first_more l k)
      have hle := mayO_le (l.getD k Ope.none_)
      have hw := mayO_ways (l.getD k Ope.none_)
      generalize l.getD k Ope.none_ = o at *
      obtain ⟨ok, ou, ov⟩ := o
      simp only at d0 d1 d2
      generalize hm : mayO ⟨ok, ou, ov⟩ = m at *
      have HM := Lib.hid hmay
      clear hcells hmay hm
      rcases hw with rfl | ⟨hm1, hm2⟩
      · go_wp2_with (go_at_call 57; refine (HM.out _).mono ?_; rintro e w1 ⟨rfl, hb1⟩)
        refine ⟨⟨k + 1, by omega, by go_num, Lib.hid (HN.out HG.out hlt trivial), ?_⟩, ?_⟩
        · exact (hb.alloc hb.size _).trans (hb1.mono (by have := hb.size; simp; omega))
        · simp [intOf]; omega
      · go_wp2_with (go_at_call 57; refine (HM.out _).mono ?_; rintro e w1 ⟨rfl, hb1⟩)
        go_ret
        exact ⟨oret_num (by rw [HR.out, HL.out HG.out hm2]), (hb.alloc hb.size _).trans (hb1.mono (by have := hb.size; simp; omega))⟩
    · obtain rfl : k = l.length := by omega
      go_wp2
      go_ret
      exact ⟨oret_num (by rw [HR.out, firstW_end HG.out]), hb⟩
end Go.Proofs.Ytpbmacbogmnokaa
