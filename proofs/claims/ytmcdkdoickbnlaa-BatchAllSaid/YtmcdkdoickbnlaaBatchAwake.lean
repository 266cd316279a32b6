/-
  What the statements of layer 8 share: the document's example, an error's number, what is too great.
-/
import Derived.Test.YtmcdkdoickbnlaaBatchPut
namespace Go.Proofs.Ytmcdkdoickbnlaa
open Go.RowKit

/-- The example's operation. -/
def exO : Ope := ⟨1, ⟨#[97]⟩, ⟨#[98]⟩⟩

theorem exO_may : mayBt 1 [exO] = true := by
  have h : normL [exO] = [exO] := rfl
  unfold mayBt
  rw [h, sameL_refl]
  decide

theorem ex_len : (putBat 1 [exO]).length = 7 := by
  have h1 : putL 1 = [1] := putL_lt 1 (by decide)
  unfold putBat
  rw [if_pos exO_may]
  have h2 : (⟨#[97]⟩ : ByteArray).size = 1 := rfl
  have h3 : (⟨#[98]⟩ : ByteArray).size = 1 := rfl
  unfold putBody putOpL putT exO
  simp [h1, h2, h3]

theorem ex_none : putBat 1 [] = [] := by
  unfold putBat
  rw [if_neg]
  decide

theorem exO_fits : ∀ o ∈ [exO], o.fits := by
  intro o ho
  obtain rfl := List.mem_singleton.1 ho
  exact ⟨by decide, by unfold maxLen; decide, by unfold maxLen; decide⟩

set_option maxRecDepth 100000 in
set_option maxHeartbeats 1000000 in
theorem awake8_any (w : World) : Calls Try.prog 8 #[] w fun e w' => e = .returned (.bool true) ∧ Below w.heap.size w w' := by
  obtain ⟨w1, hw1⟩ : ∃ w1, w1 = w.alloc (.cells #[.int .i64 1, .string ⟨#[97]⟩, .string ⟨#[98]⟩] 45) := ⟨_, rfl⟩
  have hB : Below w.heap.size w w1 := by rw [hw1]; exact (Below.refl _ _).alloc (Nat.le_refl _) _
  have h1 := bput_any 1 (.slice (some ⟨w.heap.size, 0, none⟩) 1 1) [exO] w1 ⟨by rw [hw1]; exact one_op w exO, exO_fits⟩ (by simp)
  have h2 := fun W => bput_any 1 (.slice none 0 0) [] W ⟨Rd.nil _ _, by simp⟩ (by simp)
  simp only [ex_none] at h2
  have HL := Lib.hid ex_len
  generalize putBat 1 [exO] = l at h1 HL
  have HW1 := Lib.hid hw1
  have H1 := Lib.hid h1
  have H2 := Lib.hid h2
  have HB := Lib.hid hB
  clear hw1 h1 h2 hB
  go_enter Try.func8, Try.ntmps8
  go_wp2_with (first | (go_at_call 17; rw [← HW1.out]; refine H1.out.mono ?_; rintro e w2 ⟨v2, rfl, ho2, hb2⟩; obtain ⟨a2, c2, rfl, hc2, _⟩ := ho2.read.form; have HB2 := Lib.hid (HB.out.trans (hb2.mono HB.out.size)); have hl7 := HL.out; rw [hl7]; clear ho2 hb2 hc2 HL hl7) | (go_at_call 17; refine (H2.out _).mono ?_; rintro e w3 ⟨v3, rfl, ho3, hb3⟩; obtain ⟨a3, c3, rfl, hc3, _⟩ := ho3.read.form; have HB3 := Lib.hid (HB2.out.trans (hb3.mono HB2.out.size)); clear ho3 hb3 hc3))
  go_ret
  exact ⟨by simp, HB3.out⟩

theorem num8_any (n : Int) (w : World) : Calls Try.prog 12 #[.int .i64 n] w fun e w' => e = .returned (.int .i64 n) ∧ w = w' := by
  go_enter Try.func12, Try.ntmps12
  go_wp2
  go_ret
  exact ⟨rfl, rfl⟩

/-- Is one operation too great? -/
def bigO (o : Ope) : Bool := decide (1000 < o.u.size) || decide (1000 < o.v.size)

/-- More than the statements go through? -/
def greatL (l : List Ope) : Bool := (l.take 80).any bigO || decide (60 < l.length)

theorem greatL_false {l : List Ope} (h : greatL l = false) : l.length ≤ 60 ∧ ∀ o ∈ l, o.u.size ≤ 1000 ∧ o.v.size ≤ 1000 := by
  unfold greatL at h
  rw [Bool.or_eq_false_iff, decide_eq_false_iff_not, List.any_eq_false] at h
  obtain ⟨h1, h2⟩ := h
  rw [List.take_of_length_le (by omega)] at h1
  refine ⟨by omega, fun o ho => ?_⟩
  have := h1 o ho
  unfold bigO at this
  simp at this
  omega

theorem great_yes {l : List Ope} {k : Nat} (hk : k < l.length) (hk2 : k < 80) (h : bigO (l.getD k Ope.none_) = true) : true = greatL l := by
  unfold greatL
  have : (l.take 80).any bigO = true := List.any_eq_true.2 ⟨_, List.mem_of_getElem? (i := k) (by rw [List.getElem?_take_of_lt hk2]; exact opGet hk), h⟩
  rw [this]; rfl

theorem great_end {l : List Ope} {k : Nat} (hk : l.length ≤ k ∨ 80 ≤ k) (h : ∀ j, j < k → bigO (l.getD j Ope.none_) = false) : decide (60 < l.length) = greatL l := by
  unfold greatL
  have : (l.take 80).any bigO = false := by
    rw [List.any_eq_false]
    intro o ho
    obtain ⟨j, hj⟩ := List.getElem?_of_mem ho
    have hj2 : j < 80 := by
      rcases Nat.lt_or_ge j 80 with h | h
      · exact h
      · rw [List.getElem?_take_eq_none h] at hj; cases hj
    rw [List.getElem?_take_of_lt hj2] at hj
    have hjl := (List.getElem?_eq_some_iff.1 hj).1
    rw [opGet hjl] at hj
    cases hj
    rw [h j (by omega)]
    simp
  rw [this]; rfl

theorem big_more {l : List Ope} {k : Nat} (h : ∀ j, j < k → bigO (l.getD j Ope.none_) = false) (h2 : bigO (l.getD k Ope.none_) = false) : ∀ j, j < k + 1 → bigO (l.getD j Ope.none_) = false := by
  intro j hj
  rcases Nat.lt_or_ge j k with h1 | h1
  · exact h j h1
  · obtain rfl : j = k := by omega
    exact h2

set_option maxRecDepth 100000 in
set_option maxHeartbeats 4000000 in
theorem great_any (v : Value) (l : List Ope) (w : World) (hv : RdO w v l) :
    Calls Try.prog 7 #[v] w fun e w' => e = .returned (.bool (greatL l)) ∧ Below w.heap.size w w' := by
  obtain ⟨a, cap, rfl, hc1, hc2⟩ := hv.form
  unfold maxLen at hc2
  have HV := Lib.hid hv
  clear hv
  go_enter Try.func7, Try.ntmps7
  go_wp2
  go_loopw [3] (fun i wr => ∃ k : Nat, k ≤ l.length ∧ k ≤ 80 ∧ i = .int .i64 k ∧ Hid (∀ j, j < k → bigO (l.getD j Ope.none_) = false) ∧ Below w.heap.size w wr) (fun i _ => l.length - (intOf i).toNat)
  case atStart => exact ⟨0, Nat.zero_le _, by omega, rfl, Lib.hid (fun j h => by omega), Below.refl _ _⟩
  case round =>
    obtain ⟨k, hk, hk8, rfl, HG, hb⟩ := hrel
    have HB := Lib.hid hb
    clear hb
    by_cases hlt : k < l.length
    · by_cases hlt8 : k < 80
      · obtain ⟨b, off, rfl, hbw, hcells⟩ := HV.out.at_ (by intro h; subst h; simp at hlt)
        obtain ⟨d0, d1, d2⟩ := hcells k hlt
        have e1 := (HB.out.cell (p := ⟨b, off + k * 3 + 1, none⟩) hbw).trans d1
        have e2 := (HB.out.cell (p := ⟨b, off + k * 3 + 2, none⟩) hbw).trans d2
        have hf := opFits_at HV.out.2 k hlt
        have HY := Lib.hid (@great_yes l k hlt hlt8)
        have HM := Lib.hid (@big_more l k HG.out)
        clear d0 d1 d2 hcells
        generalize l.getD k Ope.none_ = o at *
        obtain ⟨ok, ou, ov⟩ := o
        obtain ⟨_, hu, hw⟩ := hf
        unfold maxLen at hu hw
        simp only at e1 e2 hu hw
        by_cases hbig : 1000 < ou.size
        · have h1 : (1000 : Int) < (ou.size : Int) := by omega
          go_wp2
          go_ret
          exact ⟨oret_bool (HY.out (by unfold bigO; simp [hbig])), HB.out⟩
        · have h1 : (ou.size : Int) ≤ 1000 := by omega
          by_cases hbig2 : 1000 < ov.size
          · have h2 : (1000 : Int) < (ov.size : Int) := by omega
            go_wp2
            go_ret
            exact ⟨oret_bool (HY.out (by unfold bigO; simp [hbig2])), HB.out⟩
          · have h2 : (ov.size : Int) ≤ 1000 := by omega
            go_wp2
            refine ⟨⟨k + 1, by omega, by omega, by go_num, Lib.hid (HM.out (by unfold bigO; simp [hbig, hbig2])), HB.out⟩, ?_⟩
            simp [intOf]; omega
      · obtain rfl : k = 80 := by omega
        have HR := Lib.hid (great_end (.inr (Nat.le_refl _)) HG.out)
        go_wp2
        all_goals
          go_ret
          refine ⟨oret_bool (Eq.trans ?_ HR.out), HB.out⟩
          simp
          try omega
    · obtain rfl : k = l.length := by omega
      have HR := Lib.hid (great_end (.inl (Nat.le_refl _)) HG.out)
      go_wp2
      all_goals
        go_ret
        refine ⟨oret_bool (Eq.trans ?_ HR.out), HB.out⟩
        simp
        try omega
end Go.Proofs.Ytmcdkdoickbnlaa
