/-
  Chapter 15: plain facts: what was said of a key last, as a view tells it.
-/
import Derived.Test.YtnmmeaoapfampaaMergePages
namespace Go.Proofs.Ytnmmeaoapfampaa
open Go.RowKit

theorem ment_snoc (x : List Ent) : x = [] ∨ ∃ y a, x = y ++ [a] := by
  rcases List.eq_nil_or_concat x with h | ⟨y, a, h⟩
  · exact .inl h
  · exact .inr ⟨y, a, by rw [h, List.concat_eq_append]⟩

theorem mbuild_mem : ∀ (n : Nat) (xs : List Ent), xs.length = n → (∀ x ∈ xs, ∀ y ∈ xs, x.cmp y = 0 → x = y) → ∀ x, x ∈ build xs ↔ x ∈ xs ∧ x.may = true
  | 0, xs, hn, _, x => by
    obtain rfl := List.eq_nil_of_length_eq_zero hn
    simp [build]
  | n + 1, xs, hn, hu, x => by
    rcases ment_snoc xs with rfl | ⟨ys, e, rfl⟩
    · simp at hn
    · have hy : ys.length = n := by rw [List.length_append] at hn; simpa using hn
      have ih := mbuild_mem n ys hy fun a ha b hb => hu a (by simp [ha]) b (by simp [hb])
      rw [build_snoc]
      have hup := build_up ys
      unfold addL
      cases hadd : addB e (build ys) with
      | true =>
        show x ∈ insE e (build ys) ↔ _
        rw [ins_mem, ih x]
        unfold addB at hadd
        simp only [Bool.and_eq_true] at hadd
        constructor
        · rintro (rfl | ⟨h1, h2⟩)
          · exact ⟨by simp, hadd.1⟩
          · exact ⟨by simp [h1], h2⟩
        · rintro ⟨h1, h2⟩
          rcases List.mem_append.1 h1 with h1 | h1
          · exact .inr ⟨h1, h2⟩
          · exact .inl (by simpa using h1)
      | false =>
        show x ∈ build ys ↔ _
        rw [ih x]
        constructor
        · rintro ⟨h1, h2⟩; exact ⟨by simp [h1], h2⟩
        · rintro ⟨h1, h2⟩
          rcases List.mem_append.1 h1 with h1 | h1
          · exact ⟨h1, h2⟩
          · have hxe : x = e := by simpa using h1
            subst hxe
            unfold addB at hadd
            rw [h2] at hadd
            simp only [Bool.true_and, Bool.not_eq_false'] at hadd
            obtain ⟨y, hy1, hy2⟩ := (isIn_mem hup).1 hadd
            have hy3 := (ih y).1 hy1
            have := hu y (by simp [hy3.1]) x (by simp) hy2
            rw [← this]
            exact ⟨hy3.1, by rw [this]; exact h2⟩
theorem newest_isV {u : ByteArray} {s : Int} {x : Ent} : ∀ {L : List Ent}, Up L → x ∈ L → x.u = u → x.s ≤ s → (∀ y ∈ L, y.u = u → y.s ≤ s → y.s ≤ x.s ∧ (y.s = x.s → y = x)) → newest L u s = some x
  | [], _, h, _, _, _ => by cases h
  | a :: r, hu, hx, h1, h2, h3 => by
    have hu' := List.pairwise_cons.1 hu
    unfold newest
    rw [List.find?_cons]
    by_cases ha : a.u = u ∧ a.s ≤ s
    · have hd : decide (a.u = u ∧ a.s ≤ s) = true := by rw [decide_eq_true_eq]; exact ha
      rw [hd]
      rcases List.mem_cons.1 hx with e | hx
      · rw [e]
      · have h4 := h3 a (by simp) ha.1 ha.2
        have h5 := hu'.1 x hx
        have h6 : x.s ≤ a.s := by
          unfold Ent.cmp cmpK at h5
          rw [ha.1, h1, (cmpL_zero _ _).2 rfl] at h5
          unfold lex cmpZ at h5
          simp only [if_true] at h5
          split at h5 <;> (try split at h5) <;> (try split at h5) <;> (try split at h5) <;> omega
        have h7 := h4.2 (by omega)
        rw [h7]
    · have hd : decide (a.u = u ∧ a.s ≤ s) = false := by rw [decide_eq_false_iff_not]; exact ha
      rw [hd]
      rcases List.mem_cons.1 hx with e | hx
      · exact absurd (e ▸ ⟨h1, h2⟩) ha
      · exact newest_isV hu'.2 hx h1 h2 fun y hy => h3 y (by simp [hy])

/-- Of one user a view has what was said of it last. -/
theorem rows_one (seq : Int) (u : ByteArray) (L : List Ent) : ∀ n, n ≤ L.length → (rowsV (inS seq) L n).filter (fun e => decide (e.u = u)) = ((L.take n).find? fun x => decide (x.u = u ∧ x.s ≤ seq)).toList
  | 0, _ => rfl
  | n + 1, hn => by
    have ih := rows_one seq u L n (by omega)
    rw [rows_succ, List.filter_append, ih, List.take_succ_eq_append_getElem (by omega), List.find?_append]
    have hg : L[n]'(by omega) = L.getD n Ent.none_ := by simp [List.getD, show n < L.length by omega]
    rw [hg]
    generalize hX : L.getD n Ent.none_ = X
    have ht : tookV (inS seq) L n = (decide (X.s ≤ seq) && !seenV (inS seq) L n X.u) := by unfold tookV; rw [hX]; rfl
    rw [ht]
    cases hf : (L.take n).find? fun x => decide (x.u = u ∧ x.s ≤ seq) with
    | some e =>
      have h1 : seenV (inS seq) L n u = true := by
        unfold seenV
        rw [List.any_eq_true]
        have h2 := List.find?_some hf
        rw [decide_eq_true_eq] at h2
        exact ⟨e, List.mem_of_find?_eq_some hf, by unfold inS; simp [h2.1, h2.2]⟩
      show _ = [e]
      by_cases hu : X.u = u
      · rw [hu, h1]; simp
      · split
        · simp [hu]
        · simp
    | none =>
      have h1 : seenV (inS seq) L n u = false := by
        unfold seenV
        rw [List.any_eq_false]
        intro x hx hd
        have h2 := List.find?_eq_none.1 hf x hx
        unfold inS at hd
        rw [Bool.and_eq_true, decide_eq_true_eq, decide_eq_true_eq] at hd
        exact h2 (by rw [decide_eq_true_eq]; exact hd)
      by_cases hu : X.u = u
      · rw [hu, h1]
        by_cases hs : X.s ≤ seq
        · simp [hu, hs]
        · simp [hs]
      · split
        · simp [hu]
        · simp [hu]
theorem pairs_filter (u : ByteArray) (l : List Ent) : (pairsV l).filter (fun x => decide (x.1 = u)) = pairsV (l.filter fun e => decide (e.u = u)) := by
  unfold pairsV
  simp only [List.filter_map, List.filter_filter]
  refine congrArg _ (List.filter_congr fun i _ => ?_)
  simp only [Function.comp_apply]
  exact Bool.and_comm _ _
theorem view_one (L : List Ent) (seq : Int) (u : ByteArray) : allV L seq u (u ++ zeroB) = pairsV (newest L u seq).toList := by
  rw [all_cut]
  have e : (wholeV L seq).filter (fun x => inK u (u ++ zeroB) x.1) = (wholeV L seq).filter fun x => decide (x.1 = u) := List.filter_congr fun x _ => inK_one u x.1
  rw [e]
  unfold wholeV
  rw [pairs_filter, rows_one seq u L L.length (Nat.le_refl _), List.take_length]
  rfl

theorem mkB_mem {ns : List UInt8} (sp : Nat) (hl : ns.length ≤ 1000) (x : Ent) : x ∈ mkB ns sp ↔ ∃ i, i < ns.length ∧ x = entN sp (ns.getD i 0).toNat i := by
  have hs : ∀ n i, (entN sp n i).s = 1 + (i : Int) := fun n i => by unfold entN; split <;> rfl
  have hin : ∀ x, x ∈ entsN ns sp ↔ ∃ i, i < ns.length ∧ x = entN sp (ns.getD i 0).toNat i := fun x => by
    unfold entsN
    rw [List.mem_map]
    exact ⟨fun ⟨i, h1, h2⟩ => ⟨i, List.mem_range.1 h1, h2.symm⟩, fun ⟨i, h1, h2⟩ => ⟨i, List.mem_range.2 h1, h2.symm⟩⟩
  unfold mkB
  rw [mbuild_mem _ _ rfl (fun a ha b hb hc => by
    obtain ⟨i, hi, rfl⟩ := (hin a).1 ha
    obtain ⟨j, hj, rfl⟩ := (hin b).1 hb
    have := ((cmp_zero _ _).1 hc).2.1
    rw [hs, hs] at this
    have : i = j := by omega
    rw [this]), hin]
  constructor
  · exact fun h => h.1
  · rintro ⟨i, hi, rfl⟩
    exact ⟨⟨i, hi, rfl⟩, entN_may _ _ _ (by have := (ns.getD i 0).toNat_lt; omega) (by omega)⟩

def keyD (c : Nat) : ByteArray := ⟨#[107, 101, 121]⟩ ++ strB (digL c)
theorem keyD_eq {a b : Nat} (ha : a < 7) (hb : b < 7) : keyD a = keyD b ↔ a = b := by
  constructor
  · intro h
    have h1 := congrArg (fun x : ByteArray => x.data.toList) h
    simp only [keyD] at h1
    rw [digL_low (by omega), digL_low (by omega)] at h1
    have h2 : UInt8.ofNat (48 + a) = UInt8.ofNat (48 + b) := by simpa using h1
    have h3 := congrArg UInt8.toNat h2
    rw [UInt8.toNat_ofNat', UInt8.toNat_ofNat'] at h3
    omega
  · rintro rfl; rfl
theorem ent4_u (n i : Nat) : (entN 4 n i).u = keyD (n % 7) := by unfold entN; split <;> rfl
theorem ent4_s (n i : Nat) : (entN 4 n i).s = 1 + (i : Int) := by unfold entN; split <;> rfl

/-- The i-th is of the user that is asked for, and not above the number. -/
def SeeV (ns : List UInt8) (c seq i : Nat) : Prop := (ns.getD i 0).toNat % 7 = c ∧ 1 + i ≤ seq
/-- Which one is last. -/
def LastV (ns : List UInt8) (c seq n : Nat) (z : Int) : Prop := (z = -1 ∧ ∀ j, j < n → ¬ SeeV ns c seq j) ∨ ∃ j, j < n ∧ z = (j : Int) ∧ SeeV ns c seq j ∧ ∀ k, k < n → SeeV ns c seq k → k ≤ j
theorem lastV_start (ns : List UInt8) (c seq : Nat) : LastV ns c seq 0 (-1) := .inl ⟨rfl, fun j h => by omega⟩
theorem lastV_yes {ns : List UInt8} {c seq i : Nat} (h : SeeV ns c seq i) : LastV ns c seq (i + 1) (i : Int) := .inr ⟨i, by omega, rfl, h, fun k hk _ => by omega⟩
theorem lastV_no {ns : List UInt8} {c seq i : Nat} {z : Int} (h : ¬ SeeV ns c seq i) (hl : LastV ns c seq i z) : LastV ns c seq (i + 1) z := by
  rcases hl with ⟨h1, h2⟩ | ⟨j, h1, h2, h3, h4⟩
  · refine .inl ⟨h1, fun j hj hs => ?_⟩
    rcases Nat.lt_or_ge j i with h5 | h5
    · exact h2 j h5 hs
    · obtain rfl : j = i := by omega
      exact h hs
  · refine .inr ⟨j, by omega, h2, h3, fun k hk hs => ?_⟩
    rcases Nat.lt_or_ge k i with h5 | h5
    · exact h4 k h5 hs
    · obtain rfl : k = i := by omega
      exact absurd hs h
theorem sees_newest {ns : List UInt8} {c seq : Nat} {z : Int} (hl : ns.length ≤ 1000) (hc : c < 7) (h : LastV ns c seq ns.length z) :
    (z = -1 ∧ newest (mkB ns 4) (keyD c) (seq : Int) = none) ∨ ∃ j, j < ns.length ∧ z = (j : Int) ∧ (ns.getD j 0).toNat % 7 = c ∧ newest (mkB ns 4) (keyD c) (seq : Int) = some (entN 4 (ns.getD j 0).toNat j) := by
  have hm := mkB_mem (ns := ns) 4 hl
  have key : ∀ n i, (entN 4 n i).u = keyD c ↔ n % 7 = c := fun n i => by rw [ent4_u]; exact keyD_eq (by omega) hc
  rcases h with ⟨h1, h2⟩ | ⟨j, h1, h2, h3, h4⟩
  · refine .inl ⟨h1, ?_⟩
    unfold newest
    rw [List.find?_eq_none]
    intro x hx
    obtain ⟨i, hi, rfl⟩ := (hm x).1 hx
    simp only [decide_eq_true_eq]
    rintro ⟨e1, e2⟩
    rw [ent4_s] at e2
    exact h2 i hi ⟨(key _ _).1 e1, by omega⟩
  · refine .inr ⟨j, h1, h2, h3.1, newest_isV (mkB_up ns 4) ((hm _).2 ⟨j, h1, rfl⟩) ((key _ _).2 h3.1) (by rw [ent4_s]; have := h3.2; omega) fun y hy e2 e3 => ?_⟩
    obtain ⟨i, hi, rfl⟩ := (hm y).1 hy
    rw [ent4_s] at e3 ⊢
    rw [ent4_s]
    have := h4 i hi ⟨(key _ _).1 e2, by omega⟩
    refine ⟨by omega, fun e4 => ?_⟩
    have : i = j := by omega
    rw [this]
/-- As a view tells it. -/
theorem sees_view {ns : List UInt8} {c seq : Nat} {z : Int} (hl : ns.length ≤ 1000) (hc : c < 7) (h : LastV ns c seq ns.length z) :
    (z = -1 ∧ allV (mkB ns 4) (seq : Int) (keyD c) (keyD c ++ zeroB) = []) ∨ ∃ j, j < ns.length ∧ z = (j : Int) ∧ (ns.getD j 0).toNat % 7 = c ∧ allV (mkB ns 4) (seq : Int) (keyD c) (keyD c ++ zeroB) = if (ns.getD j 0).toNat % 7 = 0 then [] else [(keyD c, strB (digL (ns.getD j 0).toNat))] := by
  rw [view_one]
  rcases sees_newest hl hc h with ⟨h1, h2⟩ | ⟨j, h1, h2, h3, h4⟩
  · exact .inl ⟨h1, by rw [h2]; rfl⟩
  · refine .inr ⟨j, h1, h2, h3, ?_⟩
    rw [h4]
    generalize (ns.getD j 0).toNat = n at *
    show pairsV [entN 4 n j] = _
    have hu := ent4_u n j
    rw [h3] at hu
    by_cases h0 : n % 7 = 0
    · rw [if_pos h0]
      unfold entN
      rw [if_pos h0]
      rfl
    · rw [if_neg h0]
      unfold entN at hu ⊢
      rw [if_neg h0] at hu ⊢
      simp only at hu
      unfold pairsV
      simp [hu]
end Go.Proofs.Ytnmmeaoapfampaa
