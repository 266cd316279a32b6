/-
  A record of which one byte is turned is none.
-/
import Derived.Test.YtpbmacbogmnokaaFrameMath
namespace Go.Proofs.Ytpbmacbogmnokaa

theorem valL_inj : ∀ (n : Nat) (l m : List UInt8), l.length = n → m.length = n → valL l = valL m → l = m
  | 0, l, m, hl, hm, _ => by rw [List.eq_nil_of_length_eq_zero hl, List.eq_nil_of_length_eq_zero hm]
  | n + 1, l, m, hl, hm, h => by
    rcases List.eq_nil_or_concat l with rfl | ⟨l', c, rfl⟩
    · simp at hl
    rcases List.eq_nil_or_concat m with rfl | ⟨m', d, rfl⟩
    · simp at hm
    rw [List.concat_eq_append] at *
    rw [List.concat_eq_append] at *
    rw [valL_snoc, valL_snoc] at h
    have h1 := c.toNat_lt
    have h2 := d.toNat_lt
    simp at hl hm
    have e1 : valL l' = valL m' := by omega
    have e2 : c.toNat = d.toNat := by omega
    rw [valL_inj n l' m' hl hm e1, UInt8.toNat_inj.1 e2]

theorem frame_parts2 (n : Nat) (s q : List UInt8) (hn : n < 256 ^ 4) (hs : s.length = 4) (hq : q.length = n) :
    frN (fixL (n : Int) 4 ++ (s ++ q)) 0 = n ∧ valL (((fixL (n : Int) 4 ++ (s ++ q)).drop (0 + 4)).take 4) = valL s ∧ frP (fixL (n : Int) 4 ++ (s ++ q)) 0 = q := by
  have n0 : frN (fixL (n : Int) 4 ++ (s ++ q)) 0 = n := by
    unfold frN
    rw [List.drop_zero, List.take_left' (fixL_length _ _)]
    exact valL_fixL _ _ hn
  have d4 : (fixL (n : Int) 4 ++ (s ++ q)).drop 4 = s ++ q := List.drop_left' (fixL_length _ _)
  refine ⟨n0, ?_, ?_⟩
  · rw [Nat.zero_add, d4, List.take_left' hs]
  · unfold frP
    rw [n0, show 0 + 8 = 4 + 4 from rfl, ← List.drop_drop, d4, List.drop_left' hs, List.take_of_length_le (by omega)]

theorem frame_turned (p : List UInt8) (hp : p.length ≤ 1048576) (i : Nat) (h4 : 4 ≤ i) (hi : i < p.length + 8) (c : UInt8) (hc : c ≠ (frRaw p).getD i 0) : frOk ((frRaw p).set i c) 0 = false := by
  have hl4 : (fixL (p.length : Int) 4).length = 4 := fixL_length _ _
  have hs4 : (fixL (sumL p : Int) 4).length = 4 := fixL_length _ _
  have hv : valL (fixL (sumL p : Int) 4) = sumL p := valL_fixL _ _ (sumL_lt32 p)
  unfold frRaw at hc ⊢
  rw [List.append_assoc] at hc ⊢
  generalize fixL (sumL p : Int) 4 = s at *
  rw [List.set_append_right _ _ (by omega), hl4]
  have hg : (fixL (p.length : Int) 4 ++ (s ++ p)).getD i 0 = (s ++ p).getD (i - 4) 0 := by
    rw [List.getD_eq_getElem?_getD, List.getElem?_append_right (by omega), hl4, ← List.getD_eq_getElem?_getD]
  rw [hg] at hc
  rcases Nat.lt_or_ge (i - 4) 4 with h | h
  · rw [List.set_append_left _ _ (by omega)]
    have hl : (s.set (i - 4) c).length = 4 := by rw [List.length_set, hs4]
    obtain ⟨h1, h2, h3⟩ := frame_parts2 p.length (s.set (i - 4) c) p (by omega) hl rfl
    unfold frOk
    rw [h2, h3]
    rw [decide_eq_false (p := sumL p = valL (s.set (i - 4) c)) ?_]
    · simp
    · intro he
      have := valL_inj 4 _ _ hl hs4 (by rw [hv]; exact he.symm)
      have hx : (s.set (i - 4) c).getD (i - 4) 0 = c := by
        rw [List.getD_eq_getElem?_getD, List.getElem?_set_self (by omega)]
        rfl
      rw [this] at hx
      refine hc ?_
      rw [List.getD_eq_getElem?_getD, List.getElem?_append_left (by omega), ← List.getD_eq_getElem?_getD, hx]
  · rw [List.set_append_right _ _ (by omega), hs4]
    have hk : i - 4 - 4 < p.length := by omega
    obtain ⟨h1, h2, h3⟩ := frame_parts2 p.length s (p.set (i - 4 - 4) c) (by omega) hs4 (by simp)
    unfold frOk
    rw [h2, h3, hv]
    rw [decide_eq_false (p := sumL (p.set (i - 4 - 4) c) = sumL p) ?_]
    · simp
    · have hg2 : (s ++ p).getD (i - 4) 0 = p.getD (i - 4 - 4) 0 := by
        rw [List.getD_eq_getElem?_getD, List.getElem?_append_right (by omega), hs4, ← List.getD_eq_getElem?_getD]
      rw [hg2] at hc
      generalize i - 4 - 4 = k at *
      have e1 : p = p.take k ++ [p.getD k 0] ++ p.drop (k + 1) := by
        rw [← take_snoc' p k hk, List.take_append_drop]
      have e2 : p.set k c = p.take k ++ [c] ++ p.drop (k + 1) := by
        rw [List.set_eq_take_append_cons_drop, if_pos hk]
        simp
      have := sumL_turned (p.take k) [c] [p.getD k 0] (p.drop (k + 1)) rfl (by simp) (by simpa using hc)
      rw [← e1, ← e2] at this
      exact this

theorem scan_none {b : List UInt8} (h : frOk b 0 = false) : scanL b = ([], 0) := (ScanSo.start b).stop h
end Go.Proofs.Ytpbmacbogmnokaa
