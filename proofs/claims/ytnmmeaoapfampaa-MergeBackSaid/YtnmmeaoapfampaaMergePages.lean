/-
  Chapter 15: plain facts: the key right behind a key; a view from there; a view of one key alone.
-/
import Derived.Test.YtnmmeaoapfampaaMergeView
namespace Go.Proofs.Ytnmmeaoapfampaa
open Go.RowKit

/-- Above a key is at least the key right behind it. -/
theorem cmpL_next : ∀ a b : List UInt8, cmpL a b = 1 → 0 ≤ cmpL a (b ++ [0])
  | [], [], h => by simp [cmpL] at h
  | [], _ :: _, h => by simp [cmpL] at h
  | x :: a, [], _ => by
    show 0 ≤ cmpL (x :: a) (0 :: [])
    unfold cmpL
    have := x.toNat_lt
    split
    · rename_i h; simp at h
    · split
      · decide
      · cases a with
        | nil => simp [cmpL]
        | cons y r => simp [cmpL]
  | x :: a, y :: b, h => by
    show 0 ≤ cmpL (x :: a) (y :: (b ++ [0]))
    unfold cmpL at h ⊢
    split at h
    · omega
    · rename_i h1
      rw [if_neg h1]
      split at h
      · rename_i h2
        rw [if_pos h2]
        decide
      · rename_i h2
        rw [if_neg h2]
        exact cmpL_next a b h
theorem cmpL_behind (b : List UInt8) : ∀ x : UInt8, cmpL b (b ++ [x]) = -1 := by
  intro x
  induction b with
  | nil => simp [cmpL]
  | cons y r ih => simp [cmpL, ih]
/-- At most a key is below the key right behind it. -/
theorem cmpL_below {a b : List UInt8} (x : UInt8) (h : cmpL a b ≤ 0) : cmpL a (b ++ [x]) < 0 := by
  have h1 := cmpL_behind b x
  obtain ⟨t1, _, t3⟩ := cmpL_three a b (b ++ [x])
  have hs := cmpL_sgn a b
  unfold Sgn at hs
  rcases hs with h2 | h2 | h2
  · have := t3 (by omega); omega
  · have := t1 h2; omega
  · omega
def zeroB : ByteArray := ⟨#[0]⟩
theorem next_list (u : ByteArray) : (u ++ zeroB).data.toList = u.data.toList ++ [0] := by
  rw [show (u ++ zeroB).data = u.data ++ zeroB.data from by simp [ByteArray.data_append]]
  simp [zeroB]
theorem next_size (u : ByteArray) : (u ++ zeroB).size = u.size + 1 := by rw [ByteArray.size_append]; rfl
/-- Between a key and the one right behind it there is that key alone. -/
theorem inK_one (u x : ByteArray) : inK u (u ++ zeroB) x = decide (x = u) := by
  unfold inK
  rw [next_size, next_list, Bool.eq_iff_iff]
  simp only [Bool.and_eq_true, Bool.or_eq_true, decide_eq_true_eq]
  constructor
  · rintro ⟨h1, h2⟩
    rcases h2 with h2 | h2
    · omega
    · have hs := cmpL_sgn x.data.toList u.data.toList
      unfold Sgn at hs
      rcases hs with h3 | h3 | h3
      · omega
      · exact usr_eq.1 h3
      · have := cmpL_next _ _ h3; omega
  · rintro rfl
    rw [(cmpL_zero _ _).2 rfl]
    exact ⟨Int.le_refl _, .inr (cmpL_below 0 (by rw [(cmpL_zero _ _).2 rfl]; exact Int.le_refl _))⟩
theorem inK_free (lo x : ByteArray) : inK lo ⟨#[]⟩ x = decide (0 ≤ cmpL x.data.toList lo.data.toList) := by
  unfold inK
  rw [show (⟨#[]⟩ : ByteArray).size = 0 from rfl]
  simp
/-- From the start on there is all. -/
theorem cut_start (W : List (ByteArray × ByteArray)) : W.filter (fun x => inK ⟨#[]⟩ ⟨#[]⟩ x.1) = W := by
  rw [List.filter_eq_self]
  intro x _
  rw [inK_free, decide_eq_true_eq]
  cases h : x.1.data.toList with
  | nil => simp [cmpL]
  | cons a r => simp [cmpL]
/-- From right behind a key on there is what comes behind it. -/
theorem cut_behind {W : List (ByteArray × ByteArray)} (hr : W.Pairwise fun a b => cmpL a.1.data.toList b.1.data.toList = -1) {m : Nat} (hm : m < W.length) (z : ByteArray × ByteArray) : W.filter (fun x => inK ((W.getD m z).1 ++ zeroB) ⟨#[]⟩ x.1) = W.drop (m + 1) := by
  have h2 := List.pairwise_iff_getElem.1 hr
  have hz : W.getD m z = W[m] := by simp [List.getD, hm]
  rw [hz]
  have e : W.filter (fun x => inK (W[m].1 ++ zeroB) ⟨#[]⟩ x.1) = (W.take (m + 1) ++ W.drop (m + 1)).filter (fun x => inK (W[m].1 ++ zeroB) ⟨#[]⟩ x.1) := by rw [List.take_append_drop]
  rw [e, List.filter_append]
  have e1 : (W.take (m + 1)).filter (fun x => inK (W[m].1 ++ zeroB) ⟨#[]⟩ x.1) = [] := by
    rw [List.filter_eq_nil_iff]
    intro x hx hd
    rw [inK_free, decide_eq_true_eq, next_list] at hd
    obtain ⟨j, hj, rfl⟩ := List.mem_iff_getElem.1 hx
    rw [List.length_take] at hj
    rw [List.getElem_take] at hd
    have hle : cmpL (W[j]'(by omega)).1.data.toList W[m].1.data.toList ≤ 0 := by
      rcases Nat.lt_or_ge j m with h | h
      · rw [h2 j m (by omega) hm h]; decide
      · obtain rfl : j = m := by omega
        rw [(cmpL_zero _ _).2 rfl]
        exact Int.le_refl _
    have := cmpL_below 0 hle
    omega
  have e2 : (W.drop (m + 1)).filter (fun x => inK (W[m].1 ++ zeroB) ⟨#[]⟩ x.1) = W.drop (m + 1) := by
    rw [List.filter_eq_self]
    intro x hx
    rw [inK_free, decide_eq_true_eq, next_list]
    obtain ⟨j, hj, rfl⟩ := List.mem_iff_getElem.1 hx
    rw [List.length_drop] at hj
    rw [List.getElem_drop]
    have := h2 m (m + 1 + j) hm (by omega) (by omega)
    exact cmpL_next _ _ (by rw [cmpL_turn, this]; rfl)
  rw [e1, e2]
  rfl
theorem whole_rise {L : List Ent} (h : Up L) (seq : Int) : (wholeV L seq).Pairwise fun a b => cmpL a.1.data.toList b.1.data.toList = -1 := by
  unfold wholeV pairsV
  rw [List.pairwise_map]
  exact (rows_rise h _ _ (Nat.le_refl _)).filter _
theorem whole_len (L : List Ent) (seq : Int) : (wholeV L seq).length ≤ L.length := by
  unfold wholeV pairsV
  rw [List.length_map]
  exact Nat.le_trans (List.length_filter_le _ _) (rows_len _ _ _)
end Go.Proofs.Ytnmmeaoapfampaa
