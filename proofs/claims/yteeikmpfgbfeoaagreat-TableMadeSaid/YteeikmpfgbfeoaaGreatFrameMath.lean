/-
  Records in a row, as plain data: a record of bytes, what stands at a place, what is told from the beginning on.
-/
import Derived.Test.YteeikmpfgbfeoaaGreatSumTurn
import Derived.Test.YteeikmpfgbfeoaaGreatNumMath
namespace Go.Proofs.YteeikmpfgbfeoaaGreat

/-- A record of bytes, of so many as there may be. -/
def frRaw (p : List UInt8) : List UInt8 := fixL (p.length : Int) 4 ++ fixL (sumL p : Int) 4 ++ p
def frL (p : List UInt8) : List UInt8 := if p.length ≤ 1048576 then frRaw p else []

def frN (b : List UInt8) (at_ : Nat) : Nat := valL ((b.drop at_).take 4)
def frP (b : List UInt8) (at_ : Nat) : List UInt8 := (b.drop (at_ + 8)).take (frN b at_)
/-- Is there one? -/
def frOk (b : List UInt8) (at_ : Nat) : Bool := decide (at_ + 8 + frN b at_ ≤ b.length) && decide (frN b at_ ≤ 1048576) && decide (sumL (frP b at_) = valL ((b.drop (at_ + 4)).take 4))

/-- From a place on, as far as they go: what they hold, and where the last one ends. -/
def scanN : Nat → List UInt8 → Nat → List (List UInt8) × Nat
  | 0, _, at_ => ([], at_)
  | k + 1, b, at_ => if frOk b at_ then let r := scanN k b (at_ + 8 + frN b at_); (frP b at_ :: r.1, r.2) else ([], at_)
def scanL (b : List UInt8) : List (List UInt8) × Nat := scanN (b.length + 1) b 0

theorem frRaw_length (p : List UInt8) : (frRaw p).length = p.length + 8 := by
  unfold frRaw
  simp only [List.length_append, fixL_length]
  omega

theorem frOk_le {b : List UInt8} {at_ : Nat} (h : frOk b at_ = true) : at_ + 8 + frN b at_ ≤ b.length := by
  unfold frOk at h
  simp only [Bool.and_eq_true, decide_eq_true_eq] at h
  exact h.1.1

theorem frP_length {b : List UInt8} {at_ : Nat} (h : at_ + 8 + frN b at_ ≤ b.length) : (frP b at_).length = frN b at_ := by
  unfold frP
  rw [List.length_take, List.length_drop]
  omega

/-- More steps than there are bytes make no odds. -/
theorem scanN_more : ∀ (k m : Nat) (b : List UInt8) (at_ : Nat), b.length - at_ < k → b.length - at_ < m → scanN k b at_ = scanN m b at_
  | 0, _, _, _, h, _ => by omega
  | _, 0, _, _, _, h => by omega
  | k + 1, m + 1, b, at_, h1, h2 => by
    unfold scanN
    by_cases h : frOk b at_ = true
    · rw [if_pos h, if_pos h]
      have hl := frOk_le h
      rw [scanN_more k m b _ (by omega) (by omega)]
    · rw [if_neg h, if_neg h]

/-- The loop: what was told so far, and the rest. -/
def ScanSo (b : List UInt8) (l : List (List UInt8)) (at_ : Nat) : Prop := scanL b = (l ++ (scanN (b.length + 1) b at_).1, (scanN (b.length + 1) b at_).2)

theorem ScanSo.start (b : List UInt8) : ScanSo b [] 0 := rfl

theorem ScanSo.next {b : List UInt8} {l : List (List UInt8)} {at_ : Nat} (h : ScanSo b l at_) (ho : frOk b at_ = true) : ScanSo b (l ++ [frP b at_]) (at_ + 8 + frN b at_) := by
  unfold ScanSo at h ⊢
  rw [h]
  have hl := frOk_le ho
  have e : scanN (b.length + 1) b at_ = (frP b at_ :: (scanN b.length b (at_ + 8 + frN b at_)).1, (scanN b.length b (at_ + 8 + frN b at_)).2) := by
    rw [scanN, if_pos ho]
  rw [e, scanN_more b.length (b.length + 1) b (at_ + 8 + frN b at_) (by omega) (by omega)]
  simp

theorem ScanSo.stop {b : List UInt8} {l : List (List UInt8)} {at_ : Nat} (h : ScanSo b l at_) (ho : frOk b at_ = false) : scanL b = (l, at_) := by
  unfold ScanSo at h
  rw [h, scanN, if_neg (by rw [ho]; simp)]
  simp

/-! ### A record that stands there is told. -/

theorem sumL_lt32 (l : List UInt8) : sumL l < 256 ^ 4 := by
  have := sumL_lt l
  omega

/-- The parts of a place where a record stands whole. -/
theorem frame_parts (a p c : List UInt8) (hp : p.length ≤ 1048576) : frN (a ++ (frRaw p ++ c)) a.length = p.length ∧ valL (((a ++ (frRaw p ++ c)).drop (a.length + 4)).take 4) = sumL p ∧ frP (a ++ (frRaw p ++ c)) a.length = p := by
  have d0 : (a ++ (frRaw p ++ c)).drop a.length = frRaw p ++ c := by simp
  have d4 : (a ++ (frRaw p ++ c)).drop (a.length + 4) = fixL (sumL p : Int) 4 ++ (p ++ c) := by
    rw [← List.drop_drop, d0]
    unfold frRaw
    rw [List.append_assoc, List.append_assoc, List.drop_left' (fixL_length _ _)]
  have d8 : (a ++ (frRaw p ++ c)).drop (a.length + 8) = p ++ c := by
    rw [show a.length + 8 = a.length + 4 + 4 from rfl, ← List.drop_drop, d4, List.drop_left' (fixL_length _ _)]
  have n0 : frN (a ++ (frRaw p ++ c)) a.length = p.length := by
    unfold frN
    rw [d0]
    unfold frRaw
    rw [List.append_assoc, List.append_assoc, List.take_left' (fixL_length _ _)]
    exact valL_fixL _ _ (by omega)
  refine ⟨n0, ?_, ?_⟩
  · rw [d4, List.take_left' (fixL_length _ _)]
    exact valL_fixL _ _ (sumL_lt32 p)
  · unfold frP
    rw [n0, d8]
    simp

theorem frame_there (a p c : List UInt8) (hp : p.length ≤ 1048576) : frOk (a ++ (frRaw p ++ c)) a.length = true := by
  obtain ⟨h1, h2, h3⟩ := frame_parts a p c hp
  unfold frOk
  rw [h1, h2, h3]
  simp only [List.length_append, frRaw_length, Bool.and_eq_true, decide_eq_true_eq]
  exact ⟨⟨by omega, hp⟩, trivial⟩

/-- A record that is cut is none. -/
theorem frame_cut (a p : List UInt8) (m : Nat) (hp : p.length ≤ 1048576) (hm : m < p.length + 8) : frOk (a ++ (frRaw p).take m) a.length = false := by
  unfold frOk
  by_cases h : a.length + 8 + frN (a ++ (frRaw p).take m) a.length ≤ (a ++ (frRaw p).take m).length
  · exfalso
    rw [List.length_append, List.length_take, frRaw_length] at h
    have h8 : 8 ≤ m := by omega
    have hn : frN (a ++ (frRaw p).take m) a.length = p.length := by
      unfold frN
      rw [List.drop_left' rfl, List.take_take, Nat.min_eq_left (by omega)]
      unfold frRaw
      rw [List.append_assoc, List.take_left' (fixL_length _ _)]
      exact valL_fixL _ _ (by omega)
    rw [hn] at h
    omega
  · rw [decide_eq_false h]
    rfl

/-- All of them in a row. -/
def rowL (ls : List (List UInt8)) : List UInt8 := ls.flatMap frRaw
def Short (ls : List (List UInt8)) : Prop := ∀ p ∈ ls, p.length ≤ 1048576

theorem row_cons (p : List UInt8) (ls : List (List UInt8)) : rowL (p :: ls) = frRaw p ++ rowL ls := rfl
theorem row_snoc (p : List UInt8) (ls : List (List UInt8)) : rowL (ls ++ [p]) = rowL ls ++ frRaw p := by simp [rowL]

/-- Those of a row, behind others, with what is none behind. -/
theorem scan_rest : ∀ (ls a : List (List UInt8)) (t : List UInt8), Short ls → (∀ c : List UInt8, frOk (c ++ t) c.length = false) → ScanSo (rowL a ++ (rowL ls ++ t)) a (rowL a).length → scanL (rowL a ++ (rowL ls ++ t)) = (a ++ ls, (rowL (a ++ ls)).length)
  | [], a, t, _, ht, h => by
    have := h.stop (by have := ht (rowL a); simpa [rowL] using this)
    rw [this]
    simp
  | p :: ls, a, t, hs, ht, h => by
    have hp : p.length ≤ 1048576 := hs p (by simp)
    have e : rowL a ++ (rowL (p :: ls) ++ t) = rowL a ++ (frRaw p ++ (rowL ls ++ t)) := by rw [row_cons, List.append_assoc]
    rw [e] at h ⊢
    obtain ⟨h1, h2, h3⟩ := frame_parts (rowL a) p (rowL ls ++ t) hp
    have hn := h.next (frame_there _ _ _ hp)
    rw [h1, h3] at hn
    have e2 : rowL a ++ (frRaw p ++ (rowL ls ++ t)) = rowL (a ++ [p]) ++ (rowL ls ++ t) := by rw [row_snoc, List.append_assoc]
    have e3 : (rowL a).length + 8 + p.length = (rowL (a ++ [p])).length := by rw [row_snoc, List.length_append, frRaw_length]; omega
    rw [e2, e3] at hn
    rw [e2, scan_rest ls (a ++ [p]) t (fun q hq => hs q (by simp [hq])) ht hn]
    simp

/-- **A row of records, cut behind n whole ones and m bytes of the next.** -/
theorem scan_row (ls : List (List UInt8)) (t : List UInt8) (hs : Short ls) (ht : ∀ c : List UInt8, frOk (c ++ t) c.length = false) : scanL (rowL ls ++ t) = (ls, (rowL ls).length) := by
  have := scan_rest ls [] t hs ht (ScanSo.start _)
  simpa [rowL] using this

theorem none_nil (c : List UInt8) : frOk (c ++ []) c.length = false := by
  unfold frOk
  rw [decide_eq_false (by rw [List.append_nil]; omega)]
  rfl

theorem scan_cut (ls : List (List UInt8)) (hs : Short ls) (n k : Nat) (hn : n ≤ ls.length) (h1 : (rowL (ls.take n)).length ≤ k) (h2 : n < ls.length → k < (rowL (ls.take (n + 1))).length) :
    scanL ((rowL ls).take k) = (ls.take n, (rowL (ls.take n)).length) := by
  have hs' : Short (ls.take n) := fun p hp => hs p (List.mem_of_mem_take hp)
  rcases Nat.lt_or_ge n ls.length with h | h
  · have h2' := h2 h
    have hmem : ls[n] ∈ ls := List.getElem_mem h
    rw [List.take_succ_eq_append_getElem h, row_snoc, List.length_append, frRaw_length] at h2'
    have e : ls = ls.take n ++ (ls[n] :: ls.drop (n + 1)) := by
      rw [← List.drop_eq_getElem_cons h, List.take_append_drop]
    have er : rowL ls = rowL (ls.take n) ++ (frRaw ls[n] ++ rowL (ls.drop (n + 1))) := by
      have h3 := congrArg rowL e
      rw [show rowL (ls.take n ++ (ls[n] :: ls.drop (n + 1))) = rowL (ls.take n) ++ (frRaw ls[n] ++ rowL (ls.drop (n + 1))) from by unfold rowL; rw [List.flatMap_append, List.flatMap_cons]] at h3
      exact h3
    have et : (rowL ls).take k = rowL (ls.take n) ++ (frRaw ls[n]).take (k - (rowL (ls.take n)).length) := by
      rw [er, List.take_append, List.take_of_length_le h1, List.take_append]
      have : k - (rowL (ls.take n)).length - (frRaw ls[n]).length = 0 := by rw [frRaw_length]; omega
      rw [this]
      simp
    rw [et]
    exact scan_row _ _ hs' fun c => frame_cut c ls[n] _ (hs _ hmem) (by omega)
  · have hn' : n = ls.length := by omega
    subst hn'
    rw [List.take_length] at h1 ⊢
    rw [List.take_of_length_le (by omega)]
    have := scan_row ls [] hs none_nil
    simpa using this
end Go.Proofs.YteeikmpfgbfeoaaGreat
