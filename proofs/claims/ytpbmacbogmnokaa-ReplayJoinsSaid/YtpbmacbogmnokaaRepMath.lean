/-
  Logs as plain data: a batch as a record, what a log tells, what logs tell together.
-/
import Derived.Test.YtpbmacbogmnokaaBatchMath
import Derived.Test.YtpbmacbogmnokaaFrameTurn
import Derived.Test.YtpbmacbogmnokaaBats
namespace Go.Proofs.Ytpbmacbogmnokaa
open Go.RowKit

/-- A batch as a record; of one that may not be nothing. -/
def recB (b : Bat) : List UInt8 := if mayBt b.s b.ops = true then frL (putBat b.s b.ops) else []

/-- The batch whose record stands at a place, and the place behind it. -/
def recAt (l : List UInt8) (p : Nat) : Option (Bat × Nat) :=
  if frOk l p = true then (match getBat (frP l p) with | some (s, ops) => some (⟨(s : Int), ops⟩, p + 8 + frN l p) | none => none) else none

/-- Does it go on from the last one? -/
def goesOn (acc : List Bat) (b : Bat) : Bool := match acc.getLast? with | none => true | some x => b.s == x.s + 1

def logN : Nat → List UInt8 → List Bat → Nat → List Bat × Nat
  | 0, _, acc, p => (acc, p)
  | k + 1, l, acc, p => match recAt l p with
    | some (b, q) => if goesOn acc b = true then logN k l (acc ++ [b]) q else (acc, p)
    | none => (acc, p)
/-- What a log tells. -/
def logL (l : List UInt8) : List Bat × Nat := logN (l.length + 1) l [] 0

theorem recAt_some {l : List UInt8} {p q : Nat} {b : Bat} (h : recAt l p = some (b, q)) : frOk l p = true ∧ q = p + 8 + frN l p ∧ q ≤ l.length ∧ mayBt b.s b.ops = true ∧ ∃ s : Nat, b.s = (s : Int) ∧ getBat (frP l p) = some (s, b.ops) := by
  unfold recAt at h
  split at h
  · rename_i ho
    split at h
    · rename_i s ops hg
      simp only [Option.some.injEq, Prod.mk.injEq] at h
      obtain ⟨rfl, rfl⟩ := h
      exact ⟨ho, rfl, frOk_le ho, (getBat_some hg).2.2, s, rfl, hg⟩
    · cases h
  · cases h

theorem recAt_no {l : List UInt8} {p : Nat} (h : frOk l p = false) : recAt l p = none := by
  unfold recAt
  rw [h]
  rfl

theorem recAt_none {l : List UInt8} {p : Nat} (h : frOk l p = true) (hg : getBat (frP l p) = none) : recAt l p = none := by
  unfold recAt
  rw [if_pos h, hg]

theorem recAt_mk {l : List UInt8} {p s : Nat} {ops : List Ope} (h : frOk l p = true) (hg : getBat (frP l p) = some (s, ops)) : recAt l p = some (⟨(s : Int), ops⟩, p + 8 + frN l p) := by
  unfold recAt
  rw [if_pos h, hg]

theorem may_fits {s : Int} {l : List Ope} (h : mayBt s l = true) : (∀ o ∈ l, o.fits) ∧ (Lit.int .i64 s).wf = true := by
  obtain ⟨h1, h2, h3, _⟩ := mayBt_true h
  obtain ⟨_, _, h4⟩ := mayOs_zero h3
  refine ⟨fun o ho => ?_, by simp [Lit.wf, IntKind.min, IntKind.max, IntKind.signed, IntKind.bits]; omega⟩
  obtain ⟨k1, k2, k3, _⟩ := mayO_zero (h4 o ho)
  refine ⟨by rcases k1 with k1 | k1 <;> rw [k1] <;> decide, ?_, ?_⟩ <;> (unfold maxLen; omega)

theorem may_len {s : Int} {l : List Ope} (h : mayBt s l = true) : l.length ≤ 32 := (mayOs_zero (mayBt_true h).2.2.1).2.1

theorem mayBt_mk9 {s : Int} {N : List Ope} (h1 : 1 ≤ s) (h2 : s ≤ 9007199254740992) (h3 : mayOs N = 0) (h4 : normL N = N) : mayBt s N = true := by
  rw [← mayBt_all h1 h2 h3, h4]
  exact sameL_refl N

theorem putBat_len {s : Int} {l : List Ope} (h : mayBt s l = true) : 0 < (putBat s l).length ∧ (putBat s l).length ≤ 100000 := by
  obtain ⟨h1, h2, h3, _⟩ := mayBt_true h
  obtain ⟨h4, h5, h6⟩ := mayOs_zero h3
  unfold putBat
  rw [if_pos h]
  unfold putBody
  have p0 := List.length_pos_iff.2 (putL_ne s.toNat)
  have p1 := putL_length s.toNat (by omega)
  have p2 := putL_length l.length (by omega)
  have p3 := putOps_take_len h6 h5 l.length
  rw [List.take_length] at p3
  simp only [List.length_append]
  omega

theorem recB_may {b : Bat} (h : mayBt b.s b.ops = true) : recB b = frRaw (putBat b.s b.ops) := by
  have := (putBat_len h).2
  unfold recB frL
  rw [if_pos h, if_pos (by omega)]

theorem recB_not {b : Bat} (h : mayBt b.s b.ops = false) : recB b = [] := by
  unfold recB
  rw [h]
  rfl

theorem recB_length {b : Bat} (h : mayBt b.s b.ops = true) : (recB b).length = (putBat b.s b.ops).length + 8 := by rw [recB_may h, frRaw_length]

theorem recB_len (b : Bat) : (recB b).length ≤ 100008 := by
  cases h : mayBt b.s b.ops with
  | true => have := recB_length h; have := (putBat_len h).2; omega
  | false => rw [recB_not h]; simp

/-- A record that stands there is told. -/
theorem recAt_there (a c : List UInt8) {b : Bat} (h : mayBt b.s b.ops = true) : recAt (a ++ (recB b ++ c)) a.length = some (b, (a ++ recB b).length) := by
  have hl := (putBat_len h).2
  obtain ⟨s, hs⟩ : ∃ s : Nat, b.s = (s : Int) := ⟨b.s.toNat, by have := (mayBt_true h).1; omega⟩
  have hlen := recB_length h
  rw [recB_may h] at hlen ⊢
  have h1 := frame_there a (putBat b.s b.ops) c (by omega)
  obtain ⟨h2, _, h4⟩ := frame_parts a (putBat b.s b.ops) c (by omega)
  have hg : getBat (frP (a ++ (frRaw (putBat b.s b.ops) ++ c)) a.length) = some (s, b.ops) := by
    rw [h4, hs]
    rw [hs] at h
    exact getBat_put h
  rw [recAt_mk h1 hg, h2, ← hs, List.length_append, hlen]
  simp only [Option.some.injEq, Prod.mk.injEq]
  exact ⟨trivial, by omega⟩

/-! ### The loop of a log. -/

theorem logN_more : ∀ (k m : Nat) (l : List UInt8) (acc : List Bat) (p : Nat), l.length - p < k → l.length - p < m → logN k l acc p = logN m l acc p
  | 0, _, _, _, _, h, _ => by omega
  | _, 0, _, _, _, _, h => by omega
  | k + 1, m + 1, l, acc, p, h1, h2 => by
    unfold logN
    cases hr : recAt l p with
    | none => rfl
    | some x =>
      obtain ⟨b, q⟩ := x
      simp only
      obtain ⟨_, hq, hq2, _⟩ := recAt_some hr
      split
      · exact logN_more k m l _ q (by omega) (by omega)
      · rfl

/-- What was told so far, and the rest. -/
def LogSo (l : List UInt8) (acc : List Bat) (p : Nat) : Prop := logL l = logN (l.length + 1) l acc p

theorem LogSo.start (l : List UInt8) : LogSo l [] 0 := rfl

theorem LogSo.next {l : List UInt8} {acc : List Bat} {p q : Nat} {b : Bat} (h : LogSo l acc p) (hr : recAt l p = some (b, q)) (hg : goesOn acc b = true) : LogSo l (acc ++ [b]) q := by
  unfold LogSo at h ⊢
  rw [h]
  conv => lhs; unfold logN
  rw [hr]
  simp only
  rw [if_pos hg]
  obtain ⟨_, hq, hq2, _⟩ := recAt_some hr
  exact logN_more _ _ l _ q (by omega) (by omega)

theorem LogSo.stop {l : List UInt8} {acc : List Bat} {p : Nat} (h : LogSo l acc p) (hr : recAt l p = none) : logL l = (acc, p) := by
  unfold LogSo at h
  rw [h, logN, hr]

theorem LogSo.stop2 {l : List UInt8} {acc : List Bat} {p q : Nat} {b : Bat} (h : LogSo l acc p) (hr : recAt l p = some (b, q)) (hg : goesOn acc b = false) : logL l = (acc, p) := by
  unfold LogSo at h
  rw [h, logN, hr]
  simp only
  rw [hg]
  rfl

theorem logN_few : ∀ (k : Nat) (l : List UInt8) (acc : List Bat) (p : Nat), acc.length ≤ p → p ≤ l.length → (∀ b ∈ acc, mayBt b.s b.ops = true) → (logN k l acc p).1.length ≤ l.length ∧ ∀ b ∈ (logN k l acc p).1, mayBt b.s b.ops = true
  | 0, l, acc, p, h1, h2, h3 => ⟨by unfold logN; simp only; omega, h3⟩
  | k + 1, l, acc, p, h1, h2, h3 => by
    unfold logN
    cases hr : recAt l p with
    | none => exact ⟨by simp only; omega, h3⟩
    | some x =>
      obtain ⟨b, q⟩ := x
      simp only
      obtain ⟨_, hq, hq2, hm, _⟩ := recAt_some hr
      split
      · refine logN_few k l _ q (by simp; omega) hq2 fun c hc => ?_
        rw [List.mem_append, List.mem_singleton] at hc
        rcases hc with hc | rfl
        · exact h3 c hc
        · exact hm
      · exact ⟨by simp only; omega, h3⟩

theorem logL_few (l : List UInt8) : (logL l).1.length ≤ l.length := (logN_few _ l [] 0 (by simp) (by omega) (by simp)).1
theorem logL_may (l : List UInt8) : ∀ b ∈ (logL l).1, mayBt b.s b.ops = true := (logN_few _ l [] 0 (by simp) (by omega) (by simp)).2

/-! ### What was written is told again. -/

def rowB (bs : List Bat) : List UInt8 := bs.flatMap recB
def AllMay (bs : List Bat) : Prop := ∀ b ∈ bs, mayBt b.s b.ops = true
/-- The numbers go on by one, from 'n' on. -/
def Consec (n : Int) (bs : List Bat) : Prop := ∀ (i : Nat) (b : Bat), bs[i]? = some b → b.s = n + i

theorem rowB_cons (b : Bat) (bs : List Bat) : rowB (b :: bs) = recB b ++ rowB bs := rfl
theorem rowB_snoc (bs : List Bat) (b : Bat) : rowB (bs ++ [b]) = rowB bs ++ recB b := by simp [rowB]
theorem rowB_app (bs cs : List Bat) : rowB (bs ++ cs) = rowB bs ++ rowB cs := by simp [rowB]
theorem rowB_len : ∀ bs : List Bat, (rowB bs).length ≤ 100008 * bs.length
  | [] => by simp [rowB]
  | b :: bs => by
    have := rowB_len bs
    have := recB_len b
    rw [rowB_cons, List.length_append, List.length_cons]
    omega

theorem Consec.tail {n : Int} {b : Bat} {bs : List Bat} (h : Consec n (b :: bs)) : Consec (n + 1) bs := fun i c hc => by
  have := h (i + 1) c (by simpa using hc)
  omega

theorem goesOn_last {acc : List Bat} {x b : Bat} (h : b.s = x.s + 1) : goesOn (acc ++ [x]) b = true := by
  unfold goesOn
  simp [h]

theorem goesOn_not {acc : List Bat} {x b : Bat} (h : b.s ≠ x.s + 1) : goesOn (acc ++ [x]) b = false := by
  unfold goesOn
  simp [h]

theorem goesOn_nil (b : Bat) : goesOn [] b = true := rfl

theorem goesOn_at {acc : List Bat} (h : 0 < acc.length) (b : Bat) : goesOn acc b = (b.s == (acc.getD (acc.length - 1) default).s + 1) := by
  unfold goesOn
  rw [List.getLast?_eq_getElem?, List.getElem?_eq_getElem (by omega)]
  simp [List.getD, List.getElem?_eq_getElem (show acc.length - 1 < acc.length by omega)]

/-- Those of a row, behind others. -/
theorem log_steps : ∀ (bs : List Bat) (a : List UInt8) (acc : List Bat) (t : List UInt8) (n : Int), AllMay bs → Consec n bs → (acc = [] ∨ ∃ acc' x, acc = acc' ++ [x] ∧ x.s + 1 = n) →
    LogSo (a ++ (rowB bs ++ t)) acc a.length → LogSo (a ++ (rowB bs ++ t)) (acc ++ bs) (a ++ rowB bs).length
  | [], a, acc, t, n, _, _, _, h => by simpa [rowB] using h
  | b :: bs, a, acc, t, n, hm, hc, ha, h => by
    have hb : mayBt b.s b.ops = true := hm b (by simp)
    have hbs : b.s = n := by simpa using hc 0 b rfl
    have hg : goesOn acc b = true := by
      rcases ha with rfl | ⟨acc', x, rfl, hx⟩
      · rfl
      · exact goesOn_last (by omega)
    have e : a ++ (rowB (b :: bs) ++ t) = a ++ (recB b ++ (rowB bs ++ t)) := by rw [rowB_cons, List.append_assoc]
    rw [e] at h ⊢
    have hn := h.next (recAt_there a (rowB bs ++ t) hb) hg
    have e2 : a ++ (recB b ++ (rowB bs ++ t)) = (a ++ recB b) ++ (rowB bs ++ t) := by rw [List.append_assoc]
    rw [e2] at hn ⊢
    have := log_steps bs (a ++ recB b) (acc ++ [b]) t (n + 1) (fun c hc' => hm c (by simp [hc'])) hc.tail (.inr ⟨acc, b, rfl, by omega⟩) hn
    rw [List.append_assoc, List.append_assoc] at this
    rw [rowB_cons]
    simpa using this

theorem log_row (bs : List Bat) (t : List UInt8) (n : Int) (hm : AllMay bs) (hc : Consec n bs) : LogSo (rowB bs ++ t) bs (rowB bs).length := by
  have := log_steps bs [] [] t n hm hc (.inl rfl) (LogSo.start _)
  simpa using this

theorem log_whole (bs : List Bat) (n : Int) (hm : AllMay bs) (hc : Consec n bs) : logL (rowB bs) = (bs, (rowB bs).length) := by
  have h := log_row bs [] n hm hc
  have := h.stop (recAt_no (none_nil _))
  rwa [List.append_nil] at this

theorem AllMay.take {bs : List Bat} (h : AllMay bs) (n : Nat) : AllMay (bs.take n) := fun b hb => h b (List.mem_of_mem_take hb)
theorem AllMay.drop {bs : List Bat} (h : AllMay bs) (n : Nat) : AllMay (bs.drop n) := fun b hb => h b (List.mem_of_mem_drop hb)
theorem Consec.take {n : Int} {bs : List Bat} (h : Consec n bs) (k : Nat) : Consec n (bs.take k) := fun i b hb => by
  rw [List.getElem?_take] at hb
  split at hb
  · exact h i b hb
  · cases hb
theorem Consec.drop {n : Int} {bs : List Bat} (h : Consec n bs) (k : Nat) : Consec (n + k) (bs.drop k) := fun i b hb => by
  rw [List.getElem?_drop] at hb
  have := h _ b hb
  omega

/-- **Of a row that was cut those that are whole.** -/
theorem log_cut (bs : List Bat) (m : Int) (hm : AllMay bs) (hc : Consec m bs) (n k : Nat) (h1 : (rowB (bs.take n)).length ≤ k) (h2 : n < bs.length → k < (rowB (bs.take (n + 1))).length) :
    logL ((rowB bs).take k) = (bs.take n, (rowB (bs.take n)).length) := by
  rcases Nat.lt_or_ge n bs.length with h | h
  · have h2' := h2 h
    have hb : mayBt bs[n].s bs[n].ops = true := hm _ (List.getElem_mem h)
    have hl := recB_length hb
    rw [List.take_succ_eq_append_getElem h, rowB_snoc, List.length_append, hl] at h2'
    have e : bs = bs.take n ++ (bs[n] :: bs.drop (n + 1)) := by
      rw [← List.drop_eq_getElem_cons h, List.take_append_drop]
    have er : rowB bs = rowB (bs.take n) ++ (recB bs[n] ++ rowB (bs.drop (n + 1))) := by
      have h3 := congrArg rowB e
      rwa [rowB_app, rowB_cons] at h3
    have et : (rowB bs).take k = rowB (bs.take n) ++ (recB bs[n]).take (k - (rowB (bs.take n)).length) := by
      rw [er, List.take_append, List.take_of_length_le h1, List.take_append]
      have : k - (rowB (bs.take n)).length - (recB bs[n]).length = 0 := by omega
      rw [this]
      simp
    rw [et]
    refine (log_row _ _ m (hm.take n) (hc.take n)).stop (recAt_no ?_)
    rw [recB_may hb]
    exact frame_cut _ _ _ (by have := (putBat_len hb).2; omega) (by omega)
  · have e : bs.take n = bs := List.take_of_length_le h
    rw [e] at h1 ⊢
    rw [List.take_of_length_le h1]
    exact log_whole bs m hm hc

/-- A row that goes on with another number ends there. -/
theorem log_gap (bs cs : List Bat) (n m : Int) (hm : AllMay bs) (hc : Consec n bs) (h0 : 0 < bs.length) (hm2 : AllMay cs) (hc2 : Consec m cs) (h1 : 0 < cs.length) (hne : m ≠ n + bs.length) :
    logL (rowB (bs ++ cs)) = (bs, (rowB bs).length) := by
  obtain ⟨c, cs', rfl⟩ : ∃ c cs', cs = c :: cs' := by
    cases cs with
    | nil => simp at h1
    | cons c cs' => exact ⟨c, cs', rfl⟩
  have hcs : c.s = m := by simpa using hc2 0 c rfl
  rw [rowB_app, rowB_cons]
  refine (log_row bs _ n hm hc).stop2 (recAt_there _ _ (hm2 c (by simp))) ?_
  rw [goesOn_at h0]
  have := hc (bs.length - 1) bs[bs.length - 1] (List.getElem?_eq_getElem (by omega))
  simp only [List.getD, List.getElem?_eq_getElem (show bs.length - 1 < bs.length by omega), Option.getD_some, beq_eq_false_iff_ne]
  omega

/-- A record looked at among others. -/
theorem frOk_inner (a q t : List UInt8) (h : 8 + frN q 0 ≤ q.length) : frOk (a ++ (q ++ t)) a.length = frOk q 0 := by
  have d : ∀ j, j ≤ q.length → (a ++ (q ++ t)).drop (a.length + j) = q.drop j ++ t := by
    intro j hj
    rw [← List.drop_drop, List.drop_left' rfl, List.drop_append_of_le_length hj]
  have n0 : frN (a ++ (q ++ t)) a.length = frN q 0 := by
    unfold frN
    have := d 0 (by omega)
    rw [Nat.add_zero] at this
    rw [this, List.take_append_of_le_length (by simp; omega)]
  have p0 : frP (a ++ (q ++ t)) a.length = frP q 0 := by
    unfold frP
    rw [n0, d 8 (by omega), List.take_append_of_le_length (by simp; omega)]
  have s0 : ((a ++ (q ++ t)).drop (a.length + 4)).take 4 = (q.drop (0 + 4)).take 4 := by
    rw [d 4 (by omega), List.take_append_of_le_length (by simp; omega)]
  unfold frOk
  rw [n0, p0, s0]
  rw [decide_eq_true (p := a.length + 8 + frN q 0 ≤ (a ++ (q ++ t)).length) (by simp only [List.length_append]; omega), decide_eq_true (p := 0 + 8 + frN q 0 ≤ q.length) (by omega)]

/-- **A record of which a byte behind its length is turned ends a row.** -/
theorem log_spoilt (bs : List Bat) (b : Bat) (n : Int) (hm : AllMay bs) (hc : Consec n bs) (hb : mayBt b.s b.ops = true) (i : Nat) (h4 : 4 ≤ i) (hi : i < (recB b).length) (c : UInt8) (hne : c ≠ (recB b).getD i 0) (t : List UInt8) :
    logL (rowB bs ++ ((recB b).set i c ++ t)) = (bs, (rowB bs).length) := by
  have hp := (putBat_len hb).2
  rw [recB_length hb] at hi
  rw [recB_may hb] at hne ⊢
  refine (log_row bs _ n hm hc).stop (recAt_no ?_)
  have hn : frN ((frRaw (putBat b.s b.ops)).set i c) 0 = (putBat b.s b.ops).length := by
    unfold frN
    rw [List.drop_zero, List.take_set_of_le h4]
    unfold frRaw
    rw [List.append_assoc, List.take_left' (fixL_length _ _)]
    exact valL_fixL _ _ (by omega)
  rw [frOk_inner _ _ _ (by rw [hn, List.length_set, frRaw_length]; omega)]
  exact frame_turned _ (by omega) i h4 hi c hne

/-! ### Logs together. -/

def joinF : List Bat → Int → List Bat
  | [], _ => []
  | b :: r, last => if b.s ≤ last then joinF r last else if last + 1 < b.s then [] else b :: joinF r b.s
/-- What logs tell together, behind 'last'. -/
def joinL (logs : List (List UInt8)) (last : Int) : List Bat := joinF (logs.flatMap fun l => (logL l).1) last

theorem joinF_old {b : Bat} {r : List Bat} {last : Int} (h : b.s ≤ last) : joinF (b :: r) last = joinF r last := by rw [joinF, if_pos h]
theorem joinF_far {b : Bat} {r : List Bat} {last : Int} (h1 : ¬ b.s ≤ last) (h : last + 1 < b.s) : joinF (b :: r) last = [] := by rw [joinF, if_neg h1, if_pos h]
theorem joinF_next {b : Bat} {r : List Bat} {last : Int} (h1 : ¬ b.s ≤ last) (h : ¬ last + 1 < b.s) : joinF (b :: r) last = b :: joinF r b.s := by rw [joinF, if_neg h1, if_neg h]

/-- A part of a row of batches 1, 2, .. that begins with one that is there already, or the next one. -/
theorem joinF_seg (bs : List Bat) (hc : Consec 1 bs) : ∀ (d f g last : Nat) (rest : List Bat), g - f = d → f ≤ g → g ≤ bs.length → f ≤ last →
    joinF ((bs.drop f).take (g - f) ++ rest) (last : Int) = (bs.drop last).take (g - last) ++ joinF rest ((max last g : Nat) : Int)
  | 0, f, g, last, rest, hd, hfg, hg, hl => by
    rw [hd, show g - last = 0 by omega, show max last g = last by omega]
    simp
  | d + 1, f, g, last, rest, hd, hfg, hg, hl => by
    have hf : f < bs.length := by omega
    have hs : bs[f].s = 1 + (f : Int) := hc f _ (List.getElem?_eq_getElem hf)
    rw [hd, List.drop_eq_getElem_cons hf, List.take_succ_cons, List.cons_append]
    have e : g - (f + 1) = d := by omega
    by_cases h : bs[f].s ≤ (last : Int)
    · rw [joinF_old h, ← e]
      exact joinF_seg bs hc d (f + 1) g last rest e (by omega) hg (by omega)
    · rw [joinF_next h (by omega), show bs[f].s = ((f + 1 : Nat) : Int) by omega]
      have hlf : last = f := by omega
      subst hlf
      rw [← e, joinF_seg bs hc d (last + 1) g (last + 1) rest e (by omega) hg (by omega), show max (last + 1) g = max last g by omega]
      rw [show g - last = (g - (last + 1)) + 1 by omega]
      conv => rhs; rw [List.drop_eq_getElem_cons hf]
      rw [List.take_succ_cons, List.cons_append]

/-- What logs told so far, in parts of one row. -/
def JoinSo (bs : List Bat) (logs : List (List UInt8)) (m at_ : Nat) : Prop := ∀ rest : List Bat, joinF ((logs.flatMap fun l => (logL l).1) ++ rest) (m : Int) = (bs.drop m).take (at_ - m) ++ joinF rest ((max m at_ : Nat) : Int)

theorem JoinSo.start (bs : List Bat) (m : Nat) : JoinSo bs [] m 0 := fun rest => by simp

theorem JoinSo.next {bs : List Bat} {logs : List (List UInt8)} {m at_ : Nat} (h : JoinSo bs logs m at_) (hm : AllMay bs) (hc : Consec 1 bs) (f g : Nat) (hf : f ≤ at_) (hg : g ≤ bs.length) (ha : at_ ≤ g) :
    JoinSo bs (logs ++ [rowB ((bs.drop f).take (g - f))]) m g := by
  intro rest
  rw [List.flatMap_append, List.append_assoc, h, List.flatMap_cons, List.flatMap_nil, List.append_nil]
  rw [log_whole _ (1 + f) ((hm.drop f).take _) ((hc.drop f).take _)]
  simp only
  rw [joinF_seg bs hc (g - f) f g (max m at_) rest rfl (by omega) hg (by omega), ← List.append_assoc]
  rw [show max (max m at_) g = max m g by omega]
  congr 1
  rcases Nat.lt_or_ge at_ m with h1 | h1
  · rw [show at_ - m = 0 by omega, show max m at_ = m by omega]
    simp
  · rw [show max m at_ = at_ by omega, show g - m = (at_ - m) + (g - at_) by omega, List.take_add, List.drop_drop, show m + (at_ - m) = at_ by omega]

theorem JoinSo.done {bs : List Bat} {logs : List (List UInt8)} {m : Nat} (h : JoinSo bs logs m bs.length) : joinL logs (m : Int) = bs.drop m := by
  have := h []
  rw [List.append_nil] at this
  unfold joinL
  rw [this]
  simp [joinF, List.take_of_length_le]
end Go.Proofs.Ytpbmacbogmnokaa
