/-
  Tables: plain facts: which entries, and which filter, any bytes are a table of.
-/
import Derived.Test.YteeikmpfgbfeoaaGreatTabMath
namespace Go.Proofs.YteeikmpfgbfeoaaGreat
open Go.RowKit

def IsTabP (b : List UInt8) (es : List Ent) (per : Nat) (f : List UInt8) : Prop := 1 ≤ per ∧ per ≤ 64 ∧ MayT es ∧ f.length ≤ 1048576 ∧ tableL es per f = b
/-- Where a table's filter begins, as its last bytes tell. -/
def atT (b : List UInt8) : Nat := valL ((b.drop (b.length - 16)).take 4)

theorem table_split (es : List Ent) (per : Nat) (f : List UInt8) : ∃ t, t.length = 16 ∧ t.take 4 = fixL (((tabB es per (nBlk es per)).length : Nat) : Int) 4 ∧ tableL es per f = tabB es per (nBlk es per) ++ (frRaw f ++ (frRaw (idxB es per (nBlk es per)) ++ t)) := by
  refine ⟨fixL (((tabB es per (nBlk es per)).length : Nat) : Int) 4 ++ fixL ((((tabB es per (nBlk es per)).length + (f.length + 8)) : Nat) : Int) 4 ++ fixL ((es.length : Nat) : Int) 4 ++ [105, 99, 98, 49], ?_, ?_, ?_⟩
  · simp [fixL_length]
  · rw [List.append_assoc, List.append_assoc, List.take_left' (fixL_length _ _)]
  · unfold tableL
    simp only [List.append_assoc]

theorem IsTabP.len {b : List UInt8} {es : List Ent} {per : Nat} {f : List UInt8} (h : IsTabP b es per f) : (tabB es per (nBlk es per)).length + 32 + f.length ≤ b.length := by
  obtain ⟨t, h1, _, h3⟩ := table_split es per f
  rw [← h.2.2.2.2, h3]
  simp only [List.length_append, frRaw_length, h1]
  omega
theorem IsTabP.at_ {b : List UInt8} {es : List Ent} {per : Nat} {f : List UInt8} (h : IsTabP b es per f) (hb : b.length ≤ 100000000) : atT b = (tabB es per (nBlk es per)).length := by
  have hl := h.len
  obtain ⟨t, h1, h2, h3⟩ := table_split es per f
  have hd : b.drop (b.length - 16) = t := by
    rw [← h.2.2.2.2, h3, ← List.append_assoc, ← List.append_assoc]
    rw [List.drop_left' (by simp only [List.length_append, h1]; omega)]
  unfold atT
  rw [hd, h2, valL_fixL _ _ (by omega)]

/-- A block is told. -/
theorem IsTabP.step {b : List UInt8} {es : List Ent} {per : Nat} {f : List UInt8} (h : IsTabP b es per f) (hb : b.length ≤ 1000000) {k : Nat} (hk : k < nBlk es per) :
    frOk b (tabB es per k).length = true ∧ frP b (tabB es per k).length = blockL (partE es per k) ∧ (tabB es per k).length + 8 + frN b (tabB es per k).length = (tabB es per (k + 1)).length := by
  obtain ⟨r, hr⟩ := tabB_split es per (k := k + 1) (n := nBlk es per) hk
  obtain ⟨t, _, _, h3⟩ := table_split es per f
  have hbk : b = tabB es per k ++ (frRaw (blockL (partE es per k)) ++ (r ++ (frRaw f ++ (frRaw (idxB es per (nBlk es per)) ++ t)))) := by
    rw [← h.2.2.2.2, h3, hr]
    show (tabB es per k ++ blkF es per k ++ r) ++ _ = _
    unfold blkF
    simp only [List.append_assoc]
  have hp : (blockL (partE es per k)).length ≤ 1048576 := by
    have := congrArg List.length hbk
    simp only [List.length_append, frRaw_length] at this
    omega
  have h1 := frame_parts (tabB es per k) (blockL (partE es per k)) (r ++ (frRaw f ++ (frRaw (idxB es per (nBlk es per)) ++ t))) hp
  have h2 := frame_there (tabB es per k) (blockL (partE es per k)) (r ++ (frRaw f ++ (frRaw (idxB es per (nBlk es per)) ++ t))) hp
  rw [← hbk] at h1 h2
  refine ⟨h2, h1.2.2, ?_⟩
  rw [h1.1]
  show _ = (tabB es per k ++ blkF es per k).length
  unfold blkF
  rw [List.length_append, frRaw_length]
  omega
/-- The filter is told. -/
theorem IsTabP.filter {b : List UInt8} {es : List Ent} {per : Nat} {f : List UInt8} (h : IsTabP b es per f) : frOk b (tabB es per (nBlk es per)).length = true ∧ frP b (tabB es per (nBlk es per)).length = f := by
  obtain ⟨t, _, _, h3⟩ := table_split es per f
  have h1 := frame_parts (tabB es per (nBlk es per)) f (frRaw (idxB es per (nBlk es per)) ++ t) h.2.2.2.1
  have h2 := frame_there (tabB es per (nBlk es per)) f (frRaw (idxB es per (nBlk es per)) ++ t) h.2.2.2.1
  rw [← h3, h.2.2.2.2] at h1 h2
  exact ⟨h2, h1.2.2⟩

/-- So far they are those of any table that the bytes can be. -/
def ParT (b : List UInt8) (acc : List Ent) (i per0 : Nat) : Prop := ∀ es per f, IsTabP b es per f → ∃ k, k ≤ nBlk es per ∧ acc = es.take (k * per) ∧ i = (tabB es per k).length ∧ per0 = if k = 0 then 0 else min per es.length

theorem ParT.start (b : List UInt8) : ParT b [] 0 0 := fun es per f _ => ⟨0, Nat.zero_le _, by rw [Nat.zero_mul]; rfl, rfl, rfl⟩
theorem ParT.at_end {b : List UInt8} (hb : b.length ≤ 1000000) {es : List Ent} {per : Nat} {f : List UInt8} (h : IsTabP b es per f) {k : Nat} (hk : k ≤ nBlk es per) : (tabB es per k).length < atT b ↔ k < nBlk es per := by
  rw [h.at_ (by omega)]
  constructor
  · intro h1
    rcases Nat.lt_or_ge k (nBlk es per) with h2 | h2
    · exact h2
    · have : k = nBlk es per := by omega
      subst this
      omega
  · exact fun h1 => tabB_lt es per h1
theorem ParT.one {b : List UInt8} {acc : List Ent} {i per0 : Nat} (h : ParT b acc i per0) (hb : b.length ≤ 1000000) (hi : i < atT b) {es : List Ent} {per : Nat} {f : List UInt8} (ht : IsTabP b es per f) :
    ∃ k, k < nBlk es per ∧ acc = es.take (k * per) ∧ i = (tabB es per k).length ∧ (per0 = if k = 0 then 0 else min per es.length) ∧ frOk b i = true ∧ getB (frP b i) = some (partE es per k) ∧ i + 8 + frN b i = (tabB es per (k + 1)).length := by
  obtain ⟨k, h1, h2, rfl, h4⟩ := h es per f ht
  have hk := (ParT.at_end hb ht h1).1 hi
  obtain ⟨s1, s2, s3⟩ := ht.step hb hk
  refine ⟨k, hk, h2, rfl, h4, s1, ?_, s3⟩
  rw [s2]
  exact getB_put (part_err ht.2.2.1.1 ht.1 ht.2.1 ((nBlk_lt ht.1 k).1 hk))
theorem ParT.no {b : List UInt8} {acc : List Ent} {i per0 : Nat} (h : ParT b acc i per0) (hb : b.length ≤ 1000000) (hi : i < atT b) (hn : frOk b i = false ∨ getB (frP b i) = none ∨ ∃ x, getB (frP b i) = some x ∧ 256 < acc.length + x.length) (es : List Ent) (f : List UInt8) : ¬ IsTab b es f := by
  rintro ⟨per, ht⟩
  obtain ⟨k, hk, h2, _, _, s1, s2, _⟩ := h.one hb hi ht
  rcases hn with hn | hn | ⟨x, hn, hx⟩
  · rw [hn] at s1; cases s1
  · rw [hn] at s2; cases s2
  · rw [hn] at s2
    simp only [Option.some.injEq] at s2
    have h3 := congrArg List.length (part_take es per k)
    rw [List.length_append, ← h2, ← s2, List.length_take] at h3
    have := ht.2.2.1.2.2
    omega
theorem ParT.more {b : List UInt8} {acc x : List Ent} {i per0 : Nat} (h : ParT b acc i per0) (hb : b.length ≤ 1000000) (hi : i < atT b) (hx : getB (frP b i) = some x) : ParT b (acc ++ x) (i + 8 + frN b i) (if per0 = 0 then x.length else per0) := by
  intro es per f ht
  obtain ⟨k, hk, h2, h3, h4, s1, s2, s3⟩ := h.one hb hi ht
  rw [hx] at s2
  simp only [Option.some.injEq] at s2
  have hpos := List.length_pos_iff.2 ht.2.2.1.2.1
  refine ⟨k + 1, hk, by rw [part_take, ← h2, s2], s3, ?_⟩
  rw [show (if k + 1 = 0 then 0 else min per es.length) = min per es.length from if_neg (by omega)]
  have hper := ht.1
  by_cases h0 : k = 0
  · have hp0 : per0 = 0 := by rw [h4, if_pos h0]
    rw [if_pos hp0, s2, part_len, h0, Nat.zero_mul, Nat.sub_zero]
  · have hp0 : per0 = min per es.length := by rw [h4, if_neg h0]
    rw [if_neg (by omega), hp0]
theorem ParT.end_ {b : List UInt8} {acc : List Ent} {i per0 : Nat} (h : ParT b acc i per0) (hb : b.length ≤ 1000000) (hi : ¬ i < atT b) {es : List Ent} {per : Nat} {f : List UInt8} (ht : IsTabP b es per f) :
    acc = es ∧ per0 = min per es.length ∧ frOk b (atT b) = true ∧ frP b (atT b) = f := by
  obtain ⟨k, h1, h2, rfl, h4⟩ := h es per f ht
  have hk : ¬ k < nBlk es per := fun hlt => hi ((ParT.at_end hb ht h1).2 hlt)
  have hkn : ¬ k * per < es.length := fun hlt => hk ((nBlk_lt ht.1 k).2 hlt)
  have hpos := List.length_pos_iff.2 ht.2.2.1.2.1
  have hf := ht.filter
  rw [← ht.at_ (by omega)] at hf
  refine ⟨by rw [h2, List.take_of_length_le (by omega)], ?_, hf.1, hf.2⟩
  rw [h4, if_neg]
  intro h0
  rw [h0, Nat.zero_mul] at hkn
  omega

/-- The table's entries and filter are told by its bytes. -/
theorem tab_one {b : List UInt8} (hb : b.length ≤ 1000000) {x y : List Ent} {f g : List UInt8} (hx : IsTab b x f) (hy : IsTab b y g) : x = y ∧ f = g := by
  obtain ⟨p, hx'⟩ := hx
  obtain ⟨q, hy'⟩ := hy
  have hx : IsTabP b x p f := hx'
  have hy : IsTabP b y q g := hy'
  have key : ∀ n k, nBlk x p - k = n → k ≤ nBlk x p → ∀ acc i per0, ParT b acc i per0 → acc = x.take (k * p) → i = (tabB x p k).length → ∃ acc' i' per', ParT b acc' i' per' ∧ ¬ i' < atT b := by
    intro n
    induction n with
    | zero =>
      intro k h1 h2 acc i per0 hp _ hi
      exact ⟨acc, i, per0, hp, fun h => by rw [hi] at h; have := (ParT.at_end hb hx h2).1 h; omega⟩
    | succ n ih =>
      intro k h1 h2 acc i per0 hp ha hi
      have hk : k < nBlk x p := by omega
      have hlt : i < atT b := by rw [hi]; exact (ParT.at_end hb hx h2).2 hk
      obtain ⟨s1, s2, s3⟩ := hx.step hb hk
      have hg : getB (frP b i) = some (partE x p k) := by rw [hi, s2]; exact getB_put (part_err hx.2.2.1.1 hx.1 hx.2.1 ((nBlk_lt hx.1 k).1 hk))
      exact ih (k + 1) (by omega) hk _ _ _ (hp.more hb hlt hg) (by rw [part_take, ha]) (by rw [← s3, hi])
  obtain ⟨acc, i, per0, hp, hn⟩ := key _ 0 rfl (Nat.zero_le _) [] 0 0 (ParT.start b) (by rw [Nat.zero_mul]; rfl) rfl
  obtain ⟨a1, _, _, a3⟩ := hp.end_ hb hn hx
  obtain ⟨b1, _, _, b3⟩ := hp.end_ hb hn hy
  exact ⟨a1.symm.trans b1, a3.symm.trans b3⟩

open Classical in
/-- The entries and the filter whose table the bytes are. -/
noncomputable def getT (b : List UInt8) : Option (List Ent × List UInt8) := if h : ∃ x : List Ent × List UInt8, IsTab b x.1 x.2 then some h.choose else none
theorem getT_some {b : List UInt8} (hb : b.length ≤ 1000000) {es : List Ent} {f : List UInt8} (h : IsTab b es f) : getT b = some (es, f) := by
  have hex : ∃ x : List Ent × List UInt8, IsTab b x.1 x.2 := ⟨(es, f), h⟩
  unfold getT
  rw [dif_pos hex]
  obtain ⟨h1, h2⟩ := tab_one hb hex.choose_spec h
  rw [show hex.choose = (es, f) from Prod.ext h1 h2]
theorem getT_none {b : List UInt8} (h : ∀ es f, ¬ IsTab b es f) : getT b = none := by
  unfold getT
  rw [dif_neg]
  rintro ⟨⟨es, f⟩, he⟩
  exact h es f he
theorem getT_is {b : List UInt8} {es : List Ent} {f : List UInt8} (h : getT b = some (es, f)) : IsTab b es f := by
  unfold getT at h
  split at h
  · rename_i hx
    simp only [Option.some.injEq] at h
    have := hx.choose_spec
    rw [h] at this
    exact this
  · cases h
end Go.Proofs.YteeikmpfgbfeoaaGreat
