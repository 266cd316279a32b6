import Derived.Test.YtnmmeaoapfampaaMg02
import Derived.Lib.SliceRun
import Derived.Test.YtnmmeaoapfampaaMemMath
import Derived.Test.YtnmmeaoapfampaaMergeMath
import Derived.Test.YtnmmeaoapfampaaMg00

/-
  slices.CompactFunc of entries: of those of one key side by side the first stays.
-/
namespace Go.Proofs.Ytnmmeaoapfampaa
open Go.RowKit

/-- Does the entry stay? -/
def keepAt (l : List Ent) (j : Nat) : Bool := j == 0 || !same (l.getD j Ent.none_) (l.getD (j - 1) Ent.none_)
/-- What stays of the first ones. -/
def cpN (l : List Ent) : Nat → List Ent
  | 0 => []
  | j + 1 => cpN l j ++ (if keepAt l j then [l.getD j Ent.none_] else [])
theorem cpN_len (l : List Ent) : ∀ j, (cpN l j).length ≤ j
  | 0 => Nat.le_refl _
  | j + 1 => by
    have := cpN_len l j
    unfold cpN
    rw [List.length_append]
    split
    · rw [List.length_singleton]; omega
    · rw [List.length_nil]; omega
theorem cpN_yes {l : List Ent} {j : Nat} (h : keepAt l j = true) : cpN l (j + 1) = cpN l j ++ [l.getD j Ent.none_] := by unfold cpN; rw [if_pos h]; cases j <;> rfl
theorem cpN_no {l : List Ent} {j : Nat} (h : keepAt l j = false) : cpN l (j + 1) = cpN l j := by unfold cpN; rw [if_neg (by rw [h]; decide), List.append_nil]; cases j <;> rfl
theorem keep_of {l : List Ent} {j u : Nat} {x y : Ent} (hu : u + 1 = j) (hx : l.getD j Ent.none_ = x) (hy : l.getD u Ent.none_ = y) : keepAt l j = !same x y := by
  subst hu
  unfold keepAt
  rw [Nat.add_sub_cancel, hx, hy]
  simp
theorem cpN_take {l : List Ent} {k : Nat} (h : cpN l k = l.take k) (hk : keepAt l k = true) (hl : k < l.length) : cpN l (k + 1) = l.take (k + 1) := by
  rw [cpN_yes hk, h, List.take_succ_eq_append_getElem hl]
  simp [List.getD, hl]

set_option maxRecDepth 100000 in
theorem sameE_any (x y : Ent) (W : World) : Calls Try.prog 35 #[entV x, entV y] W fun e w' => e = .returned (.bool (same x y)) ∧ Below W.heap.size W w' := by
  have hz := cmp_zero x y
  have HSM : Hid (same x y = decide (x.u = y.u ∧ x.s = y.s ∧ x.k = y.k)) := by
    show _ = _
    unfold same
    simp only [hz]
  clear hz
  rw [HSM.out]
  have h0 : x.u.toList = y.u.toList ↔ x.u = y.u := ⟨fun e => by rw [Lib.toList_data, Lib.toList_data] at e; exact ByteArray.ext (Array.toList_inj.1 e), fun e => by rw [e]⟩
  by_cases h1 : x.u.toList = y.u.toList <;> by_cases h2 : x.s = y.s <;> by_cases h3 : x.k = y.k
  all_goals
    have HU := Lib.hid h0
    clear h0
    go_enter Try.func35, Try.ntmps35
    go_wp2
    go_ret
    refine ⟨?_, ((Below.refl _ W).alloc (Nat.le_refl _) _).alloc (by simp) _⟩
    simp [← HU.out, h1, h2, h3]
section
variable {B g : Nat} {w0 W : World} {a : Option Addr} {cap n : Nat} {l : List Ent}
theorem SL.alike (_ : SL B w0 (some ⟨g, 0, none⟩) cap n l W) {i j : Nat} (_ : i < n) (_ : j < n) (m : Nat) (os : Array Obj) :
    Calls Try.prog 35 #[entV (l.getD i Ent.none_), entV (l.getD j Ent.none_)] (shiftW W m os) fun e w'' => e = .returned (.bool (same (l.getD i Ent.none_) (l.getD j Ent.none_))) ∧ ∃ p : ShiftBy, w'' = shiftW W p.n p.os :=
  Calls.shift_of (sameE_any _ _ _)
/-- The first ones alone. -/
theorem SL.front {P R : List Ent} {k : Nat} (h : SL B w0 (some ⟨g, 0, none⟩) cap n (P ++ R) W) (hk : k = P.length) (hn : 0 < n) : SL B w0 (some ⟨g, 0, none⟩) cap k P W := by
  obtain ⟨g', he, hb, cur, hg, hs, hnc, ht⟩ := h.at_ hn
  cases he
  have hl := h.len
  rw [List.length_append] at hl
  have hm : cap ≤ maxLen := by
    rcases h.own.2 with ⟨h1, _⟩ | ⟨_, _, _, hv, _, _, _, hm, _⟩
    · cases h1
    · cases hv; exact hm
  refine ⟨hk.symm, h.below, h.le, ⟨by rw [flat_length], .inr ⟨g, cap, cur, by rw [hk], hb, hg, by omega, hm, hs, ?_⟩⟩, fun e he => h.fits e (List.mem_append_left _ he)⟩
  have h9 := congrArg (List.take (P.length * 4)) ht
  rw [List.take_take, Nat.min_eq_left (by omega), List.flatMap_append, List.take_append_of_le_length (by rw [flat_length]; exact Nat.le_refl _), List.take_of_length_le (l := P.flatMap Ent.cells) (by rw [flat_length]; exact Nat.le_refl _)] at h9
  exact h9
/-- Stores behind it leave it. -/
theorem SL.beyond {P : List Ent} {k o : Nat} (h : SL B w0 (some ⟨g, 0, none⟩) cap k P W) (hk : 0 < k) (ho : k * 4 ≤ o) (vs : List Value) : SL B w0 (some ⟨g, 0, none⟩) cap k P (W.setCells g o vs) := by
  obtain ⟨g', he, hb, cur, hg, hs, hnc, ht⟩ := h.at_ hk
  cases he
  have hm : cap ≤ maxLen := by
    rcases h.own.2 with ⟨h1, _⟩ | ⟨_, _, _, hv, _, _, _, hm, _⟩
    · cases h1
    · cases hv; exact hm
  obtain ⟨cur', k1, k2, k3⟩ := setCells_row vs o W cur hg
  have hB : Below B W (W.setCells g o vs) := Kept.below (kept_setCells (R := fun k => k < B) (by omega) _ _ _ (Kept.refl _ _)) fun _ h => h
  refine ⟨h.len, h.below.trans hB, Nat.le_trans h.le hB.size, ⟨by rw [flat_length], .inr ⟨g, cap, cur', by rw [h.len], hb, k1, by rw [h.len]; exact hnc, hm, by rw [k2, hs], ?_⟩⟩, h.fits⟩
  rw [← ht, h.len]
  refine List.ext_getElem? fun j => ?_
  by_cases hj : j < k * 4
  · have hjc : j < cur.size := by rw [hs]; have := Nat.mul_le_mul_right 4 hnc; omega
    rw [List.getElem?_take_of_lt hj, List.getElem?_take_of_lt hj, Array.getElem?_toList, Array.getElem?_toList, k3 j hjc, if_neg (by omega)]
  · rw [List.getElem?_take_eq_none (by omega), List.getElem?_take_eq_none (by omega)]
def zeroRow (m : Nat) : List Value := (Builtin.zeroCells (Value.agg #[.string ⟨#[]⟩, .int .i64 0, .int .i64 0, .string ⟨#[]⟩]).cells m).toList
theorem zeroRow_len (m : Nat) : (zeroRow m).length = 4 * m ∨ (zeroRow m).length = m * 4 := by
  unfold zeroRow
  first | (left; simp [Builtin.zeroCells, Value.cells]; done) | (right; simp [Builtin.zeroCells, Value.cells]; done)
theorem zeroRow_one (m : Nat) : ∀ v ∈ zeroRow m, v.oneCell' = true := by
  intro v hv
  unfold zeroRow at hv
  have hc : ∀ i, ((Value.agg #[.string ⟨#[]⟩, .int .i64 0, .int .i64 0, .string ⟨#[]⟩]).cells[i % 4]!).oneCell' = true := fun i => by
    have : i % 4 < 4 := Nat.mod_lt _ (by decide)
    generalize i % 4 = r at this
    obtain rfl | rfl | rfl | rfl : r = 0 ∨ r = 1 ∨ r = 2 ∨ r = 3 := by omega
    all_goals rfl
  rw [Builtin.zeroCells, Array.toList_map] at hv
  obtain ⟨i, _, rfl⟩ := List.mem_map.1 hv
  exact hc i
theorem SL.zeroed (h : SL B w0 (some ⟨g, 0, none⟩) cap n l W) {k : Nat} (hk : k < n) (c : Nat) (ty : TypeId) :
    (Builtin.clear_ #[25] ty #[.slice (some ⟨g, k * 4, none⟩) (n - k) c]).run Try.prog W = .ok (.tuple #[]) (W.setCells g (k * 4) (zeroRow (n - k))) := by
  obtain ⟨g', he, hb, cur, hg, hs, hnc, ht⟩ := h.at_ hk
  cases he
  have hll : (zeroRow (n - k)).length = (n - k) * 4 := by rcases zeroRow_len (n - k) with h1 | h1 <;> omega
  have hst := run_storeCells_cells (P := Try.prog) g (k * 4) (zeroRow (n - k)) 0 W (fun j hj => by
    rw [Nat.add_zero, blk_cell hg]
    have : k * 4 + j < cur.size := by rw [hs]; have := Nat.mul_le_mul_right 4 hnc; omega
    simp [this]) (fun j _ => blk_free hg) (zeroRow_one _)
  simp only [Nat.add_zero] at hst
  obtain ⟨m, hm⟩ : ∃ m, n - k = m + 1 := ⟨n - k - 1, by omega⟩
  rw [hm] at hst ⊢
  have hv : (zeroValue 38).run Try.prog W = .ok (.agg #[.string ⟨#[]⟩, .int .i64 0, .int .i64 0, .string ⟨#[]⟩]) W := by kernel_rfl
  unfold zeroRow at hst ⊢
  simp [Builtin.clear_, run_underlying Try.underlying25, hv, hst]
end

end Go.Proofs.Ytnmmeaoapfampaa

/-
  Plain: two lists in order that have the same entries are one.
-/
namespace Go.Proofs.Ytnmmeaoapfampaa
open Go.RowKit

theorem up_ext : ∀ {L M : List Ent}, Up L → Up M → (∀ x, x ∈ L ↔ x ∈ M) → L = M
  | [], [], _, _, _ => rfl
  | [], b :: t, _, _, h => by have := (h b).2 (by simp); simp at this
  | a :: r, [], _, _, h => by have := (h a).1 (by simp); simp at this
  | a :: r, b :: t, h1, h2, h => by
    have h1' := List.pairwise_cons.1 h1
    have h2' := List.pairwise_cons.1 h2
    have hab : a = b := by
      refine Classical.byContradiction fun hne => ?_
      have ha : a ∈ t := by
        rcases List.mem_cons.1 ((h a).1 (by simp)) with e | e
        · exact absurd e hne
        · exact e
      have hb : b ∈ r := by
        rcases List.mem_cons.1 ((h b).2 (by simp)) with e | e
        · exact absurd e.symm hne
        · exact e
      have c1 := h1'.1 b hb
      have c2 := h2'.1 a ha
      rw [cmp_back a b] at c2
      omega
    subst hab
    congr 1
    refine up_ext h1'.2 h2'.2 fun x => ?_
    constructor
    · intro hx
      rcases List.mem_cons.1 ((h x).1 (by simp [hx])) with e | e
      · have := h1'.1 x hx
        rw [e, cmp_self] at this; omega
      · exact e
    · intro hx
      rcases List.mem_cons.1 ((h x).2 (by simp [hx])) with e | e
      · have := h2'.1 x hx
        rw [e, cmp_self] at this; omega
      · exact e
end Go.Proofs.Ytnmmeaoapfampaa

/-
  Chapter 14: plain facts: the first entry of each key, told in two ways.
-/
namespace Go.Proofs.Ytnmmeaoapfampaa
open Go.RowKit

theorem same_iff {x y : Ent} : same x y = true ↔ x.cmp y = 0 := by unfold same; simp
theorem same_turn {x y : Ent} (h : x.cmp y = 0) : y.cmp x = 0 := by have := cmp_back x y; omega
theorem filter_same {x y : Ent} (h : x.cmp y = 0) (l : List Ent) : l.filter (same x) = l.filter (same y) := by
  refine List.filter_congr fun z _ => ?_
  rw [Bool.eq_iff_iff, same_iff, same_iff]
  exact ⟨fun h1 => cmp_eq_trans h h1, fun h1 => cmp_eq_trans (same_turn h) h1⟩
/-- 'A' has the first entry of each key. -/
def FirstOf (base A : List Ent) : Prop := ∀ x, x ∈ A ↔ (base.filter (same x)).head? = some x
theorem FirstOf.nil : FirstOf [] [] := fun x => by simp
theorem FirstOf.sub {base A : List Ent} (h : FirstOf base A) {x : Ent} (hx : x ∈ A) : x ∈ base := by
  have h1 := List.mem_of_head? ((h x).1 hx)
  exact (List.mem_filter.1 h1).1
theorem FirstOf.has {base A : List Ent} (h : FirstOf base A) {y : Ent} (hy : y ∈ base) : ∃ z ∈ A, z.cmp y = 0 := by
  have h1 : y ∈ base.filter (same y) := List.mem_filter.2 ⟨hy, same_iff.2 (cmp_self y)⟩
  cases hf : base.filter (same y) with
  | nil => rw [hf] at h1; cases h1
  | cons z r =>
    have h2 : z ∈ base.filter (same y) := by rw [hf]; simp
    have h3 := same_iff.1 (List.mem_filter.1 h2).2
    refine ⟨z, (h z).2 ?_, same_turn h3⟩
    rw [filter_same (same_turn h3), hf]
    rfl
theorem FirstOf.old {base A : List Ent} {e : Ent} (h : FirstOf base A) (he : ∃ y ∈ base, y.cmp e = 0) : FirstOf (base ++ [e]) A := by
  intro x
  rw [h x, List.filter_append]
  cases hf : base.filter (same x) with
  | cons z r => rfl
  | nil =>
    constructor
    · intro h1; cases h1
    · intro h1
      exfalso
      rw [List.nil_append, List.filter_cons, List.filter_nil] at h1
      by_cases hs : same x e = true
      · rw [if_pos hs] at h1
        obtain ⟨y, hy, hc⟩ := he
        have : y ∈ base.filter (same x) := List.mem_filter.2 ⟨hy, same_iff.2 (cmp_eq_trans (same_turn (same_iff.1 hs)) (same_turn hc))⟩
        rw [hf] at this
        cases this
      · rw [if_neg hs] at h1
        cases h1
theorem FirstOf.new {base A A' : List Ent} {e : Ent} (h : FirstOf base A) (he : ∀ y ∈ base, y.cmp e ≠ 0) (hA : ∀ x, x ∈ A' ↔ x = e ∨ x ∈ A) : FirstOf (base ++ [e]) A' := by
  intro x
  rw [hA, h x, List.filter_append]
  cases hf : base.filter (same x) with
  | cons z r =>
    constructor
    · rintro (rfl | h1)
      · exfalso
        have h2 : z ∈ base.filter (same x) := by rw [hf]; simp
        exact he z (List.mem_filter.1 h2).1 (same_turn (same_iff.1 (List.mem_filter.1 h2).2))
      · exact h1
    · intro h1
      exact .inr h1
  | nil =>
    rw [List.nil_append, List.filter_cons, List.filter_nil]
    constructor
    · rintro (rfl | h1)
      · rw [if_pos (same_iff.2 (cmp_self x))]; rfl
      · cases h1
    · intro h1
      by_cases hs : same x e = true
      · rw [if_pos hs] at h1
        left
        cases h1
        rfl
      · rw [if_neg hs] at h1
        cases h1
theorem firstOf_sort : ∀ (n : Nat) (es : List Ent), es.length = n → FirstOf es (sortE es)
  | 0, es, h => by
    obtain rfl := List.eq_nil_of_length_eq_zero h
    exact FirstOf.nil
  | n + 1, es, h => by
    have hi : n < es.length := by omega
    have e1 : es = es.take n ++ [es.getD n Ent.none_] := by
      conv => lhs; rw [← List.take_length (l := es), h, List.take_succ_eq_append_getElem hi]
      simp [List.getD, hi]
    have e2 : sortE es = sIns (es.getD n Ent.none_) (sortE (es.take n)) := by
      conv => lhs; rw [← List.take_length (l := es), h, sort_take hi]
    have ih := firstOf_sort n (es.take n) (by rw [List.length_take]; omega)
    obtain ⟨T, hT⟩ : ∃ T, T = es.take n := ⟨_, rfl⟩
    obtain ⟨e, he⟩ : ∃ e, e = es.getD n Ent.none_ := ⟨_, rfl⟩
    rw [← hT] at e1 e2 ih
    rw [← he] at e1 e2
    rw [e2, e1]
    have hu := sort_up T
    unfold sIns
    cases hc : isIn e (sortE T) with
    | true =>
      obtain ⟨y, hy, hyc⟩ := (isIn_mem hu).1 hc
      have := ih.old (e := e) ⟨y, ih.sub hy, hyc⟩
      simpa using this
    | false =>
      have := ih.new (e := e) (A' := insE e (sortE T)) (fun y hy hyc => by
        obtain ⟨z, hz, hzc⟩ := ih.has hy
        have : isIn e (sortE T) = true := (isIn_mem hu).2 ⟨z, hz, cmp_eq_trans (same_turn hzc) hyc⟩
        rw [hc] at this
        cases this) (fun x => ins_mem)
      simpa using this
theorem cpN_sub {l : List Ent} : ∀ {j : Nat}, j ≤ l.length → ∀ x ∈ cpN l j, ∃ i, i < j ∧ l.getD i Ent.none_ = x
  | 0, _, x, hx => by cases hx
  | j + 1, hj, x, hx => by
    unfold cpN at hx
    rcases List.mem_append.1 hx with h1 | h1
    · obtain ⟨i, hi, he⟩ := cpN_sub (by omega) x h1
      exact ⟨i, by omega, he⟩
    · split at h1
      · exact ⟨j, by omega, (List.mem_singleton.1 h1).symm⟩
      · cases h1
theorem keep_all {l : List Ent} (hl : Le l) {j : Nat} (hj : j < l.length) : keepAt l j = true ↔ ∀ i, i < j → (l.getD i Ent.none_).cmp (l.getD j Ent.none_) < 0 := by
  cases j with
  | zero => simp [keepAt]
  | succ j =>
    have h1 := le_at hl (i := j) (j := j + 1) (by omega) hj
    have hk : keepAt l (j + 1) = true ↔ (l.getD (j + 1) Ent.none_).cmp (l.getD j Ent.none_) ≠ 0 := by
      unfold keepAt same
      simp
    rw [hk]
    have h2 := cmp_back (l.getD j Ent.none_) (l.getD (j + 1) Ent.none_)
    constructor
    · intro h i hi
      have h3 : (l.getD j Ent.none_).cmp (l.getD (j + 1) Ent.none_) < 0 := by omega
      exact cmp_le_lt (le_at' hl (i := i) (j := j) (by omega) (by omega)) h3
    · intro h
      have := h j (by omega)
      omega
theorem firstOf_cpN {l : List Ent} (hl : Le l) : ∀ j, j ≤ l.length → FirstOf (l.take j) (cpN l j) ∧ Up (cpN l j)
  | 0, _ => ⟨by rw [List.take_zero]; exact FirstOf.nil, List.Pairwise.nil⟩
  | j + 1, hj => by
    obtain ⟨h1, h2⟩ := firstOf_cpN hl j (by omega)
    have e1 : l.take (j + 1) = l.take j ++ [l.getD j Ent.none_] := by
      rw [List.take_succ_eq_append_getElem (by omega)]
      simp [List.getD, show j < l.length by omega]
    rw [e1]
    cases hk : keepAt l j with
    | true =>
      rw [cpN_yes hk]
      have hlt := (keep_all hl (by omega)).1 hk
      refine ⟨h1.new (fun y hy => ?_) (fun x => by simp [or_comm]), ?_⟩
      · obtain ⟨i, hi, rfl⟩ := List.mem_iff_getElem.1 hy
        rw [List.length_take] at hi
        have := hlt i (by omega)
        rw [List.getElem_take]
        have e3 : l.getD i Ent.none_ = l[i] := by simp [List.getD, show i < l.length by omega]
        rw [e3] at this
        omega
      · refine List.pairwise_append.2 ⟨h2, List.pairwise_singleton _ _, fun x hx y hy => ?_⟩
        obtain ⟨i, hi, rfl⟩ := cpN_sub (by omega) x hx
        rw [List.mem_singleton.1 hy]
        exact hlt i hi
    | false =>
      rw [cpN_no hk]
      refine ⟨h1.old ?_, h2⟩
      cases j with
      | zero => simp [keepAt] at hk
      | succ j =>
        refine ⟨l.getD j Ent.none_, ?_, ?_⟩
        · have hjl : j < l.length := by omega
          have hm : j < (l.take (j + 1)).length := by rw [List.length_take]; omega
          have := List.getElem_mem hm
          rw [List.getElem_take] at this
          simpa [List.getD, hjl] using this
        · unfold keepAt same at hk
          simp at hk
          exact same_turn hk
/-- Put in order, of each key the first alone. -/
theorem cpN_sort {es l : List Ent} (hs : Stab es l) (hl : Le l) : cpN l l.length = sortE es := by
  obtain ⟨h1, h2⟩ := firstOf_cpN hl l.length (Nat.le_refl _)
  rw [List.take_length] at h1
  refine up_ext h2 (sort_up es) fun x => ?_
  rw [h1 x, firstOf_sort _ es rfl x, hs.2 x]
end Go.Proofs.Ytnmmeaoapfampaa

/-
  Chapter 15: plain facts: two lists in order as one.
-/
namespace Go.Proofs.Ytnmmeaoapfampaa
open Go.RowKit

/-- Two lists in order as one; of a key in both that of the first. -/
def joinE : List Ent → List Ent → List Ent
  | [], br => br
  | a :: ar, [] => a :: ar
  | a :: ar, b :: br => if 0 < a.cmp b then b :: joinE (a :: ar) br else if a.cmp b = 0 then a :: joinE ar br else a :: joinE ar (b :: br)
termination_by A B => A.length + B.length
theorem join_nil (A : List Ent) : joinE A [] = A := by
  cases A with
  | nil => rw [joinE]
  | cons a r => rw [joinE]
theorem join_above {a b : Ent} {ar br : List Ent} (h : 0 < a.cmp b) : joinE (a :: ar) (b :: br) = b :: joinE (a :: ar) br := by rw [joinE, if_pos h]
theorem join_alike {a b : Ent} {ar br : List Ent} (h : a.cmp b = 0) : joinE (a :: ar) (b :: br) = a :: joinE ar br := by rw [joinE, if_neg (by omega), if_pos h]
theorem join_below {a b : Ent} {ar br : List Ent} (h : a.cmp b < 0) : joinE (a :: ar) (b :: br) = a :: joinE ar (b :: br) := by rw [joinE, if_neg (by omega), if_neg (by omega)]
theorem join_key : ∀ (n : Nat) (A B : List Ent), A.length + B.length ≤ n → Up A → Up B → Up (joinE A B) ∧ (∀ x, x ∈ joinE A B ↔ x ∈ A ∨ (x ∈ B ∧ ∀ a ∈ A, a.cmp x ≠ 0)) ∧ (joinE A B).length ≤ A.length + B.length
  | 0, A, B, h, _, _ => by
    obtain rfl : A = [] := List.eq_nil_of_length_eq_zero (by omega)
    obtain rfl : B = [] := List.eq_nil_of_length_eq_zero (by omega)
    rw [join_nil]
    exact ⟨List.Pairwise.nil, by simp, by simp⟩
  | n + 1, [], B, h, _, hB => by
    rw [joinE]
    exact ⟨hB, by simp, by simp⟩
  | n + 1, a :: ar, [], h, hA, _ => by
    rw [join_nil]
    exact ⟨hA, by simp, by simp⟩
  | n + 1, a :: ar, b :: br, h, hA, hB => by
    have h1 := List.pairwise_cons.1 hA
    have h2 := List.pairwise_cons.1 hB
    rw [List.length_cons, List.length_cons] at h
    have hb0 := cmp_back a b
    rcases Int.lt_trichotomy (a.cmp b) 0 with hc | hc | hc
    · obtain ⟨i1, i2, i3⟩ := join_key n ar (b :: br) (by rw [List.length_cons]; omega) h1.2 hB
      rw [join_below hc]
      have hab : ∀ x ∈ b :: br, a.cmp x < 0 := by
        intro x hx
        rcases List.mem_cons.1 hx with rfl | hx
        · exact hc
        · exact cmp_lt_le hc (Int.le_of_lt (h2.1 x hx))
      refine ⟨List.pairwise_cons.2 ⟨fun x hx => ?_, i1⟩, fun x => ?_, by rw [List.length_cons, List.length_cons]; omega⟩
      · rcases (i2 x).1 hx with h3 | h3
        · exact h1.1 x h3
        · exact hab x h3.1
      · rw [List.mem_cons, i2 x, List.mem_cons (b := a) (l := ar)]
        constructor
        · rintro (rfl | h3 | ⟨h3, h4⟩)
          · exact .inl (.inl rfl)
          · exact .inl (.inr h3)
          · refine .inr ⟨h3, fun y hy => ?_⟩
            rcases List.mem_cons.1 hy with rfl | hy
            · have := hab x h3; omega
            · exact h4 y hy
        · rintro ((rfl | h3) | ⟨h3, h4⟩)
          · exact .inl rfl
          · exact .inr (.inl h3)
          · exact .inr (.inr ⟨h3, fun y hy => h4 y (List.mem_cons_of_mem _ hy)⟩)
    · obtain ⟨i1, i2, i3⟩ := join_key n ar br (by omega) h1.2 h2.2
      rw [join_alike hc]
      have hab : ∀ x ∈ br, a.cmp x < 0 := fun x hx => cmp_le_lt (Int.le_of_eq hc) (h2.1 x hx)
      refine ⟨List.pairwise_cons.2 ⟨fun x hx => ?_, i1⟩, fun x => ?_, by rw [List.length_cons, List.length_cons, List.length_cons]; omega⟩
      · rcases (i2 x).1 hx with h3 | h3
        · exact h1.1 x h3
        · exact hab x h3.1
      · rw [List.mem_cons, i2 x, List.mem_cons (b := a) (l := ar), List.mem_cons (b := b) (l := br)]
        constructor
        · rintro (rfl | h3 | ⟨h3, h4⟩)
          · exact .inl (.inl rfl)
          · exact .inl (.inr h3)
          · refine .inr ⟨.inr h3, fun y hy => ?_⟩
            rcases List.mem_cons.1 hy with rfl | hy
            · have := hab x h3; omega
            · exact h4 y hy
        · rintro ((rfl | h3) | ⟨rfl | h3, h4⟩)
          · exact .inl rfl
          · exact .inr (.inl h3)
          · exact absurd hc (h4 a (by simp))
          · exact .inr (.inr ⟨h3, fun y hy => h4 y (List.mem_cons_of_mem _ hy)⟩)
    · obtain ⟨i1, i2, i3⟩ := join_key n (a :: ar) br (by rw [List.length_cons]; omega) hA h2.2
      rw [join_above hc]
      have hba : ∀ x ∈ a :: ar, b.cmp x < 0 := by
        intro x hx
        rcases List.mem_cons.1 hx with rfl | hx
        · omega
        · exact cmp_lt_le (by omega) (Int.le_of_lt (h1.1 x hx))
      refine ⟨List.pairwise_cons.2 ⟨fun x hx => ?_, i1⟩, fun x => ?_, by simp only [List.length_cons] at i3 ⊢; omega⟩
      · rcases (i2 x).1 hx with h3 | h3
        · exact hba x h3
        · exact h2.1 x h3.1
      · rw [List.mem_cons, i2 x, List.mem_cons (b := b) (l := br)]
        constructor
        · rintro (rfl | h3 | ⟨h3, h4⟩)
          · refine .inr ⟨.inl rfl, fun y hy => ?_⟩
            have h5 := hba y hy
            have h6 := cmp_back x y
            omega
          · exact .inl h3
          · exact .inr ⟨.inr h3, h4⟩
        · rintro (h3 | ⟨rfl | h3, h4⟩)
          · exact .inr (.inl h3)
          · exact .inl rfl
          · exact .inr (.inr ⟨h3, h4⟩)
theorem join_len {A B : List Ent} (hA : Up A) (hB : Up B) : (joinE A B).length ≤ A.length + B.length := (join_key _ A B (Nat.le_refl _) hA hB).2.2
/-- Many lists as one, by parts. -/
theorem sort_join (X Y : List Ent) : joinE (sortE X) (sortE Y) = sortE (X ++ Y) := by
  obtain ⟨h1, h2, _⟩ := join_key _ (sortE X) (sortE Y) (Nat.le_refl _) (sort_up X) (sort_up Y)
  refine up_ext h1 (sort_up _) fun x => ?_
  rw [h2 x, firstOf_sort _ (X ++ Y) rfl x, firstOf_sort _ X rfl x, firstOf_sort _ Y rfl x, List.filter_append]
  cases hf : X.filter (same x) with
  | nil =>
    constructor
    · rintro (h3 | ⟨h3, _⟩)
      · cases h3
      · simpa using h3
    · intro h3
      refine .inr ⟨by simpa using h3, fun a ha hc => ?_⟩
      have h4 : a ∈ X.filter (same x) := List.mem_filter.2 ⟨sort_sub ha, same_iff.2 (same_turn hc)⟩
      rw [hf] at h4
      cases h4
  | cons z r =>
    constructor
    · rintro (h3 | ⟨_, h4⟩)
      · simpa using h3
      · exfalso
        have h5 : z ∈ X.filter (same x) := by rw [hf]; simp
        obtain ⟨h6, h7⟩ := List.mem_filter.1 h5
        obtain ⟨y, hy, hc⟩ := sort_in h6
        exact h4 y hy (same_turn (cmp_eq_trans (same_turn (same_iff.1 h7)) (same_turn hc)))
    · intro h3
      exact .inl (by simpa using h3)
theorem merge_parts (a b : List (List Ent)) : joinE (mergeE a) (mergeE b) = mergeE (a ++ b) := by
  unfold mergeE
  rw [sort_join, List.flatten_append]
end Go.Proofs.Ytnmmeaoapfampaa

/-
  slices.CompactFunc of entries: the walk.
-/
namespace Go.Proofs.Ytnmmeaoapfampaa
open Go.RowKit

set_option maxRecDepth 100000 in
theorem compact_few (a : Option Addr) (cap n : Nat) (hn : n < 2) (f : Value) (w : World) :
    Calls Try.prog 34 #[.slice a n cap, f] w fun e w' => e = .returned (.slice a n cap) ∧ w' = w := by
  have hz : (n : Int) < 2 := by omega
  go_enter Try.func34, Try.ntmps34
  go_wp2
  go_ret
  exact ⟨rfl, rfl⟩

/-- What stays, and behind it what the row held. -/
def Half (B g cap n : Nat) (w0 : World) (l : List Ent) (j k : Nat) (w : World) : Prop := (cpN l j).length = k ∧ SL B w0 (some ⟨g, 0, none⟩) cap n (cpN l j ++ l.drop k) w
section
variable {B g cap n : Nat} {w0 w : World} {l : List Ent} {j k : Nat}
theorem half_at {i : Nat} (hk : (cpN l j).length = k) (hi : k ≤ i) : (cpN l j ++ l.drop k).getD i Ent.none_ = l.getD i Ent.none_ := by
  rw [getD_right (by omega), hk]
  simp [List.getD, show k + (i - k) = i by omega]
theorem half_set (hk : (cpN l j).length = k) (hl : k < l.length) (x : Ent) : (cpN l j ++ l.drop k).set k x = cpN l j ++ [x] ++ l.drop (k + 1) := by
  rw [List.set_append_right _ _ (by omega), hk, Nat.sub_self, List.drop_eq_getElem_cons hl, List.set_cons_zero]
  simp
theorem Half.end_ (h : Half B g cap n w0 l n k w) (hl : l.length = n) (hk : k < n) (hk0 : 0 < k) :
    (∀ ty c, (Builtin.clear_ #[25] ty #[.slice (some ⟨g, k * 4, none⟩) (n - k) c]).run Try.prog w = .ok (.tuple #[]) (w.setCells g (k * 4) (zeroRow (n - k)))) ∧ SL B w0 (some ⟨g, 0, none⟩) cap k (cpN l n) (w.setCells g (k * 4) (zeroRow (n - k))) := by
  obtain ⟨h1, h2⟩ := h
  exact ⟨fun ty c => h2.zeroed hk c ty, (h2.front h1.symm (by omega)).beyond hk0 (Nat.le_refl _) _⟩
end

set_option maxRecDepth 100000 in
set_option maxHeartbeats 1000000 in
theorem compact_any {B g cap n : Nat} {w0 w : World} {l : List Ent} (h : SL B w0 (some ⟨g, 0, none⟩) cap n (l) w) (h2 : 2 ≤ n) (hn : n ≤ 1000) :
    Calls Try.prog 34 #[.slice (some ⟨g, 0, none⟩) n cap, .func (.func 35) #[] #[]] w fun e w' => ∃ k, 0 < k ∧ k ≤ n ∧ e = .returned (.slice (some ⟨g, 0, none⟩) k cap) ∧ SL B w0 (some ⟨g, 0, none⟩) cap k (cpN l n) w' := by
  have h2z : ¬ (n : Int) < 2 := by omega
  have HL := Lib.hid h.len
  have HS := Lib.hid h
  have HK : Hid (cpN l 1 = l.take 1) := Lib.hid (cpN_take (k := 0) rfl rfl (by rw [h.len]; omega))
  have hncap : n ≤ cap := by
    obtain ⟨_, _, _, _, _, _, hc, _⟩ := h.at_ (i := 0) (by omega)
    exact hc
  clear h
  go_enter Try.func34, Try.ntmps34
  go_wp2
  go_loopg [5] n (fun kx s5 wr => ∃ k : Nat, s5 = .int .i64 k ∧ 1 ≤ k ∧ k ≤ n ∧ n - k ≤ kx ∧ Hid (cpN l k = l.take k) ∧ Hid (SL B w0 (some ⟨g, 0, none⟩) cap n (l) wr))
  case atStart => exact ⟨1, rfl, Nat.le_refl _, by omega, by omega, HK, HS⟩
  case round =>
    clear HK HS
    obtain ⟨k, rfl, hk1, hkn, hkx, HK, HS⟩ := hrel
    by_cases hlt : k < n
    · have hltz : (k : Int) < (n : Int) := by omega
      obtain ⟨p, hp⟩ : ∃ p, p + 1 = k := ⟨k - 1, by omega⟩
      have hpz : (k : Int) - 1 = (p : Int) := by omega
      have rp : IntKind.i64.wrap (p : Int) = (p : Int) := by rw [IntKind.wrap_i64]; omega
      have hpn : (p : Int) < (n : Int) := by omega
      obtain ⟨x, gx⟩ : ∃ x, l.getD k Ent.none_ = x := ⟨_, rfl⟩
      obtain ⟨y, gy⟩ : ∃ y, l.getD p Ent.none_ = y := ⟨_, rfl⟩
      have HKE := Lib.hid (keep_of hp gx gy)
      have hs := HS.out
      have c0 := fun z_ os => ((hs.shift z_ os).cells (i := k) (by omega)).1
      have c1 := fun z_ os => ((hs.shift z_ os).cells (i := k) (by omega)).2.1
      have c2 := fun z_ os => ((hs.shift z_ os).cells (i := k) (by omega)).2.2.1
      have c3 := fun z_ os => ((hs.shift z_ os).cells (i := k) (by omega)).2.2.2
      have d0 := fun z_ os => ((hs.shift z_ os).cells (i := p) (by omega)).1
      have d1 := fun z_ os => ((hs.shift z_ os).cells (i := p) (by omega)).2.1
      have d2 := fun z_ os => ((hs.shift z_ os).cells (i := p) (by omega)).2.2.1
      have d3 := fun z_ os => ((hs.shift z_ os).cells (i := p) (by omega)).2.2.2
      have hc := fun z_ os => hs.alike (i := k) (j := p) (by omega) (by omega) z_ os
      rw [gx] at c0 c1 c2 c3
      rw [gy] at d0 d1 d2 d3
      rw [gx, gy] at hc
      have HC := Lib.hid hc
      clear hc
      clear hs gx gy
      have HP := Lib.hid hp
      have hpk : p < k := by omega
      clear hp
      cases hsm : same x y with
      | false =>
        rw [hsm] at HC
        have HSM := Lib.hid hsm
        clear hsm
        go_wp2_with fail
        refine wp_region_shift (by kernel_rfl) (by kernel_rfl) ?_
        repeat (quiet_step (exact HC.out _ _))
        refine wpQuiet_nil ?_
        intro _ hw'
        obtain ⟨⟨nq, osq⟩, hw''⟩ := hw'
        subst hw''
        have hz := HS.out.shift nq osq
        clear c0 c1 c2 c3 d0 d1 d2 d3 HC
        generalize shiftW wr nq osq = wz at hz ⊢
        have HZ := Lib.hid hz
        clear hz
        go_wp2
        go_roundg (n - (k + 1))
        case measure => omega
        case rel => exact ⟨k + 1, by go_num, by omega, by omega, Nat.le_refl _, Lib.hid (cpN_take HK.out (by rw [HKE.out, HSM.out]; rfl) (by rw [HL.out]; exact hlt)), HZ⟩
      | true =>
        rw [hsm] at HC
        have HH : Hid (keepAt l k = false) := Lib.hid (by rw [HKE.out, hsm]; rfl)
        clear hsm
        go_wp2_with fail
        refine wp_region_shift (by kernel_rfl) (by kernel_rfl) ?_
        repeat (quiet_step (exact HC.out _ _))
        refine wpQuiet_nil ?_
        intro _ hw'
        obtain ⟨⟨nq, osq⟩, hw''⟩ := hw'
        subst hw''
        have hz := HS.out.shift nq osq
        clear c0 c1 c2 c3 d0 d1 d2 d3 HC
        generalize shiftW wr nq osq = wz at hz ⊢
        have HZ := Lib.hid hz
        clear hz
        have HQ : Hid (Half B g cap n w0 l (k + 1) k wz) := Lib.hid ⟨by rw [cpN_no HH.out, HK.out, List.length_take, HL.out]; omega, by rw [cpN_no HH.out, HK.out, List.take_append_drop]; exact HZ.out⟩
        clear HZ HK HS HKE HH
        have hkc : ¬ cap = k := by omega
        obtain ⟨m, hm⟩ : ∃ m, m = n - k := ⟨_, rfl⟩
        have hm1 : 1 ≤ m := by omega
        go_wp2
        rw [← hm]
        have HM := Lib.hid hm
        have hkm : k + m = n := by omega
        clear hm
        go_loopg [5, 7] n (fun kx s5 s7 wr => ∃ k2 j : Nat, s5 = .int .i64 k2 ∧ s7 = .int .i64 j ∧ 1 ≤ k2 ∧ 1 ≤ j ∧ j ≤ m ∧ k2 + 1 ≤ k + j ∧ m - j ≤ kx ∧ Hid (Half B g cap n w0 l (k + j) k2 wr))
        case atStart => exact ⟨k, 1, rfl, rfl, hk1, Nat.le_refl _, hm1, Nat.le_refl _, by omega, HQ⟩
        case round =>
          clear HQ
          obtain ⟨k2, j, rfl, rfl, hk2, hj1, hjm, hkj, hkx2, HQ⟩ := hrel
          by_cases hlj : j < m
          · have hljz : (j : Int) < (m : Int) := by omega
            obtain ⟨u, hu⟩ : ∃ u, u + 1 = j := ⟨j - 1, by omega⟩
            have huz : (j : Int) - 1 = (u : Int) := by omega
            have ru : IntKind.i64.wrap (u : Int) = (u : Int) := by rw [IntKind.wrap_i64]; omega
            have hum : (u : Int) < (m : Int) := by omega
            obtain ⟨hcl, hs⟩ := HQ.out
            obtain ⟨x, gx0⟩ : ∃ x, l.getD (k + j) Ent.none_ = x := ⟨_, rfl⟩
            obtain ⟨y, gy0⟩ : ∃ y, l.getD (k + u) Ent.none_ = y := ⟨_, rfl⟩
            have gx : (cpN l (k + j) ++ l.drop k2).getD (k + j) Ent.none_ = x := by rw [half_at hcl (by omega)]; exact gx0
            have gy : (cpN l (k + j) ++ l.drop k2).getD (k + u) Ent.none_ = y := by rw [half_at hcl (by omega)]; exact gy0
            have HKE := Lib.hid (keep_of (j := k + j) (u := k + u) (by omega) gx0 gy0)
            have HX := Lib.hid gx0
            have ax : (k + j) * 4 = k * 4 + j * 4 := by omega
            have ay : (k + u) * 4 = k * 4 + u * 4 := by omega
            have c0 := fun z_ os => ((hs.shift z_ os).cells (i := k + j) (by omega)).1
            have c1 := fun z_ os => ((hs.shift z_ os).cells (i := k + j) (by omega)).2.1
            have c2 := fun z_ os => ((hs.shift z_ os).cells (i := k + j) (by omega)).2.2.1
            have c3 := fun z_ os => ((hs.shift z_ os).cells (i := k + j) (by omega)).2.2.2
            have d0 := fun z_ os => ((hs.shift z_ os).cells (i := k + u) (by omega)).1
            have d1 := fun z_ os => ((hs.shift z_ os).cells (i := k + u) (by omega)).2.1
            have d2 := fun z_ os => ((hs.shift z_ os).cells (i := k + u) (by omega)).2.2.1
            have d3 := fun z_ os => ((hs.shift z_ os).cells (i := k + u) (by omega)).2.2.2
            have hc := fun z_ os => hs.alike (i := k + j) (j := k + u) (by omega) (by omega) z_ os
            rw [gx] at c0 c1 c2 c3
            rw [gy] at d0 d1 d2 d3
            rw [gx, gy] at hc
            have HC := Lib.hid hc
            clear hc
            rw [ax] at c0 c1 c2 c3
            rw [ay] at d0 d1 d2 d3
            have HSL := Lib.hid hs
            have HCL := Lib.hid hcl
            have HU := Lib.hid hu
            clear hs hcl gx gy gx0 gy0 ax ay hu HQ
            cases hsm : same x y with
            | true =>
              rw [hsm] at HC
              have HSM := Lib.hid hsm
              clear hsm
              go_wp2_with fail
              refine wp_region_shift (by kernel_rfl) (by kernel_rfl) ?_
              repeat (quiet_step (exact HC.out _ _))
              refine wpQuiet_nil ?_
              intro _ hw'
              obtain ⟨⟨nq, osq⟩, hw''⟩ := hw'
              subst hw''
              have hz := HSL.out.shift nq osq
              clear c0 c1 c2 c3 d0 d1 d2 d3 HC
              generalize shiftW wr nq osq = wz at hz ⊢
              have HZ := Lib.hid hz
              clear hz
              go_wp2
              go_roundg (m - (j + 1))
              case measure => omega
              case rel => exact ⟨k2, j + 1, rfl, by go_num, hk2, by omega, by omega, by omega, Nat.le_refl _, Lib.hid ⟨by rw [← Nat.add_assoc, cpN_no (by rw [HKE.out, HSM.out]; rfl)]; exact HCL.out, by rw [← Nat.add_assoc, cpN_no (by rw [HKE.out, HSM.out]; rfl)]; exact HZ.out⟩⟩
            | false =>
              rw [hsm] at HC
              have HSM := Lib.hid hsm
              clear hsm
              go_wp2_with fail
              refine wp_region_shift (by kernel_rfl) (by kernel_rfl) ?_
              repeat (quiet_step (exact HC.out _ _))
              refine wpQuiet_nil ?_
              intro _ hw'
              obtain ⟨⟨nq, osq⟩, hw''⟩ := hw'
              subst hw''
              have hz := HSL.out.shift nq osq
              clear c0 c1 c2 c3 d0 d1 d2 d3 HC
              generalize shiftW wr nq osq = wz at hz ⊢
              have HZ := Lib.hid hz
              clear hz
              have hz := HZ.out
              have gx : (cpN l (k + j) ++ l.drop k2).getD (k + j) Ent.none_ = x := by rw [half_at HCL.out (by omega)]; exact HX.out
              obtain ⟨c0, c1, c2, c3⟩ := hz.cells (i := k + j) (by omega)
              obtain ⟨d0, d1, d2, d3⟩ := hz.cells (i := k2) (by omega)
              rw [gx, show (k + j) * 4 = k * 4 + j * 4 by omega] at c0 c1 c2 c3
              have fz : ∀ o, wz.frozen? ⟨g, o, none⟩ = false := fun o => hz.free o (i := k2) (by omega)
              have hxf : x.fits := by rw [← gx]; exact hz.fit (by omega)
              have S2 := hz.set4 (i := k2) (by omega) hxf
              rw [half_set HCL.out (by rw [HL.out]; omega)] at S2
              have HSW := Lib.hid S2
              have hk2n : (k2 : Int) < (n : Int) := by omega
              clear S2 hz gx hxf
              go_wp2
              go_roundg (m - (j + 1))
              case measure => omega
              case rel => exact ⟨k2 + 1, j + 1, by go_num, by go_num, by omega, by omega, by omega, by omega, Nat.le_refl _, Lib.hid ⟨by rw [← Nat.add_assoc, cpN_yes (by rw [HKE.out, HSM.out]; rfl), List.length_append, List.length_singleton, HCL.out], by rw [← Nat.add_assoc, cpN_yes (by rw [HKE.out, HSM.out]; rfl), HX.out]; exact HSW.out⟩⟩
          · have hljz : ¬ (j : Int) < (m : Int) := by omega
            obtain rfl : j = m := by omega
            have hq := HQ.out
            rw [hkm] at hq
            obtain ⟨hcl, hfin⟩ := hq.end_ HL.out (by omega) hk2
            have HFIN := Lib.hid hfin
            have hk2c : ¬ cap = k2 := by omega
            have hk2n : k2 < n := by omega
            clear hq hfin HQ
            go_wp2
            go_ret
            exact ⟨k2, by omega, by omega, rfl, HFIN.out⟩
    · have hltz : ¬ (k : Int) < (n : Int) := by omega
      obtain rfl : k = n := by omega
      have HE : Hid (cpN l k = l) := Lib.hid (by rw [HK.out, ← HL.out, List.take_length])
      go_wp2
      go_ret
      exact ⟨k, by omega, Nat.le_refl _, rfl, by rw [HE.out]; exact HS.out⟩
end Go.Proofs.Ytnmmeaoapfampaa

/-
  Package merge: one list in order, each key once.
-/
namespace Go.Proofs.Ytnmmeaoapfampaa
open Go.RowKit

set_option maxRecDepth 100000 in
theorem inOrder_any (v : Value) (es : List Ent) (w : World) (hv : RdE w v es) (hn : es.length ≤ 1000) : Calls Try.prog 21 #[v] w fun e w' => ∃ x, e = .returned x ∧ OwnE w' w.heap.size x (sortE es) ∧ Below w.heap.size w w' := by
  have HCL := Lib.hid (clone_entries w v es hv hn)
  have HFI := Lib.hid hv.2
  clear hv
  have HCALL : Hid (∀ (w1 : World) (v1 : Value), OwnE w1 w.heap.size v1 es → Below w.heap.size w w1 → Calls Try.prog 31 #[v1, .func (.func 32) #[] #[]] w1 fun e w' => e = .returned (.tuple #[]) ∧ Below w.heap.size w w' ∧
      Calls Try.prog 34 #[v1, .func (.func 35) #[] #[]] w' fun e w'' => ∃ a cap n, e = .returned (.slice a n cap) ∧ (sortE es).length = n ∧ OwnE w'' w.heap.size (.slice a n cap) (sortE es) ∧ Below w.heap.size w w'') := Lib.hid fun w1 v1 ho hb => by
    obtain ⟨a, cap, rfl, _, _⟩ := ho.form
    rcases Nat.eq_zero_or_pos es.length with h0 | h0
    · obtain rfl : es = [] := List.eq_nil_of_length_eq_zero h0
      refine (sortStable_none a cap _ w1).mono ?_
      rintro e w' ⟨rfl, rfl⟩
      refine ⟨rfl, hb, (compact_few a cap 0 (by omega) _ w').mono ?_⟩
      rintro e w'' ⟨rfl, rfl⟩
      exact ⟨a, cap, 0, rfl, rfl, ho, hb⟩
    · have hs : SL w.heap.size w a cap es.length es w1 := ⟨rfl, hb, hb.size, ho, HFI.out⟩
      obtain ⟨g, rfl, _⟩ := hs.at_ h0
      refine (sortStable_any hs hn).mono ?_
      rintro e w' ⟨rfl, l', hle, hst, hs2⟩
      have hcp := cpN_sort hst hle
      rw [hs2.len] at hcp
      refine ⟨rfl, hs2.below, ?_⟩
      by_cases h2 : es.length < 2
      · refine (compact_few _ cap es.length h2 _ w').mono ?_
        rintro e w'' ⟨rfl, rfl⟩
        have h1 : l' = sortE es := by
          have h3 := hs2.len
          have h4 : es.length = 1 := by omega
          obtain ⟨x, rfl⟩ := List.length_eq_one_iff.1 (h3.trans h4)
          rw [h4] at hcp
          rw [← hcp]
          rfl
        rw [h1] at hs2
        exact ⟨_, cap, es.length, rfl, hs2.len, hs2.own, hs2.below⟩
      · refine (compact_any hs2 (by omega) hn).mono ?_
        rintro e w'' ⟨k, _, _, rfl, h5⟩
        rw [hcp] at h5
        exact ⟨_, cap, k, rfl, h5.len, h5.own, h5.below⟩
  clear hn
  go_enter Try.func21, Try.ntmps21
  go_wp2_with (first | (go_at_call 30; (refine HCL.out.mono ?_); rintro e w1 ⟨v1, rfl, ho1, hb1⟩; have HC1 := Lib.hid (HCALL.out w1 v1 ho1 hb1); clear ho1 hb1) | (go_at_call 31; (refine HC1.out.mono ?_); rintro e w2 ⟨rfl, hb2, hc2⟩; have HC2 := Lib.hid hc2; clear hb2 hc2) | (go_at_call 34; (refine HC2.out.mono ?_); rintro e w3 ⟨a3, cap3, n3, rfl, hn3, ho3, hb3⟩; have HX3 := Lib.hid ho3; have HB3 := Lib.hid hb3; clear hn3 ho3 hb3))
  go_ret
  exact ⟨_, rfl, HX3.out, HB3.out⟩
end Go.Proofs.Ytnmmeaoapfampaa
