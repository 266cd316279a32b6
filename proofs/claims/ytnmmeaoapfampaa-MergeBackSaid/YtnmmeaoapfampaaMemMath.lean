/-
  A list with towers: which node comes behind which, what is told of it; plain facts, nothing of the program.
-/
import Derived.Test.YtnmmeaoapfampaaEnt
namespace Go.Proofs.Ytnmmeaoapfampaa

/-! ### Entries in order. -/
theorem cmp_trans {a b c : Ent} (h1 : a.cmp b < 0) (h2 : b.cmp c < 0) : a.cmp c < 0 := by
  have := cmpK_three a.u.data.toList a.s a.k b.u.data.toList b.s b.k c.u.data.toList c.s c.k
  have s1 := cmpK_sgn a.u.data.toList a.s a.k b.u.data.toList b.s b.k
  have s2 := cmpK_sgn b.u.data.toList b.s b.k c.u.data.toList c.s c.k
  unfold Ent.cmp at *
  unfold Three Sgn at *
  omega
theorem cmp_back (a b : Ent) : b.cmp a = -a.cmp b := cmpK_turn _ _ _ _ _ _
theorem cmp_self (a : Ent) : a.cmp a = 0 := (cmpK_zero _ _ _ _ _ _).2 ⟨rfl, rfl, rfl⟩
theorem cmp_zero (a b : Ent) : a.cmp b = 0 ↔ a.u = b.u ∧ a.s = b.s ∧ a.k = b.k := by
  unfold Ent.cmp
  rw [cmpK_zero]
  constructor
  · rintro ⟨h1, h2, h3⟩; exact ⟨ByteArray.ext (Array.toList_inj.1 h1), h2, h3⟩
  · rintro ⟨h1, h2, h3⟩; exact ⟨by rw [h1], h2, h3⟩

/-- Each above the one ahead. -/
def Up (l : List Ent) : Prop := l.Pairwise fun a b => a.cmp b < 0
def lowE (k : Ent) (l : List Ent) : List Ent := l.takeWhile fun x => decide (x.cmp k < 0)
def highE (k : Ent) (l : List Ent) : List Ent := l.dropWhile fun x => decide (x.cmp k < 0)
/-- Is the key there? -/
def isIn (e : Ent) (l : List Ent) : Bool := match highE e l with | [] => false | x :: _ => decide (x.cmp e = 0)
/-- Is it taken up? -/
def addB (e : Ent) (l : List Ent) : Bool := e.may && !isIn e l
def insE (e : Ent) (l : List Ent) : List Ent := lowE e l ++ e :: highE e l
def addL (e : Ent) (l : List Ent) : List Ent := bif addB e l then insE e l else l
def sizeE (e : Ent) : Nat := e.u.size + e.v.size
def sizeL (l : List Ent) : Nat := (l.map sizeE).sum
/-- The newest one of a user up to a number. -/
def newest (l : List Ent) (u : ByteArray) (s : Int) : Option Ent := l.find? fun x => decide (x.u = u ∧ x.s ≤ s)

theorem low_high (k : Ent) (l : List Ent) : lowE k l ++ highE k l = l := List.takeWhile_append_dropWhile
theorem low_lt {k : Ent} : ∀ {l : List Ent} {x : Ent}, x ∈ lowE k l → x.cmp k < 0
  | [], _, h => by simp [lowE] at h
  | a :: r, x, h => by
    unfold lowE at h
    rw [List.takeWhile_cons] at h
    split at h
    · rename_i ha
      rcases List.mem_cons.1 h with rfl | h
      · simpa using ha
      · exact low_lt h
    · simp at h
theorem high_ge {k : Ent} : ∀ {l : List Ent}, Up l → ∀ {x : Ent}, x ∈ highE k l → ¬ x.cmp k < 0
  | [], _, _, h => by simp [highE] at h
  | a :: r, hu, x, h => by
    unfold highE at h
    rw [List.dropWhile_cons] at h
    have hu' := List.pairwise_cons.1 hu
    split at h
    · exact high_ge hu'.2 h
    · rename_i ha
      have ha' : ¬ a.cmp k < 0 := by simpa using ha
      rcases List.mem_cons.1 h with rfl | h
      · exact ha'
      · intro hx
        exact ha' (cmp_trans (hu'.1 x h) hx)

theorem isIn_mem {e : Ent} {l : List Ent} (hu : Up l) : isIn e l = true ↔ ∃ x ∈ l, x.cmp e = 0 := by
  have hlh := low_high e l
  constructor
  · intro h
    unfold isIn at h
    split at h
    · cases h
    · rename_i x r hx
      refine ⟨x, ?_, by simpa using h⟩
      rw [← hlh, hx]; simp
  · rintro ⟨x, hx, h0⟩
    rw [← hlh] at hx
    rcases List.mem_append.1 hx with hx | hx
    · have := low_lt hx; omega
    · unfold isIn
      split
      · rename_i hn; rw [hn] at hx; cases hx
      · rename_i y r hy
        rw [hy] at hx
        rcases List.mem_cons.1 hx with rfl | hx
        · simpa using h0
        · exfalso
          have hu2 : Up (y :: r) := by
            rw [← hy]
            exact List.Pairwise.sublist (List.dropWhile_sublist _) hu
          have h1 := (List.pairwise_cons.1 hu2).1 x hx
          have h2 : ¬ y.cmp e < 0 := high_ge hu (by rw [hy]; simp)
          have h3 := cmp_back x e
          have h4 := cmpK_three y.u.data.toList y.s y.k x.u.data.toList x.s x.k e.u.data.toList e.s e.k
          unfold Three at h4
          unfold Ent.cmp at *
          omega

theorem ins_up {e : Ent} {l : List Ent} (hu : Up l) (hn : isIn e l = false) : Up (insE e l) := by
  have hlh := low_high e l
  have hno : ∀ x ∈ l, x.cmp e ≠ 0 := fun x hx h0 => by
    have := (isIn_mem (e := e) hu).2 ⟨x, hx, h0⟩
    rw [hn] at this; cases this
  have hu' : Up (lowE e l ++ highE e l) := by rw [hlh]; exact hu
  have hp := List.pairwise_append.1 hu'
  refine List.pairwise_append.2 ⟨hp.1, List.pairwise_cons.2 ⟨fun x hx => ?_, hp.2.1⟩, fun a ha b hb => ?_⟩
  · have h1 := high_ge hu hx
    have h2 := hno x (by rw [← hlh]; simp [hx])
    rw [cmp_back x e]; omega
  · rcases List.mem_cons.1 hb with rfl | hb
    · exact low_lt ha
    · exact hp.2.2 a ha b hb

theorem ins_mem {e x : Ent} {l : List Ent} : x ∈ insE e l ↔ x = e ∨ x ∈ l := by
  have hlh := low_high e l
  unfold insE
  constructor
  · intro h
    rcases List.mem_append.1 h with h | h
    · exact .inr (by rw [← hlh]; simp [h])
    · rcases List.mem_cons.1 h with h | h
      · exact .inl h
      · exact .inr (by rw [← hlh]; simp [h])
  · rintro (rfl | h)
    · simp
    · rw [← hlh] at h
      rcases List.mem_append.1 h with h | h
      · simp [h]
      · simp [h]

theorem ins_len (e : Ent) (l : List Ent) : (insE e l).length = l.length + 1 := by
  have := congrArg List.length (low_high e l)
  unfold insE
  rw [List.length_append] at this
  rw [List.length_append, List.length_cons]
  omega
theorem sizeL_app (a b : List Ent) : sizeL (a ++ b) = sizeL a + sizeL b := by unfold sizeL; rw [List.map_append, List.sum_append]
theorem ins_size (e : Ent) (l : List Ent) : sizeL (insE e l) = sizeL l + sizeE e := by
  have h := congrArg sizeL (low_high e l)
  unfold insE
  rw [sizeL_app] at h
  rw [sizeL_app, ← h]
  simp only [sizeL, List.map_cons, List.sum_cons]
  omega

theorem addL_up {e : Ent} {l : List Ent} (hu : Up l) : Up (addL e l) := by
  unfold addL
  cases h : addB e l with
  | false => exact hu
  | true =>
    unfold addB at h
    simp only [Bool.and_eq_true, Bool.not_eq_true'] at h
    exact ins_up hu h.2
theorem addL_len (e : Ent) (l : List Ent) : (addL e l).length ≤ l.length + 1 := by
  unfold addL
  cases addB e l with
  | false => exact Nat.le_succ _
  | true => exact Nat.le_of_eq (ins_len e l)
theorem addL_may {e : Ent} {l : List Ent} (hm : ∀ x ∈ l, x.may = true) : ∀ x ∈ addL e l, x.may = true := by
  intro x hx
  unfold addL at hx
  cases h : addB e l with
  | false => rw [h] at hx; exact hm x hx
  | true =>
    rw [h] at hx
    rcases ins_mem.1 (show x ∈ insE e l from hx) with rfl | hx
    · unfold addB at h
      simp only [Bool.and_eq_true] at h
      exact h.1
    · exact hm x hx
theorem addL_sub {e : Ent} {l : List Ent} : ∀ x ∈ addL e l, x = e ∨ x ∈ l := by
  intro x hx
  unfold addL at hx
  cases h : addB e l with
  | false => rw [h] at hx; exact .inr hx
  | true => rw [h] at hx; exact ins_mem.1 (show x ∈ insE e l from hx)

theorem may_kind {e : Ent} (h : e.may = true) : (e.k = 1 ∨ e.k = 2) ∧ e.u.size ≤ 64 ∧ e.v.size ≤ 512 := by
  have h1 := str_len e.u
  have h2 := str_len e.v
  unfold Ent.may mayE mayB at h
  simp only [Bool.and_eq_true, Bool.or_eq_true, beq_iff_eq, decide_eq_true_eq] at h
  rw [h1, h2] at h
  omega

theorem may_size {l : List Ent} (h : ∀ x ∈ l, x.may = true) : sizeL l ≤ 576 * l.length := by
  induction l with
  | nil => simp [sizeL]
  | cons a r ih =>
    have h1 := may_kind (h a (by simp))
    have h2 := ih fun x hx => h x (by simp [hx])
    unfold sizeL at *
    rw [List.map_cons, List.sum_cons, List.length_cons]
    have h3 : sizeE a = a.u.size + a.v.size := rfl
    omega

theorem Ent.may_fits {e : Ent} (h : e.may = true) : e.fits := by
  have h1 := str_len e.u
  have h2 := str_len e.v
  unfold Ent.may mayE mayB at h
  simp only [Bool.and_eq_true, Bool.or_eq_true, beq_iff_eq, decide_eq_true_eq] at h
  rw [h1, h2] at h
  refine ⟨by unfold maxLen; omega, by unfold maxLen; omega, ?_, ?_⟩
  · simp only [Lit.wf, IntKind.min, IntKind.max, IntKind.signed, IntKind.bits]; simp; omega
  · simp only [Lit.wf, IntKind.min, IntKind.max, IntKind.signed, IntKind.bits]; simp; omega

/-- What is newest is the first that is not below the number's Del. -/
theorem newest_high {u : ByteArray} {s : Int} : ∀ {l : List Ent}, Up l → (∀ x ∈ l, x.k ≤ 2) → newest l u s = (match highE ⟨u, s, 2, ⟨#[]⟩⟩ l with | [] => none | x :: _ => if x.u = u then some x else none)
  | [], _, _ => rfl
  | x :: r, hu, hk => by
    have hu' := List.pairwise_cons.1 hu
    have ih := newest_high hu'.2 (fun y hy => hk y (by simp [hy])) (u := u) (s := s)
    have hkx := hk x (by simp)
    unfold newest at ih ⊢
    unfold highE at ih ⊢
    rw [List.find?_cons, List.dropWhile_cons]
    by_cases hc : x.cmp ⟨u, s, 2, ⟨#[]⟩⟩ < 0
    · rw [if_pos (by simpa using hc)]
      have : decide (x.u = u ∧ x.s ≤ s) = false := by
        rw [decide_eq_false_iff_not]
        rintro ⟨rfl, h2⟩
        unfold Ent.cmp cmpK at hc
        rw [(cmpL_zero _ _).2 rfl] at hc
        unfold lex cmpZ at hc
        simp only [if_true] at hc
        split at hc <;> (try split at hc) <;> (try split at hc) <;> (try split at hc) <;> omega
      rw [this]
      exact ih
    · rw [if_neg (by simpa using hc)]
      by_cases hxu : x.u = u
      · have h2 : x.s ≤ s := by
          refine Classical.byContradiction fun hn => hc ?_
          subst hxu
          unfold Ent.cmp cmpK
          rw [(cmpL_zero _ _).2 rfl]
          have : cmpZ s x.s = -1 := by unfold cmpZ; rw [if_pos (by omega)]
          unfold lex
          rw [if_pos rfl, this, if_neg (by omega)]
          omega
        have : decide (x.u = u ∧ x.s ≤ s) = true := by rw [decide_eq_true_eq]; exact ⟨hxu, h2⟩
        rw [this]
        simp [hxu]
      · have : decide (x.u = u ∧ x.s ≤ s) = false := by
          rw [decide_eq_false_iff_not]; exact fun h => hxu h.1
        rw [this]
        simp only [if_neg hxu]
        rw [List.find?_eq_none]
        intro y hy hyu
        simp only [decide_eq_true_eq] at hyu
        have hxy := hu'.1 y hy
        have e1 : cmpL x.u.data.toList u.data.toList = 1 := by
          have h0 := cmpL_sgn x.u.data.toList u.data.toList
          have h1 : cmpL x.u.data.toList u.data.toList ≠ 0 := fun h => hxu (ByteArray.ext (Array.toList_inj.1 ((cmpL_zero _ _).1 h)))
          have h2 : cmpL x.u.data.toList u.data.toList ≠ -1 := fun h => hc (by unfold Ent.cmp cmpK lex; rw [h, if_neg (by omega)]; omega)
          unfold Sgn at h0
          omega
        unfold Ent.cmp cmpK lex at hxy
        rw [hyu.1, e1, if_neg (by omega)] at hxy
        omega

/-! ### The links. -/
/-- A list with towers: 'lk a h': the node behind node 'a' at height 'h' (0: ahead of all, and none); 'ht a': how tall node 'a' is; the entries as they came; the nodes in order. -/
structure MS where
  lk : Nat → Nat → Nat
  ht : Nat → Nat
  es : List Ent
  ord : List Nat
  sz : Nat

def MS.ent (m : MS) (a : Nat) : Ent := m.es.getD (a - 1) Ent.none_
def tallF (ht : Nat → Nat) (h : Nat) (l : List Nat) : List Nat := l.filter fun a => decide (h < ht a)
def MS.all (m : MS) : List Ent := m.ord.map m.ent
def MS.new : MS := ⟨fun _ _ => 0, fun _ => 0, [], [], 0⟩
def MS.low (m : MS) (k : Ent) : List Nat := m.ord.takeWhile fun a => decide ((m.ent a).cmp k < 0)
def MS.high (m : MS) (k : Ent) : List Nat := m.ord.dropWhile fun a => decide ((m.ent a).cmp k < 0)
/-- The last node at a height whose key is ahead. -/
def MS.path (m : MS) (k : Ent) (h : Nat) : Nat := (tallF m.ht h (m.low k)).getLastD 0

structure MS.Ok (m : MS) : Prop where
  chain : ∀ h, h < 12 → (0 :: tallF m.ht h m.ord).map (fun a => m.lk a h) = tallF m.ht h m.ord ++ [0]
  mem : ∀ a ∈ m.ord, 1 ≤ a ∧ a ≤ m.es.length
  ht : ∀ a, 1 ≤ a → a ≤ m.es.length → 1 ≤ m.ht a ∧ m.ht a ≤ 12
  len : m.ord.length = m.es.length
  up : Up m.all
  may : ∀ e ∈ m.es, e.may = true
  none : ∀ a, m.es.length < a → ∀ h, m.lk a h = 0
  size : m.sz = sizeL m.all

theorem MS.new_ok : MS.new.Ok where
  chain h _ := rfl
  mem a h := by cases h
  ht a h1 h2 := by simp [MS.new] at h2; omega
  len := rfl
  up := List.Pairwise.nil
  may e h := by cases h
  none _ _ _ := rfl
  size := rfl

section
variable {m : MS}

theorem MS.low_high (m : MS) (k : Ent) : m.low k ++ m.high k = m.ord := List.takeWhile_append_dropWhile
theorem MS.map_low (m : MS) (k : Ent) : (m.low k).map m.ent = lowE k m.all := by
  unfold MS.low lowE MS.all
  rw [List.takeWhile_map]; rfl
theorem MS.map_high (m : MS) (k : Ent) : (m.high k).map m.ent = highE k m.all := by
  unfold MS.high highE MS.all
  rw [List.dropWhile_map]; rfl

theorem MS.Ok.nodup (h : m.Ok) : m.ord.Nodup := by
  have := h.up
  unfold Up MS.all at this
  rw [List.pairwise_map] at this
  exact this.imp fun {a b} hab e => by subst e; rw [cmp_self] at hab; omega

theorem MS.Ok.all_may (h : m.Ok) : ∀ e ∈ m.all, e.may = true := by
  intro e he
  obtain ⟨a, ha, rfl⟩ := List.mem_map.1 he
  have := h.mem a ha
  refine h.may _ ?_
  unfold MS.ent
  simp only [List.getD]
  rw [List.getElem?_eq_getElem (by omega)]
  exact List.getElem_mem _

theorem MS.Ok.ent_fits (h : m.Ok) {a : Nat} (h1 : 1 ≤ a) (h2 : a ≤ m.es.length) : (m.ent a).fits := by
  refine Ent.may_fits (h.may _ ?_)
  unfold MS.ent
  simp only [List.getD]
  rw [List.getElem?_eq_getElem (by omega)]
  exact List.getElem_mem _

theorem MS.low_lt {k : Ent} {a : Nat} (ha : a ∈ m.low k) : (m.ent a).cmp k < 0 :=
  Go.Proofs.Ytnmmeaoapfampaa.low_lt (l := m.all) (by rw [← MS.map_low]; exact List.mem_map_of_mem ha)
theorem MS.Ok.high_ge (h : m.Ok) {k : Ent} {a : Nat} (ha : a ∈ m.high k) : ¬ (m.ent a).cmp k < 0 :=
  Go.Proofs.Ytnmmeaoapfampaa.high_ge h.up (by rw [← MS.map_high]; exact List.mem_map_of_mem ha)

/-- The chain at a height: what is ahead of a key, what is not. -/
def MS.lowAt (m : MS) (k : Ent) (h : Nat) : List Nat := tallF m.ht h (m.low k)
def MS.highAt (m : MS) (k : Ent) (h : Nat) : List Nat := tallF m.ht h (m.high k)
/-- The 'i'-th node at a height, from that ahead of all on; behind the last: 0. -/
def MS.nth (m : MS) (k : Ent) (h i : Nat) : Nat := (0 :: (m.lowAt k h ++ m.highAt k h)).getD i 0

theorem MS.parts (m : MS) (k : Ent) (h : Nat) : tallF m.ht h m.ord = m.lowAt k h ++ m.highAt k h := by
  unfold MS.lowAt MS.highAt tallF
  rw [← List.filter_append, MS.low_high]

theorem MS.Ok.link (hm : m.Ok) (k : Ent) {h i : Nat} (hh : h < 12) (hi : i ≤ (m.lowAt k h ++ m.highAt k h).length) : m.lk (m.nth k h i) h = m.nth k h (i + 1) := by
  have hc := hm.chain h hh
  rw [MS.parts m k h] at hc
  unfold MS.nth
  generalize m.lowAt k h ++ m.highAt k h = c at *
  have h1 := congrArg (fun l => l[i]?) hc
  simp only [List.getElem?_map] at h1
  rw [List.getElem?_eq_getElem (by simp; omega)] at h1
  simp only [Option.map_some] at h1
  have h2 : (0 :: c).getD i 0 = (0 :: c)[i]'(by simp; omega) := by simp only [List.getD]; rw [List.getElem?_eq_getElem (by simp; omega)]; rfl
  rw [h2]
  simp only [List.getD, List.getElem?_cons_succ]
  rcases Nat.lt_or_ge i c.length with h3 | h3
  · rw [List.getElem?_append_left h3] at h1
    rw [← h1]; rfl
  · have : i = c.length := by omega
    subst this
    rw [List.getElem?_append_right (Nat.le_refl _)] at h1
    simp at h1
    simp [h1]

/-- A node of a chain is a node. -/
theorem MS.Ok.nth_at (hm : m.Ok) (k : Ent) {h i : Nat} (hi : i < (m.lowAt k h ++ m.highAt k h).length) : 1 ≤ m.nth k h (i + 1) ∧ m.nth k h (i + 1) ≤ m.es.length ∧ h < m.ht (m.nth k h (i + 1)) ∧ m.nth k h (i + 1) ∈ m.ord := by
  have h1 : m.nth k h (i + 1) ∈ tallF m.ht h m.ord := by
    rw [MS.parts m k h]
    unfold MS.nth
    simp only [List.getD, List.getElem?_cons_succ]
    rw [List.getElem?_eq_getElem hi]
    exact List.getElem_mem _
  unfold tallF at h1
  rw [List.mem_filter] at h1
  have h2 := hm.mem _ h1.1
  exact ⟨h2.1, h2.2, by simpa using h1.2, h1.1⟩

theorem MS.nth_end (m : MS) (k : Ent) (h i : Nat) (hi : (m.lowAt k h ++ m.highAt k h).length ≤ i) : m.nth k h (i + 1) = 0 := by
  unfold MS.nth
  simp only [List.getD, List.getElem?_cons_succ]
  rw [List.getElem?_eq_none (by omega)]; rfl
theorem MS.nth_zero (m : MS) (k : Ent) (h : Nat) : m.nth k h 0 = 0 := rfl

theorem MS.nth_low {k : Ent} {h i : Nat} (hi : i < (m.lowAt k h).length) : (m.ent (m.nth k h (i + 1))).cmp k < 0 := by
  have h1 : m.nth k h (i + 1) ∈ m.lowAt k h := by
    unfold MS.nth
    simp only [List.getD, List.getElem?_cons_succ]
    rw [List.getElem?_append_left hi, List.getElem?_eq_getElem hi]
    exact List.getElem_mem _
  exact MS.low_lt (List.mem_filter.1 h1).1

theorem MS.Ok.nth_high (hm : m.Ok) {k : Ent} {h i : Nat} (h0 : (m.lowAt k h).length ≤ i) (hi : i < (m.lowAt k h ++ m.highAt k h).length) : ¬ (m.ent (m.nth k h (i + 1))).cmp k < 0 := by
  have h1 : m.nth k h (i + 1) ∈ m.highAt k h := by
    unfold MS.nth
    simp only [List.getD, List.getElem?_cons_succ]
    rw [List.getElem?_append_right h0, List.getElem?_eq_getElem (by rw [List.length_append] at hi; omega)]
    exact List.getElem_mem _
  exact hm.high_ge (List.mem_filter.1 h1).1

theorem nil_or_snoc (x : List Nat) : x = [] ∨ ∃ y a, x = y ++ [a] := by
  rcases List.eq_nil_or_concat x with h | ⟨y, a, h⟩
  · exact .inl h
  · exact .inr ⟨y, a, by rw [h, List.concat_eq_append]⟩

theorem getLastD_nth (x y : List Nat) : x.getLastD 0 = (0 :: (x ++ y)).getD x.length 0 := by
  rcases nil_or_snoc x with rfl | ⟨x, a, rfl⟩
  · rfl
  · rw [List.getLastD_concat]
    simp [List.getD]

theorem MS.Ok.idx (hm : m.Ok) (k : Ent) (h : Nat) {i : Nat} (hi : i ≤ (m.lowAt k h ++ m.highAt k h).length) : (0 :: (m.lowAt k h ++ m.highAt k h)).idxOf (m.nth k h i) = i := by
  have hnod : (0 :: (m.lowAt k h ++ m.highAt k h)).Nodup := by
    rw [← MS.parts, List.nodup_cons]
    refine ⟨fun h0 => ?_, List.Pairwise.filter _ hm.nodup⟩
    have := hm.mem 0 (List.mem_filter.1 h0).1
    omega
  have : m.nth k h i = (0 :: (m.lowAt k h ++ m.highAt k h))[i]'(by simp only [List.length_cons]; omega) := by
    unfold MS.nth
    simp only [List.getD]
    rw [List.getElem?_eq_getElem (by simp only [List.length_cons]; omega)]; rfl
  rw [this]
  exact List.Nodup.idxOf_getElem hnod i (by simp only [List.length_cons]; omega)

theorem MS.path_nth (m : MS) (k : Ent) (h : Nat) : m.path k h = m.nth k h (m.lowAt k h).length := getLastD_nth _ _

/-- From a height down to the next. -/
theorem MS.down (m : MS) (k : Ent) (h : Nat) : ∃ i, i ≤ (m.lowAt k h).length ∧ m.path k (h + 1) = m.nth k h i := by
  have hs : ∀ a ∈ m.lowAt k (h + 1), a ∈ m.lowAt k h := by
    intro a ha
    unfold MS.lowAt tallF at *
    rw [List.mem_filter] at *
    exact ⟨ha.1, by have := ha.2; simp at this ⊢; omega⟩
  have hp : m.path k (h + 1) = 0 ∨ m.path k (h + 1) ∈ m.lowAt k (h + 1) := by
    show (m.lowAt k (h + 1)).getLastD 0 = 0 ∨ (m.lowAt k (h + 1)).getLastD 0 ∈ _
    rcases nil_or_snoc (m.lowAt k (h + 1)) with hl | ⟨x, a, hl⟩
    · rw [hl]; exact .inl rfl
    · rw [hl]; right; rw [List.getLastD_concat]; simp
  rcases hp with hp | hp
  · exact ⟨0, Nat.zero_le _, hp⟩
  · obtain ⟨j, hj, he⟩ := List.getElem_of_mem (hs _ hp)
    refine ⟨j + 1, hj, ?_⟩
    unfold MS.nth
    simp only [List.getD, List.getElem?_cons_succ]
    rw [List.getElem?_append_left hj, List.getElem?_eq_getElem hj, he]; rfl

theorem MS.path_top (m : MS) (k : Ent) (hm : m.Ok) : m.path k 12 = 0 := by
  unfold MS.path
  have : tallF m.ht 12 (m.low k) = [] := by
    unfold tallF
    rw [List.filter_eq_nil_iff]
    intro a ha
    have h1 := hm.mem a (by rw [← MS.low_high m k]; simp [ha])
    have h2 := hm.ht a h1.1 h1.2
    simp; omega
  rw [this]; rfl

/-- At the bottom all are there. -/
theorem MS.Ok.bottom (hm : m.Ok) : tallF m.ht 0 m.ord = m.ord := by
  unfold tallF
  rw [List.filter_eq_self]
  intro a ha
  have h1 := hm.mem a ha
  have h2 := hm.ht a h1.1 h1.2
  simp; omega
theorem MS.Ok.low0 (hm : m.Ok) (k : Ent) : m.lowAt k 0 = m.low k := by
  unfold MS.lowAt tallF
  rw [List.filter_eq_self]
  intro a ha
  have h1 := hm.mem a (by rw [← MS.low_high m k]; simp [ha])
  have h2 := hm.ht a h1.1 h1.2
  simp; omega
theorem MS.Ok.high0 (hm : m.Ok) (k : Ent) : m.highAt k 0 = m.high k := by
  unfold MS.highAt tallF
  rw [List.filter_eq_self]
  intro a ha
  have h1 := hm.mem a (by rw [← MS.low_high m k]; simp [ha])
  have h2 := hm.ht a h1.1 h1.2
  simp; omega

/-- The first that is not ahead. -/
theorem MS.Ok.first (hm : m.Ok) (k : Ent) : m.lk (m.path k 0) 0 = (m.high k).headD 0 := by
  rw [MS.path_nth, hm.link k (by omega) (by simp)]
  unfold MS.nth
  simp only [List.getD, List.getElem?_cons_succ]
  rw [List.getElem?_append_right (Nat.le_refl _), Nat.sub_self, hm.high0]
  cases m.high k <;> rfl

/-- Links while one node is entered at the heights below 'j'. -/
def MS.linked (m : MS) (k : Ent) (v j a h : Nat) : Nat := if h < j then (if a = m.path k h then v else if a = v then m.lk (m.path k h) h else m.lk a h) else m.lk a h
def upd (f : Nat → Nat → Nat) (a h x : Nat) : Nat → Nat → Nat := fun a' h' => if a' = a ∧ h' = h then x else f a' h'

theorem MS.path_mem (m : MS) (k : Ent) (h : Nat) : m.path k h = 0 ∨ m.path k h ∈ m.lowAt k h := by
  show (m.lowAt k h).getLastD 0 = 0 ∨ (m.lowAt k h).getLastD 0 ∈ _
  rcases nil_or_snoc (m.lowAt k h) with hl | ⟨x, a, hl⟩
  · rw [hl]; exact .inl rfl
  · rw [hl]; right; rw [List.getLastD_concat]; simp

theorem MS.Ok.path_le (hm : m.Ok) (k : Ent) (h : Nat) : m.path k h ≤ m.es.length := by
  rcases m.path_mem k h with h1 | h1
  · omega
  · exact (hm.mem _ (by rw [← MS.low_high m k]; exact List.mem_append_left _ (List.mem_filter.1 h1).1)).2
theorem MS.Ok.path_at (hm : m.Ok) (k : Ent) (h : Nat) : m.path k h = 0 ∨ (1 ≤ m.path k h ∧ m.path k h ≤ m.es.length ∧ h < m.ht (m.path k h)) := by
  rcases m.path_mem k h with h1 | h1
  · exact .inl h1
  · right
    have h2 := List.mem_filter.1 h1
    have h3 := hm.mem _ (by rw [← MS.low_high m k]; exact List.mem_append_left _ h2.1)
    exact ⟨h3.1, h3.2, by simpa using h2.2⟩

theorem MS.linked_zero (m : MS) (k : Ent) (v : Nat) : m.linked k v 0 = m.lk := by
  funext a h
  unfold MS.linked
  rw [if_neg (by omega)]
theorem MS.linked_succ (m : MS) (k : Ent) (v j : Nat) (hv : m.path k j ≠ v) : upd (upd (m.linked k v j) v j (m.linked k v j (m.path k j) j)) (m.path k j) j v = m.linked k v (j + 1) := by
  funext a h
  unfold upd MS.linked
  by_cases h1 : h = j
  · subst h1
    by_cases h2 : a = m.path k h
    · simp [h2]
    · by_cases h3 : a = v
      · simp [h3, Ne.symm hv]
      · simp [h2, h3]
  · have : (h < j + 1) = (h < j) := by rw [eq_iff_iff]; omega
    simp [h1, this]

/-- One node more. -/
def MS.add (m : MS) (e : Ent) (t : Nat) : MS := ⟨m.linked e (m.es.length + 1) t, fun a => if a = m.es.length + 1 then t else m.ht a, m.es ++ [e], m.low e ++ (m.es.length + 1) :: m.high e, m.sz + sizeE e⟩

theorem MS.Ok.ent_old (hm : m.Ok) (e : Ent) (t : Nat) {a : Nat} (ha : a ∈ m.ord) : (m.add e t).ent a = m.ent a := by
  have := hm.mem a ha
  unfold MS.ent MS.add
  simp only [List.getD]
  rw [List.getElem?_append_left (by omega)]
theorem MS.ent_new (m : MS) (e : Ent) (t : Nat) : (m.add e t).ent (m.es.length + 1) = e := by
  unfold MS.ent MS.add
  simp [List.getD]

theorem MS.Ok.all_add (hm : m.Ok) (e : Ent) (t : Nat) : (m.add e t).all = insE e m.all := by
  have h1 : ∀ a ∈ m.low e, (m.add e t).ent a = m.ent a := fun a ha => hm.ent_old e t (by rw [← MS.low_high m e]; simp [ha])
  have h2 : ∀ a ∈ m.high e, (m.add e t).ent a = m.ent a := fun a ha => hm.ent_old e t (by rw [← MS.low_high m e]; simp [ha])
  show (m.low e ++ (m.es.length + 1) :: m.high e).map (m.add e t).ent = _
  rw [List.map_append, List.map_cons, MS.ent_new, List.map_congr_left h1, List.map_congr_left h2, MS.map_low, MS.map_high]
  rfl

theorem tallF_app (ht : Nat → Nat) (h : Nat) (a b : List Nat) : tallF ht h (a ++ b) = tallF ht h a ++ tallF ht h b := List.filter_append _ _
theorem tallF_congr {ht ht' : Nat → Nat} {h : Nat} {l : List Nat} (hc : ∀ a ∈ l, ht a = ht' a) : tallF ht h l = tallF ht' h l := by
  unfold tallF
  refine List.filter_congr fun a ha => ?_
  rw [hc a ha]

theorem chain_ins {x y : List Nat} {v : Nat} {f g : Nat → Nat} (hc : (0 :: (x ++ y)).map f = (x ++ y) ++ [0]) (hn : (0 :: (x ++ y)).Nodup) (hv : v ∉ 0 :: (x ++ y))
    (hg : ∀ a, g a = if a = x.getLastD 0 then v else if a = v then f (x.getLastD 0) else f a) : (0 :: (x ++ v :: y)).map g = (x ++ v :: y) ++ [0] := by
  obtain ⟨x0, p, hx0, hp⟩ : ∃ x0 p, 0 :: x = x0 ++ [p] ∧ x.getLastD 0 = p := by
    rcases nil_or_snoc x with rfl | ⟨x, a, rfl⟩
    · exact ⟨[], 0, rfl, rfl⟩
    · exact ⟨0 :: x, a, rfl, List.getLastD_concat⟩
  have e1 : 0 :: (x ++ y) = x0 ++ p :: y := by rw [← List.cons_append, hx0]; simp
  have e2 : 0 :: (x ++ v :: y) = x0 ++ p :: v :: y := by rw [← List.cons_append, hx0]; simp
  have hlen : x0.length = x.length := by have := congrArg List.length hx0; simp at this; omega
  rw [e1] at hc hn hv
  rw [e2]
  rw [hp] at hg
  simp only [List.map_append, List.map_cons] at hc ⊢
  have hc' : x0.map f ++ (f p :: y.map f) = x ++ (y ++ [0]) := by simpa using hc
  obtain ⟨c1, c2⟩ := List.append_inj hc' (by simp [hlen])
  have hn' := List.nodup_append.1 hn
  have hpy := (List.nodup_cons.1 hn'.2.1).1
  have hpx : p ∉ x0 := fun h => hn'.2.2 p h p (by simp) rfl
  have hvx : v ∉ x0 := fun h => hv (by simp [h])
  have hvp : v ≠ p := fun h => hv (by simp [h])
  have hvy : v ∉ y := fun h => hv (by simp [h])
  have g1 : x0.map g = x0.map f := List.map_congr_left fun a ha => by
    rw [hg a, if_neg (fun e : a = _ => hpx (by rw [← e]; exact ha)), if_neg (fun e : a = _ => hvx (by rw [← e]; exact ha))]
  have g2 : y.map g = y.map f := List.map_congr_left fun a ha => by
    rw [hg a, if_neg (fun e : a = _ => hpy (by rw [← e]; exact ha)), if_neg (fun e : a = _ => hvy (by rw [← e]; exact ha))]
  have g3 : g p = v := by rw [hg p, if_pos rfl]
  have g4 : g v = f p := by rw [hg v, if_neg hvp, if_pos rfl]
  rw [g1, g2, g3, g4, c1, c2]
  simp

theorem MS.Ok.add (hm : m.Ok) {e : Ent} {t : Nat} (he : e.may = true) (hn : isIn e m.all = false) (ht1 : 1 ≤ t) (ht2 : t ≤ 12) : (m.add e t).Ok where
  chain h hh := by
    have hv : ∀ a ∈ m.ord, a ≠ m.es.length + 1 := fun a ha => by have := hm.mem a ha; omega
    have hlh := MS.low_high m e
    have hl : tallF (m.add e t).ht h (m.low e) = m.lowAt e h := tallF_congr fun a ha => by
      have := hv a (by rw [← hlh]; simp [ha])
      show (if a = m.es.length + 1 then t else m.ht a) = _
      rw [if_neg this]
    have hr : tallF (m.add e t).ht h (m.high e) = m.highAt e h := tallF_congr fun a ha => by
      have := hv a (by rw [← hlh]; simp [ha])
      show (if a = m.es.length + 1 then t else m.ht a) = _
      rw [if_neg this]
    have hc := hm.chain h hh
    rw [MS.parts m e h] at hc
    have ho : (m.add e t).ord = m.low e ++ (m.es.length + 1) :: m.high e := rfl
    have hmem : ∀ a ∈ m.lowAt e h ++ m.highAt e h, a ∈ m.ord := by
      intro a ha
      rw [← MS.parts] at ha
      exact (List.mem_filter.1 ha).1
    have hnod : (0 :: (m.lowAt e h ++ m.highAt e h)).Nodup := by
      rw [← MS.parts, List.nodup_cons]
      refine ⟨fun h0 => ?_, List.Pairwise.filter _ hm.nodup⟩
      have := hm.mem 0 (List.mem_filter.1 h0).1
      omega
    rw [ho, tallF_app, hl]
    have htc : tallF (m.add e t).ht h ((m.es.length + 1) :: m.high e) = if h < t then (m.es.length + 1) :: m.highAt e h else m.highAt e h := by
      rw [← hr]
      unfold tallF
      rw [List.filter_cons]
      have : (m.add e t).ht (m.es.length + 1) = t := by show (if m.es.length + 1 = m.es.length + 1 then t else _) = t; rw [if_pos rfl]
      rw [this]
      by_cases h1 : h < t
      · rw [if_pos h1, if_pos (by simpa using h1)]
      · rw [if_neg h1, if_neg (by simpa using h1)]
    rw [htc]
    by_cases h1 : h < t
    · rw [if_pos h1]
      refine chain_ins hc hnod (fun h0 => ?_) fun a => ?_
      · rcases List.mem_cons.1 h0 with h0 | h0
        · omega
        · exact hv _ (hmem _ h0) rfl
      · show m.linked e (m.es.length + 1) t a h = _
        unfold MS.linked
        rw [if_pos h1]
        rfl
    · rw [if_neg h1, ← hc]
      refine List.map_congr_left fun a ha => ?_
      show m.linked e (m.es.length + 1) t a h = _
      unfold MS.linked
      rw [if_neg h1]
  mem a ha := by
    have hlh := MS.low_high m e
    have : a = m.es.length + 1 ∨ a ∈ m.ord := by
      rcases List.mem_append.1 (show a ∈ m.low e ++ (m.es.length + 1) :: m.high e from ha) with h | h
      · exact .inr (by rw [← hlh]; simp [h])
      · rcases List.mem_cons.1 h with h | h
        · exact .inl h
        · exact .inr (by rw [← hlh]; simp [h])
    show 1 ≤ a ∧ a ≤ (m.es ++ [e]).length
    rw [List.length_append, List.length_singleton]
    rcases this with rfl | h
    · omega
    · have := hm.mem a h; omega
  ht a h1 h2 := by
    have h2' : a ≤ m.es.length + 1 := by simpa [MS.add] using h2
    show 1 ≤ (if a = m.es.length + 1 then t else m.ht a) ∧ (if a = m.es.length + 1 then t else m.ht a) ≤ 12
    by_cases h3 : a = m.es.length + 1
    · rw [if_pos h3]; exact ⟨ht1, ht2⟩
    · rw [if_neg h3]; exact hm.ht a h1 (by omega)
  len := by
    have := congrArg List.length (MS.low_high m e)
    show (m.low e ++ (m.es.length + 1) :: m.high e).length = (m.es ++ [e]).length
    rw [List.length_append] at this
    rw [List.length_append, List.length_append, List.length_cons, List.length_singleton, ← hm.len]
    omega
  up := by rw [hm.all_add]; exact ins_up hm.up hn
  may x hx := by
    rcases List.mem_append.1 (show x ∈ m.es ++ [e] from hx) with h | h
    · exact hm.may x h
    · have : x = e := by simpa using h
      rw [this]; exact he
  none a ha h := by
    have ha' : m.es.length + 1 < a := by simpa [MS.add] using ha
    have hp := hm.path_le e h
    show m.linked e (m.es.length + 1) t a h = 0
    unfold MS.linked
    split
    · rw [if_neg (by omega), if_neg (by omega), hm.none a (by omega) h]
    · exact hm.none a (by omega) h
  size := by
    rw [hm.all_add, ins_size, ← hm.size]
    rfl
end
end Go.Proofs.Ytnmmeaoapfampaa
