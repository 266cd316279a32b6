/-
  Operations: which is the last of each key, whether they may be: plain facts, nothing of the program.
-/
import Derived.Test.YtpbmacbogmnokaaKeyMath
namespace Go.Proofs.Ytpbmacbogmnokaa

/-- An operation: its Kind, its Key, its Val. -/
structure Ope where
  k : Int
  u : ByteArray
  v : ByteArray

instance : Inhabited Ope := ⟨⟨0, ⟨#[]⟩, ⟨#[]⟩⟩⟩

/-- Its key's bytes. -/
abbrev Ope.key (o : Ope) : List UInt8 := o.u.data.toList

/-- One put in, in the place of its key. -/
def insO (o : Ope) : List Ope → List Ope
  | [] => [o]
  | x :: r => if cmpL x.key o.key = -1 then x :: insO o r else if x.key = o.key then o :: r else o :: x :: r

/-- The last of each key, by rising keys. -/
def normL (l : List Ope) : List Ope := l.foldl (fun acc o => insO o acc) []

theorem normL_snoc (l : List Ope) (o : Ope) : normL (l ++ [o]) = insO o (normL l) := by
  unfold normL
  rw [List.foldl_append]
  rfl

/-- Each key above the one ahead of it. -/
def Rises (l : List Ope) : Prop := l.Pairwise fun a b => cmpL a.key b.key = -1

/-- The first that has the key. -/
def look (l : List Ope) (q : List UInt8) : Option Ope := l.find? fun o => decide (o.key = q)

/-- The last that has the key. -/
def lastK (l : List Ope) (q : List UInt8) : Option Ope := look l.reverse q

theorem cmpL_ne {a b : List UInt8} (h : cmpL a b = -1) : a ≠ b := by
  intro e
  rw [(cmpL_zero a b).2 e] at h
  omega

theorem cmpL_trans {a b c : List UInt8} (h1 : cmpL a b = -1) (h2 : cmpL b c = -1) : cmpL a c = -1 := by
  have := cmpL_three a b c
  unfold Three at this
  have := this.2.2 (h1.trans h2.symm)
  omega

theorem cmpL_else {a b : List UInt8} (h1 : cmpL a b ≠ -1) (h2 : a ≠ b) : cmpL b a = -1 := by
  have h3 := cmpL_sgn a b
  have h4 : cmpL a b ≠ 0 := fun h => h2 ((cmpL_zero a b).1 h)
  rw [cmpL_turn a b]
  unfold Sgn at h3
  omega

theorem look_cons (x : Ope) (r : List Ope) (q : List UInt8) : look (x :: r) q = if x.key = q then some x else look r q := by
  unfold look
  rw [List.find?_cons]
  by_cases h : x.key = q
  · simp [h]
  · simp [h]

theorem look_append (l m : List Ope) (q : List UInt8) : look (l ++ m) q = (look l q).or (look m q) := by
  unfold look
  exact List.find?_append

theorem look_none {l : List Ope} {q : List UInt8} : look l q = none ↔ ∀ o ∈ l, o.key ≠ q := by
  unfold look
  simp

theorem look_some {l : List Ope} {q : List UInt8} {o : Ope} (h : look l q = some o) : o ∈ l ∧ o.key = q := by
  unfold look at h
  exact ⟨List.mem_of_find?_eq_some h, by simpa using List.find?_some h⟩

theorem look_insO (o : Ope) (q : List UInt8) : ∀ l : List Ope, look (insO o l) q = if o.key = q then some o else look l q
  | [] => by simp [insO, look_cons]
  | x :: r => by
    unfold insO
    split
    · rename_i h
      have hne := cmpL_ne h
      rw [look_cons, look_cons, look_insO o q r]
      by_cases h1 : x.key = q
      · have h2 : o.key ≠ q := fun h2 => hne (h1.trans h2.symm)
        simp [h1, h2]
      · simp [h1]
    · split
      · rename_i h1 h2
        rw [look_cons, look_cons, h2]
        split <;> rfl
      · rw [look_cons]

theorem insO_mem {o x : Ope} : ∀ {l : List Ope}, x ∈ insO o l → x = o ∨ x ∈ l
  | [], h => by simpa [insO] using h
  | y :: r, h => by
    unfold insO at h
    split at h
    · rcases List.mem_cons.1 h with h | h
      · exact .inr (by simp [h])
      · rcases insO_mem h with h | h
        · exact .inl h
        · exact .inr (by simp [h])
    · split at h
      · rcases List.mem_cons.1 h with h | h
        · exact .inl h
        · exact .inr (by simp [h])
      · rcases List.mem_cons.1 h with h | h
        · exact .inl h
        · exact .inr h

theorem insO_rises (o : Ope) : ∀ {l : List Ope}, Rises l → Rises (insO o l)
  | [], _ => List.pairwise_singleton _ _
  | x :: r, h => by
    have h' := List.pairwise_cons.1 h
    unfold insO
    split
    · rename_i h1
      refine List.pairwise_cons.2 ⟨fun y hy => ?_, insO_rises o h'.2⟩
      rcases insO_mem hy with rfl | hy
      · exact h1
      · exact h'.1 y hy
    · split
      · rename_i h1 h2
        refine List.pairwise_cons.2 ⟨fun y hy => ?_, h'.2⟩
        rw [← h2]
        exact h'.1 y hy
      · rename_i h1 h2
        have h3 := cmpL_else h1 h2
        refine List.pairwise_cons.2 ⟨fun y hy => ?_, h⟩
        rcases List.mem_cons.1 hy with rfl | hy
        · exact h3
        · exact cmpL_trans h3 (h'.1 y hy)

theorem insO_len (o : Ope) : ∀ l : List Ope, (insO o l).length ≤ l.length + 1
  | [] => by simp [insO]
  | x :: r => by
    have := insO_len o r
    unfold insO
    split
    · simp only [List.length_cons]; omega
    · split <;> simp

theorem fold_rises : ∀ (l acc : List Ope), Rises acc → Rises (l.foldl (fun acc o => insO o acc) acc)
  | [], _, h => h
  | o :: r, _, h => fold_rises r _ (insO_rises o h)

theorem normL_rises (l : List Ope) : Rises (normL l) := fold_rises l [] List.Pairwise.nil

theorem fold_look (q : List UInt8) : ∀ (l acc : List Ope), look (l.foldl (fun acc o => insO o acc) acc) q = (lastK l q).or (look acc q)
  | [], _ => by simp [lastK, look]
  | o :: r, acc => by
    rw [List.foldl_cons, fold_look q r, look_insO]
    unfold lastK
    rw [List.reverse_cons, look_append, Option.or_assoc]
    congr 1
    rw [look_cons]
    split <;> rfl

theorem normL_look (l : List Ope) (q : List UInt8) : look (normL l) q = lastK l q := by
  have := fold_look q l []
  unfold normL
  rw [this]
  simp [look]

theorem fold_mem {x : Ope} : ∀ {l acc : List Ope}, x ∈ l.foldl (fun acc o => insO o acc) acc → x ∈ l ∨ x ∈ acc
  | [], _, h => .inr h
  | o :: r, acc, h => by
    rcases fold_mem (l := r) h with h | h
    · exact .inl (by simp [h])
    · rcases insO_mem h with h | h
      · exact .inl (by simp [h])
      · exact .inr h

theorem normL_mem {x : Ope} {l : List Ope} (h : x ∈ normL l) : x ∈ l := by
  rcases fold_mem h with h | h
  · exact h
  · simp at h

theorem fold_len : ∀ (l acc : List Ope), (l.foldl (fun acc o => insO o acc) acc).length ≤ acc.length + l.length
  | [], _ => by simp
  | o :: r, acc => by
    have h1 := fold_len r (insO o acc)
    have h2 := insO_len o acc
    rw [List.foldl_cons, List.length_cons]
    omega

theorem normL_len (l : List Ope) : (normL l).length ≤ l.length := by
  have := fold_len l []
  unfold normL
  simpa using this

theorem look_rises_head {a : Ope} {r : List Ope} (h : Rises (a :: r)) : look r a.key = none := by
  rw [look_none]
  intro o ho e
  exact cmpL_ne ((List.pairwise_cons.1 h).1 o ho) e.symm

/-- Two that rise and tell the same are one. -/
theorem rises_one : ∀ {l m : List Ope}, Rises l → Rises m → (∀ q, look l q = look m q) → l = m
  | [], [], _, _, _ => rfl
  | [], b :: t, _, _, h => by
    have := h b.key
    rw [look_cons, if_pos rfl] at this
    cases this
  | a :: r, [], _, _, h => by
    have := h a.key
    rw [look_cons, if_pos rfl] at this
    cases this
  | a :: r, b :: t, h1, h2, h => by
    have key : a.key = b.key := by
      refine Classical.byContradiction fun hne => ?_
      by_cases hc : cmpL a.key b.key = -1
      · have := h a.key
        rw [look_cons, if_pos rfl, look_cons, if_neg (Ne.symm hne)] at this
        have hn : look t a.key = none := by
          rw [look_none]
          intro o ho e
          have h3 := cmpL_trans hc ((List.pairwise_cons.1 h2).1 o ho)
          exact cmpL_ne h3 e.symm
        rw [hn] at this
        cases this
      · have hc' := cmpL_else hc hne
        have := h b.key
        rw [look_cons, if_neg hne, look_cons, if_pos rfl] at this
        have hn : look r b.key = none := by
          rw [look_none]
          intro o ho e
          have h3 := cmpL_trans hc' ((List.pairwise_cons.1 h1).1 o ho)
          exact cmpL_ne h3 e.symm
        rw [hn] at this
        cases this
    have e := h a.key
    rw [look_cons, if_pos rfl, look_cons, if_pos key.symm] at e
    cases e
    congr 1
    refine rises_one (List.pairwise_cons.1 h1).2 (List.pairwise_cons.1 h2).2 fun q => ?_
    by_cases hq : a.key = q
    · rw [← hq, look_rises_head h1, look_rises_head h2]
    · have := h q
      rwa [look_cons, if_neg hq, look_cons, if_neg hq] at this

/-- What rises is what it comes to. -/
theorem lastK_rises {l : List Ope} (h : Rises l) (q : List UInt8) : lastK l q = look l q := by
  induction l with
  | nil => rfl
  | cons a r ih =>
    have ih := ih (List.pairwise_cons.1 h).2
    unfold lastK at ih ⊢
    rw [List.reverse_cons, look_append, ih, look_cons]
    by_cases hq : a.key = q
    · rw [if_pos hq, ← hq, look_rises_head h, look_cons, if_pos rfl]
      rfl
    · rw [if_neg hq, look_cons, if_neg hq]
      cases look r q <;> rfl

theorem normL_fix {l : List Ope} (h : Rises l) : normL l = l := rises_one (normL_rises l) h fun q => by rw [normL_look, lastK_rises h]

theorem normL_norm (l : List Ope) : normL (normL l) = normL l := normL_fix (normL_rises l)

/-- The last of each key, from the end on. -/
def lastsL (l : List Ope) : List Ope := l.foldr (fun o acc => if acc.any (fun x => decide (x.key = o.key)) then acc else acc ++ [o]) []

theorem lasts_look (q : List UInt8) : ∀ l : List Ope, look (lastsL l) q = lastK l q
  | [] => rfl
  | o :: r => by
    have ih := lasts_look q r
    show look (if (lastsL r).any (fun x => decide (x.key = o.key)) then lastsL r else lastsL r ++ [o]) q = lastK (o :: r) q
    unfold lastK
    rw [List.reverse_cons, look_append]
    unfold lastK at ih
    split
    · rename_i h
      rw [ih]
      by_cases hq : o.key = q
      · have : look r.reverse q ≠ none := by
          rw [← ih]
          intro hn
          rw [look_none] at hn
          obtain ⟨x, hx, hk⟩ := List.any_eq_true.1 h
          exact hn x hx ((of_decide_eq_true hk).trans hq)
        cases hl : look r.reverse q with
        | none => exact absurd hl this
        | some _ => rfl
      · rw [look_cons, if_neg hq]
        cases look r.reverse q <;> rfl
    · rw [look_append, ih]

/-- No key twice. -/
def OneEach (l : List Ope) : Prop := l.Pairwise fun a b => a.key ≠ b.key

theorem lasts_apart : ∀ l : List Ope, OneEach (lastsL l)
  | [] => List.Pairwise.nil
  | o :: r => by
    have ih := lasts_apart r
    show OneEach (if (lastsL r).any (fun x => decide (x.key = o.key)) then lastsL r else lastsL r ++ [o])
    split
    · exact ih
    · rename_i h
      refine List.pairwise_append.2 ⟨ih, List.pairwise_singleton _ _, fun a ha b hb => ?_⟩
      obtain rfl := List.mem_singleton.1 hb
      intro e
      exact h (List.any_eq_true.2 ⟨a, ha, decide_eq_true e⟩)

theorem lasts_mem {x : Ope} : ∀ {l : List Ope}, x ∈ lastsL l → x ∈ l
  | [], h => by simp [lastsL] at h
  | o :: r, h => by
    have h' : x ∈ (if (lastsL r).any (fun x => decide (x.key = o.key)) then lastsL r else lastsL r ++ [o]) := h
    split at h'
    · exact List.mem_cons_of_mem _ (lasts_mem h')
    · rcases List.mem_append.1 h' with h' | h'
      · exact List.mem_cons_of_mem _ (lasts_mem h')
      · exact List.mem_cons.2 (.inl (by simpa using h'))

theorem lasts_len : ∀ l : List Ope, (lastsL l).length ≤ l.length
  | [] => Nat.le_refl _
  | o :: r => by
    have ih := lasts_len r
    show (if (lastsL r).any (fun x => decide (x.key = o.key)) then lastsL r else lastsL r ++ [o]).length ≤ r.length + 1
    split
    · omega
    · simp; omega

theorem OneEach.look_mem {l : List Ope} (h : OneEach l) {o : Ope} (ho : o ∈ l) : look l o.key = some o := by
  induction l with
  | nil => simp at ho
  | cons a r ih =>
    rw [look_cons]
    rcases List.mem_cons.1 ho with rfl | ho
    · rw [if_pos rfl]
    · rw [if_neg ((List.pairwise_cons.1 h).1 o ho), ih (List.pairwise_cons.1 h).2 ho]

theorem look_perm {l m : List Ope} (hp : l.Perm m) (h : OneEach l) (q : List UInt8) : look l q = look m q := by
  have hm : OneEach m := (hp.pairwise_iff (R := fun a b : Ope => a.key ≠ b.key) (fun hab => Ne.symm hab)).1 h
  cases hl : look l q with
  | none =>
    rw [eq_comm, look_none]
    rw [look_none] at hl
    exact fun o ho => hl o (hp.mem_iff.2 ho)
  | some o =>
    obtain ⟨h1, rfl⟩ := look_some hl
    exact (hm.look_mem (hp.mem_iff.1 h1)).symm

/-- The last of each key, sorted. -/
theorem sorted_norm {l m : List Ope} (hp : (lastsL l).Perm m) (hs : m.Pairwise fun a b => ¬ cmpL b.key a.key = -1) : m = normL l := by
  have hm : OneEach m := (hp.pairwise_iff (R := fun a b : Ope => a.key ≠ b.key) (fun hab => Ne.symm hab)).1 (lasts_apart l)
  have hr : Rises m := (hs.and hm).imp fun {a b} ⟨h1, h2⟩ => cmpL_else h1 (Ne.symm h2)
  refine rises_one hr (normL_rises l) fun q => ?_
  rw [← look_perm hp (lasts_apart l), lasts_look, normL_look]

theorem lasts_nonempty {l : List Ope} (h : l ≠ []) : lastsL l ≠ [] := by
  intro e
  cases l with
  | nil => exact h rfl
  | cons o r =>
    have := lasts_look o.key (o :: r)
    rw [e] at this
    unfold lastK at this
    have h2 := this.symm
    rw [show look ([] : List Ope) o.key = none from rfl, look_none] at h2
    exact h2 o (by simp) rfl

/-- What is wrong with an operation. -/
def mayO (o : Ope) : Int := if o.k ≠ 1 ∧ o.k ≠ 2 then 1 else if 64 < o.u.size ∨ 512 < o.v.size then 4 else if o.k = 2 ∧ o.v.size ≠ 0 then 1 else 0

/-- The first thing that is wrong. -/
def firstW : List Ope → Int
  | [] => 0
  | o :: r => if mayO o = 0 then firstW r else mayO o

/-- What is wrong with operations. -/
def mayOs (l : List Ope) : Int := if l.length = 0 then 1 else if 32 < l.length then 4 else firstW l

theorem firstW_skip : ∀ {l : List Ope} {i : Nat}, (∀ j, j < i → ∀ o, l[j]? = some o → mayO o = 0) → firstW l = firstW (l.drop i)
  | _, 0, _ => rfl
  | [], i + 1, _ => by simp
  | o :: r, i + 1, h => by
    have h0 := h 0 (by omega) o rfl
    rw [firstW, if_pos h0, List.drop_succ_cons]
    exact firstW_skip fun j hj o' ho => h (j + 1) (by omega) o' (by simpa using ho)

theorem firstW_zero {l : List Ope} (h : firstW l = 0) : ∀ o ∈ l, mayO o = 0 := by
  induction l with
  | nil => simp
  | cons a r ih =>
    unfold firstW at h
    split at h
    · rename_i h0
      intro o ho
      rcases List.mem_cons.1 ho with rfl | ho
      · exact h0
      · exact ih h o ho
    · rename_i h0; exact absurd h h0

theorem mayO_zero {o : Ope} (h : mayO o = 0) : (o.k = 1 ∨ o.k = 2) ∧ o.u.size ≤ 64 ∧ o.v.size ≤ 512 ∧ (o.k = 1 ∨ o.v.size = 0) := by
  unfold mayO at h
  split at h
  · omega
  · split at h
    · omega
    · split at h
      · omega
      · omega

theorem mayOs_zero {l : List Ope} (h : mayOs l = 0) : 1 ≤ l.length ∧ l.length ≤ 32 ∧ ∀ o ∈ l, mayO o = 0 := by
  unfold mayOs at h
  split at h
  · omega
  · split at h
    · omega
    · exact ⟨by omega, by omega, firstW_zero h⟩

theorem mayOs_mk {l : List Ope} (h1 : 1 ≤ l.length) (h2 : l.length ≤ 32) (h : ∀ o ∈ l, mayO o = 0) : mayOs l = 0 := by
  unfold mayOs
  rw [if_neg (by omega), if_neg (by omega)]
  clear h1 h2
  induction l with
  | nil => rfl
  | cons a r ih =>
    rw [firstW, if_pos (h a (by simp))]
    exact ih fun o ho => h o (by simp [ho])
end Go.Proofs.Ytpbmacbogmnokaa
