/-
  One list with towers, or two side by side, above a statement's own world; that it does not hang on the order in which entries came.
-/
import Derived.Test.YtjiefffmcohcbaaMemBoth
import Derived.Test.YtjiefffmcohcbaaKeyRefRising
namespace Go.Proofs.Ytjiefffmcohcbaa
open Go.RowKit

structure OneM (W w : World) (p : Nat) (L : List Ent) : Prop where
  bel : Below W.heap.size W w
  obj : ∃ F, Mo F w p L ∧ (∀ k, F k → W.heap.size ≤ k)

theorem OneM.below {W w w' : World} {p : Nat} {L : List Ent} (h : OneM W w p L) (hb : Below w.heap.size w w') : OneM W w' p L := by
  obtain ⟨F, h1, h2⟩ := h.obj
  exact ⟨h.bel.trans (hb.mono h.bel.size), F, h1.below hb, h2⟩
theorem om_add {W w : World} {p : Nat} {L : List Ent} (h : OneM W w p L) (e : Ent) (he : e.fits) (hgt : Int) (hlen : L.length < 100000) :
    Calls Try.prog 9 #[.pointer (some ⟨p, 0, none⟩), .agg #[.string e.u, .int .i64 e.s, .int .i64 e.k, .string e.v], .int .i64 hgt] w fun r w' => r = .returned (.bool (addB e L)) ∧ OneM W w' p (addL e L) := by
  obtain ⟨F, h1, h2⟩ := h.obj
  refine (mo_add h1 e he hgt hlen).mono ?_
  rintro r w' ⟨rfl, F', hm, ht, hg⟩
  have hs := h.bel.size
  refine ⟨rfl, h.bel.trans (ht.below h2 hs), F', hm, fun k hF' => ?_⟩
  rcases hg k hF' with h | h
  · exact h2 k h
  · omega
theorem om_get {W w : World} {p : Nat} {L : List Ent} (h : OneM W w p L) (u : ByteArray) (s : Int) (hu : u.size ≤ maxLen) (hs : (Lit.int .i64 s).wf = true) :
    Calls Try.prog 16 #[.pointer (some ⟨p, 0, none⟩), .string u, .int .i64 s] w fun e w' => e = .returned (ansN (newest L u s)) ∧ Below w.heap.size w w' := by
  obtain ⟨F, h1, _⟩ := h.obj
  exact mo_get h1 u s hu hs

structure TwoM (W w : World) (p q : Nat) (L M : List Ent) : Prop where
  bel : Below W.heap.size W w
  obj : ∃ F G, Mo F w p L ∧ Mo G w q M ∧ (∀ k, F k → ¬ G k) ∧ (∀ k, F k → W.heap.size ≤ k) ∧ (∀ k, G k → W.heap.size ≤ k)

theorem TwoM.below {W w w' : World} {p q : Nat} {L M : List Ent} (h : TwoM W w p q L M) (hb : Below w.heap.size w w') : TwoM W w' p q L M := by
  obtain ⟨F, G, h1, h2, h3⟩ := h.obj
  exact ⟨h.bel.trans (hb.mono h.bel.size), F, G, h1.below hb, h2.below hb, h3⟩
theorem TwoM.turn {W w : World} {p q : Nat} {L M : List Ent} (h : TwoM W w p q L M) : TwoM W w q p M L := by
  obtain ⟨F, G, h1, h2, h3, h4, h5⟩ := h.obj
  exact ⟨h.bel, G, F, h2, h1, fun k hG hF => h3 k hF hG, h5, h4⟩
theorem tm_start {W w1 w2 : World} {p q : Nat} {F G : Nat → Prop} (hm : Mo F w1 p []) (hf : ∀ k, F k → W.heap.size ≤ k) (hb : Below W.heap.size W w1) (hm2 : Mo G w2 q []) (hf2 : ∀ k, G k → w1.heap.size ≤ k) (hb2 : Below w1.heap.size w1 w2) : TwoM W w2 p q [] [] := by
  have hs := hb.size
  exact ⟨belowT hb hb2, F, G, hm.below hb2, hm2, fun k hF hG => by have := hm.lt k hF; have := hf2 k hG; omega, hf, fun k hG => by have := hf2 k hG; omega⟩
theorem tm_add {W w : World} {p q : Nat} {L M : List Ent} (h : TwoM W w p q L M) (e : Ent) (he : e.fits) (hgt : Int) (hlen : L.length < 100000) :
    Calls Try.prog 9 #[.pointer (some ⟨p, 0, none⟩), .agg #[.string e.u, .int .i64 e.s, .int .i64 e.k, .string e.v], .int .i64 hgt] w fun r w' => r = .returned (.bool (addB e L)) ∧ TwoM W w' p q (addL e L) M := by
  obtain ⟨F, G, h1, h2, h3, h4, h5⟩ := h.obj
  refine (mo_add h1 e he hgt hlen).mono ?_
  rintro r w' ⟨rfl, F', hm, ht, hg⟩
  have hs := h.bel.size
  refine ⟨rfl, h.bel.trans (ht.below h4 hs), F', G, hm, h2.touch ht fun k hG hF => h3 k hF hG, fun k hF' hG => ?_, fun k hF' => ?_, h5⟩
  · rcases hg k hF' with h | h
    · exact h3 k h hG
    · have := h2.lt k hG; omega
  · rcases hg k hF' with h | h
    · exact h4 k h
    · omega
theorem tm_add2 {W w : World} {p q : Nat} {L M : List Ent} (h : TwoM W w p q L M) (e : Ent) (he : e.fits) (hgt : Int) (hlen : M.length < 100000) :
    Calls Try.prog 9 #[.pointer (some ⟨q, 0, none⟩), .agg #[.string e.u, .int .i64 e.s, .int .i64 e.k, .string e.v], .int .i64 hgt] w fun r w' => r = .returned (.bool (addB e M)) ∧ TwoM W w' p q L (addL e M) := by
  refine (tm_add h.turn e he hgt hlen).mono ?_
  rintro r w' ⟨rfl, h2⟩
  exact ⟨rfl, h2.turn⟩
theorem tm_all {W w : World} {p q : Nat} {L M : List Ent} (h : TwoM W w p q L M) (hlen : L.length < 100000) : Calls Try.prog 15 #[.pointer (some ⟨p, 0, none⟩)] w fun e w' => ∃ v, e = .returned v ∧ OwnE w' 0 v L ∧ Below w.heap.size w w' := by
  obtain ⟨F, G, h1, _⟩ := h.obj
  refine (mo_all h1 hlen).mono ?_
  rintro e w' ⟨v, rfl, h2, h3⟩
  exact ⟨v, rfl, own_monoE h2 (Nat.zero_le _), h3⟩
theorem tm_size {W w : World} {p q : Nat} {L M : List Ent} (h : TwoM W w p q L M) : Calls Try.prog 12 #[.pointer (some ⟨p, 0, none⟩)] w fun e w' => e = .returned (.int .i64 (sizeL L : Int)) ∧ w = w' := by
  obtain ⟨F, G, h1, _⟩ := h.obj
  exact mo_size h1
theorem tm_len {W w : World} {p q : Nat} {L M : List Ent} (h : TwoM W w p q L M) : Calls Try.prog 11 #[.pointer (some ⟨p, 0, none⟩)] w fun e w' => e = .returned (.int .i64 (L.length : Int)) ∧ w = w' := by
  obtain ⟨F, G, h1, _⟩ := h.obj
  exact mo_len h1
theorem TwoM.up {W w : World} {p q : Nat} {L M : List Ent} (h : TwoM W w p q L M) : Up L ∧ ∀ e ∈ L, e.may = true := by
  obtain ⟨F, G, h1, _⟩ := h.obj
  exact h1.up

/-! ### The order does not count. -/
theorem up_ext : ∀ {L M : List Ent}, Up L → Up M → (∀ x, x ∈ L ↔ x ∈ M) → L = M
  | [], [], _, _, _ => rfl
  | [], b :: t, _, _, h => by have := (h b).2 (by simp); simp at this
  | a :: r, [], _, _, h => by have := (h a).1 (by simp); simp at this
  | a :: r, b :: t, h1, h2, h => by
    have h1' := List.pairwise_cons.1 h1
    have h2' := List.pairwise_cons.1 h2
    have hab : a = b := by
      refine Classical.byContradiction fun hne => ?_
      have ha : a ∈ t := by
        rcases List.mem_cons.1 ((h a).1 (by simp)) with e | e
        · exact absurd e hne
        · exact e
      have hb : b ∈ r := by
        rcases List.mem_cons.1 ((h b).2 (by simp)) with e | e
        · exact absurd e.symm hne
        · exact e
      have c1 := h1'.1 b hb
      have c2 := h2'.1 a ha
      rw [cmp_back a b] at c2
      omega
    subst hab
    congr 1
    refine up_ext h1'.2 h2'.2 fun x => ?_
    constructor
    · intro hx
      rcases List.mem_cons.1 ((h x).1 (by simp [hx])) with e | e
      · have := h1'.1 x hx
        rw [e, cmp_self] at this; omega
      · exact e
    · intro hx
      rcases List.mem_cons.1 ((h x).2 (by simp [hx])) with e | e
      · have := h2'.1 x hx
        rw [e, cmp_self] at this; omega
      · exact e

theorem build_up (xs : List Ent) : Up (build xs) := by
  have key : ∀ (ys acc : List Ent), Up acc → Up (ys.foldl (fun acc e => addL e acc) acc) := by
    intro ys
    induction ys with
    | nil => intro acc h; exact h
    | cons y r ih => intro acc h; exact ih _ (addL_up h)
  exact key xs [] List.Pairwise.nil

theorem ent_snoc (x : List Ent) : x = [] ∨ ∃ y a, x = y ++ [a] := by
  rcases List.eq_nil_or_concat x with h | ⟨y, a, h⟩
  · exact .inl h
  · exact .inr ⟨y, a, by rw [h, List.concat_eq_append]⟩

theorem build_mem : ∀ (n : Nat) (xs : List Ent), xs.length = n → (∀ x ∈ xs, ∀ y ∈ xs, x.cmp y = 0 → x = y) → ∀ x, x ∈ build xs ↔ x ∈ xs ∧ x.may = true
  | 0, xs, hn, _, x => by
    obtain rfl := List.eq_nil_of_length_eq_zero hn
    simp [build]
  | n + 1, xs, hn, hu, x => by
    rcases ent_snoc xs with rfl | ⟨ys, e, rfl⟩
    · simp at hn
    · have hy : ys.length = n := by rw [List.length_append] at hn; simpa using hn
      have ih := build_mem n ys hy fun a ha b hb => hu a (by simp [ha]) b (by simp [hb])
      rw [build_snoc]
      have hup := build_up ys
      unfold addL
      cases hadd : addB e (build ys) with
      | true =>
        show x ∈ insE e (build ys) ↔ _
        rw [ins_mem, ih x]
        unfold addB at hadd
        simp only [Bool.and_eq_true] at hadd
        constructor
        · rintro (rfl | ⟨h1, h2⟩)
          · exact ⟨by simp, hadd.1⟩
          · exact ⟨by simp [h1], h2⟩
        · rintro ⟨h1, h2⟩
          rcases List.mem_append.1 h1 with h1 | h1
          · exact .inr ⟨h1, h2⟩
          · exact .inl (by simpa using h1)
      | false =>
        show x ∈ build ys ↔ _
        rw [ih x]
        constructor
        · rintro ⟨h1, h2⟩; exact ⟨by simp [h1], h2⟩
        · rintro ⟨h1, h2⟩
          rcases List.mem_append.1 h1 with h1 | h1
          · exact ⟨h1, h2⟩
          · have hxe : x = e := by simpa using h1
            subst hxe
            unfold addB at hadd
            rw [h2] at hadd
            simp only [Bool.true_and, Bool.not_eq_false'] at hadd
            obtain ⟨y, hy1, hy2⟩ := (isIn_mem hup).1 hadd
            have hy3 := (ih y).1 hy1
            have := hu y (by simp [hy3.1]) x (by simp) hy2
            rw [← this]
            exact ⟨hy3.1, by rw [this]; exact h2⟩

/-- What was looked at: of two keys that are one the entries are one. -/
def Seen (l : List Ent) (i : Nat) : Prop := ∀ a, a < i → ∀ b, b < a → (l.getD b Ent.none_).cmp (l.getD a Ent.none_) = 0 → l.getD b Ent.none_ = l.getD a Ent.none_

theorem seen_build {l : List Ent} (h : Seen l l.length) : build l.reverse = build l := by
  have hu : ∀ x ∈ l, ∀ y ∈ l, x.cmp y = 0 → x = y := by
    intro x hx y hy hc
    obtain ⟨a, ha, rfl⟩ := List.getElem_of_mem hx
    obtain ⟨b, hb, rfl⟩ := List.getElem_of_mem hy
    have e1 : l.getD a Ent.none_ = l[a] := by simp [List.getD, ha]
    have e2 : l.getD b Ent.none_ = l[b] := by simp [List.getD, hb]
    rcases Nat.lt_trichotomy a b with h1 | h1 | h1
    · have := h b hb a h1
      rw [e1, e2] at this
      exact this hc
    · subst h1; rfl
    · have := h a ha b h1
      rw [e1, e2] at this
      exact (this (by rw [cmp_back]; omega)).symm
  refine up_ext (build_up _) (build_up _) fun x => ?_
  rw [build_mem _ _ rfl fun a ha b hb => hu a (by simpa using ha) b (by simpa using hb), build_mem _ _ rfl hu]
  simp

theorem build_rev {l : List Ent} {n : Nat} (hn : n < l.length) : build (l.drop n).reverse = addL (l.getD n Ent.none_) (build (l.drop (n + 1)).reverse) := by
  rw [List.drop_eq_getElem_cons hn, List.reverse_cons, build_snoc]
  simp [List.getD, hn]

theorem rising_up {L : List Ent} (hu : Up L) (hm : ∀ x ∈ L, x.may = true) : risingB L = true := by
  refine (rising_yes fun j hj => ?_).symm
  have e1 : L.getD j Ent.none_ = L[j] := by simp [List.getD, hj]
  cases j with
  | zero => exact goodAt_zero e1 (hm _ (List.getElem_mem _))
  | succ j =>
    have e2 : L.getD j Ent.none_ = L[j] := by simp [List.getD, Nat.lt_of_succ_lt hj]
    rw [goodAt_next e1 e2 (hm _ (List.getElem_mem _)), decide_eq_true_eq]
    exact (List.pairwise_iff_getElem.1 hu) j (j + 1) (by omega) hj (by omega)
theorem rises_all {w : World} {v : Value} {L : List Ent} (h : OwnE w 0 v L) (hu : Up L) (hm : ∀ x ∈ L, x.may = true) :
    Calls Try.prog 18 #[v] w fun e w' => e = .returned (.bool true) ∧ Below w.heap.size w w' := by
  have := rrising_any v L w (h.read fun x hx => Ent.may_fits (hm x hx))
  rw [rising_up hu hm] at this
  exact this
end Go.Proofs.Ytjiefffmcohcbaa
