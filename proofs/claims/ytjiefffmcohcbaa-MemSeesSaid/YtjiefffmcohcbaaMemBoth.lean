/-
  The program's list with towers and the document's, side by side.
-/
import Derived.Test.YtjiefffmcohcbaaMemRef
import Derived.Test.YtjiefffmcohcbaaOpenE
import Derived.Test.YtjiefffmcohcbaaFork
namespace Go.Proofs.Ytjiefffmcohcbaa
open Go.RowKit

/-- Both, above the statement's own world. -/
structure AllW (W w : World) (p q : Nat) (L M : List Ent) : Prop where
  bel : Below W.heap.size W w
  obj : ∃ F G, Mo F w p L ∧ Ro G w q M ∧ (∀ k, F k → ¬ G k) ∧ (∀ k, F k → W.heap.size ≤ k) ∧ (∀ k, G k → W.heap.size ≤ k)

theorem AllW.below {W w w' : World} {p q : Nat} {L M : List Ent} (h : AllW W w p q L M) (hb : Below w.heap.size w w') : AllW W w' p q L M := by
  obtain ⟨F, G, h1, h2, h3⟩ := h.obj
  exact ⟨h.bel.trans (hb.mono h.bel.size), F, G, h1.below hb, h2.below hb, h3⟩
theorem AllW.up {W w : World} {p q : Nat} {L M : List Ent} (h : AllW W w p q L M) : Up L ∧ ∀ e ∈ L, e.may = true := by
  obtain ⟨F, G, h1, _⟩ := h.obj
  exact h1.up
theorem AllW.doc {W w : World} {p q : Nat} {L M : List Ent} (h : AllW W w p q L M) : ∃ va vc, w.heap[q]? = some (.cells #[.slice va M.length vc] 30 (0, 0)) ∧ OwnE w 0 (.slice va M.length vc) M := by
  obtain ⟨F, G, _, ⟨v, h1, h2, _⟩, _⟩ := h.obj
  obtain ⟨va, vc, rfl, _, _⟩ := h2.form
  exact ⟨va, vc, h1, h2⟩

theorem aw_start {W w1 : World} {p : Nat} {F : Nat → Prop} (hm : Mo F w1 p []) (hf : ∀ k, F k → W.heap.size ≤ k) (hb : Below W.heap.size W w1) : AllW W (w1.alloc (.cells #[.slice none 0 0] 30)) p w1.heap.size [] [] := by
  have hb2 : Below w1.heap.size w1 (w1.alloc (.cells #[.slice none 0 0] 30)) := (Below.refl _ _).alloc (Nat.le_refl _) _
  have hs := hb.size
  have hr : Ro (fun k => k = w1.heap.size) (w1.alloc (.cells #[.slice none 0 0] 30)) w1.heap.size [] := by
    refine ⟨.slice none 0 0, heap_alloc_new w1 _, World.ownsRow_nil _ _ _ _, (by intro h; cases h), fun k => ⟨fun h => .inl h, fun h => ?_⟩, fun e h => by cases h⟩
    rcases h with h | h
    · exact h
    · cases h
  refine ⟨belowT hb hb2, F, fun k => k = w1.heap.size, hm.below hb2, hr, fun k hk e => ?_, hf, fun k hk => ?_⟩
  · have := hm.lt k hk; omega
  · have hk' : k = w1.heap.size := hk
    omega

theorem aw_add {W w : World} {p q : Nat} {L M : List Ent} (h : AllW W w p q L M) (e : Ent) (he : e.fits) (hgt : Int) (hlen : L.length < 100000) :
    Calls Try.prog 9 #[.pointer (some ⟨p, 0, none⟩), .agg #[.string e.u, .int .i64 e.s, .int .i64 e.k, .string e.v], .int .i64 hgt] w fun r w' => r = .returned (.bool (addB e L)) ∧ AllW W w' p q (addL e L) M := by
  obtain ⟨F, G, h1, h2, h3, h4, h5⟩ := h.obj
  refine (mo_add h1 e he hgt hlen).mono ?_
  rintro r w' ⟨rfl, F', hm, ht, hg⟩
  have hs := h.bel.size
  refine ⟨rfl, h.bel.trans (ht.below h4 hs), F', G, hm, h2.touch ht fun k hG hF => h3 k hF hG, fun k hF' hG => ?_, fun k hF' => ?_, h5⟩
  · rcases hg k hF' with h | h
    · exact h3 k h hG
    · have := h2.lt k hG; omega
  · rcases hg k hF' with h | h
    · exact h4 k h
    · omega

theorem aw_radd {W w : World} {p q : Nat} {L M : List Ent} (h : AllW W w p q L M) (e : Ent) (he : e.fits) (hlen : M.length < 100000) :
    Calls Try.prog 10 #[.pointer (some ⟨q, 0, none⟩), .agg #[.string e.u, .int .i64 e.s, .int .i64 e.k, .string e.v]] w fun r w' => r = .returned (.bool (addB e M)) ∧ AllW W w' p q L (addL e M) := by
  obtain ⟨F, G, h1, h2, h3, h4, h5⟩ := h.obj
  refine (radd_any h2 e he hlen).mono ?_
  rintro r w' ⟨rfl, G', hm, ht, hg⟩
  have hs := h.bel.size
  refine ⟨rfl, h.bel.trans (ht.below h5 hs), F, G', h1.touch ht fun k hF hG => h3 k hF hG, hm, fun k hF hG' => ?_, h4, fun k hG' => ?_⟩
  · rcases hg k hG' with h | h
    · exact h3 k hF h
    · have := h1.lt k hF; omega
  · rcases hg k hG' with h | h
    · exact h5 k h
    · omega

theorem aw_len {W w : World} {p q : Nat} {L M : List Ent} (h : AllW W w p q L M) : Calls Try.prog 11 #[.pointer (some ⟨p, 0, none⟩)] w fun e w' => e = .returned (.int .i64 (L.length : Int)) ∧ w = w' := by
  obtain ⟨F, G, h1, _⟩ := h.obj
  exact mo_len h1
theorem aw_size {W w : World} {p q : Nat} {L M : List Ent} (h : AllW W w p q L M) : Calls Try.prog 12 #[.pointer (some ⟨p, 0, none⟩)] w fun e w' => e = .returned (.int .i64 (sizeL L : Int)) ∧ w = w' := by
  obtain ⟨F, G, h1, _⟩ := h.obj
  exact mo_size h1
theorem aw_rsize {W w : World} {p q : Nat} {L : List Ent} (h : AllW W w p q L L) (hll : L.length < 100000) : Calls Try.prog 13 #[.pointer (some ⟨q, 0, none⟩)] w fun e w' => e = .returned (.int .i64 (sizeL L : Int)) ∧ Below w.heap.size w w' := by
  obtain ⟨F, G, h1, h2, _⟩ := h.obj
  exact rsize_any h2 h1.up.2 hll
theorem aw_all {W w : World} {p q : Nat} {L M : List Ent} (h : AllW W w p q L M) (hlen : L.length < 100000) : Calls Try.prog 15 #[.pointer (some ⟨p, 0, none⟩)] w fun e w' => ∃ v, e = .returned v ∧ OwnE w' 0 v L ∧ Below w.heap.size w w' := by
  obtain ⟨F, G, h1, _⟩ := h.obj
  refine (mo_all h1 hlen).mono ?_
  rintro e w' ⟨v, rfl, h2, h3⟩
  exact ⟨v, rfl, own_monoE h2 (Nat.zero_le _), h3⟩

/-- An entry, or none, as five words. -/
theorem ansN_form (o : Option Ent) : ∃ (a : ByteArray) (b c : Int) (d : ByteArray) (f : Bool), ansN o = .tuple #[.agg #[.string a, .int .i64 b, .int .i64 c, .string d], .bool f] := by
  cases o with
  | none => exact ⟨_, _, _, _, _, rfl⟩
  | some e => exact ⟨_, _, _, _, _, rfl⟩

theorem aw_get {W w : World} {p q : Nat} {L M : List Ent} (h : AllW W w p q L M) (u : ByteArray) (s : Int) (hu : u.size ≤ maxLen) (hs : (Lit.int .i64 s).wf = true) (z : World) (hz : Below w.heap.size w z) (x : Value) (hx : ansN (newest L u s) = x) :
    Calls Try.prog 16 #[.pointer (some ⟨p, 0, none⟩), .string u, .int .i64 s] z fun e w' => e = .returned x ∧ Below z.heap.size z w' := by
  obtain ⟨F, G, h1, _⟩ := (h.below hz).obj
  rw [← hx]
  exact mo_get h1 u s hu hs

/-- The entries that are taken up, one after another. -/
def build (xs : List Ent) : List Ent := xs.foldl (fun acc e => addL e acc) []
theorem build_snoc (xs : List Ent) (e : Ent) : build (xs ++ [e]) = addL e (build xs) := by unfold build; rw [List.foldl_append]; rfl
theorem build_take {xs : List Ent} {k : Nat} (hk : k < xs.length) : build (xs.take (k + 1)) = addL (xs.getD k Ent.none_) (build (xs.take k)) := by
  rw [List.take_succ_eq_append_getElem hk, build_snoc]
  simp [List.getD, hk]
theorem build_len (xs : List Ent) : (build xs).length ≤ xs.length := by
  have key : ∀ (ys acc : List Ent), (ys.foldl (fun acc e => addL e acc) acc).length ≤ acc.length + ys.length := by
    intro ys
    induction ys with
    | nil => intro acc; simp
    | cons y r ih =>
      intro acc
      have h1 := ih (addL y acc)
      have h2 := addL_len y acc
      rw [List.foldl_cons, List.length_cons]
      omega
  have := key xs []
  unfold build
  simpa using this

/-- One of a slice of strings. -/
theorem RdS.at_ {w : World} {v : Value} {l : List ByteArray} (h : RdS w v l) : ∃ a c, v = .slice a l.length c ∧ ∀ i, i < l.length → ∃ b off, a = some ⟨b, off, none⟩ ∧ b < w.heap.size ∧ w.cell? ⟨b, off + i, none⟩ = some (.string (l.getD i ⟨#[]⟩)) ∧ (l.getD i ⟨#[]⟩).size ≤ maxLen := by
  obtain ⟨⟨a, cap, rfl, h1, h2, h0, h3⟩, hf⟩ := h
  refine ⟨a, cap, rfl, fun i hi => ?_⟩
  rcases h3 with ⟨h3, _⟩ | ⟨b, off, rfl, h4, h5⟩
  · omega
  · refine ⟨b, off, rfl, h4, h5 i _ ?_, ?_⟩
    · rw [List.getElem?_map, List.getElem?_eq_getElem hi]; simp [List.getD, hi]
    · refine hf _ ?_
      simp only [List.getD, List.getElem?_eq_getElem hi, Option.getD_some]
      exact List.getElem_mem hi
/-- One of a slice of numbers. -/
theorem RdI.at_ {k : IntKind} {w : World} {v : Value} {l : List Int} (h : RdI k w v l) : ∃ a c, v = .slice a l.length c ∧ ∀ i, i < l.length → ∃ b off, a = some ⟨b, off, none⟩ ∧ b < w.heap.size ∧ w.cell? ⟨b, off + i, none⟩ = some (.int k (l.getD i 0)) ∧ (Lit.int k (l.getD i 0)).wf = true := by
  obtain ⟨a, cap, rfl, h1, h2, hf, h3⟩ := h
  refine ⟨a, cap, rfl, fun i hi => ?_⟩
  rcases h3 with ⟨h3, _⟩ | ⟨b, off, rfl, h4, h5⟩
  · rw [h3] at hi; simp at hi
  · refine ⟨b, off, rfl, h4, h5 i hi, hf _ ?_⟩
    simp only [List.getD, List.getElem?_eq_getElem hi, Option.getD_some]
    exact List.getElem_mem hi
theorem RdE.one {w : World} {v : Value} {l : List Ent} (h : RdE w v l) : ∃ a c, v = .slice a l.length c ∧ ∀ i, i < l.length → ∃ b off, a = some ⟨b, off, none⟩ ∧ b < w.heap.size ∧ w.cell? ⟨b, off + i * 4, none⟩ = some (.string (l.getD i Ent.none_).u) ∧ w.cell? ⟨b, off + i * 4 + 1, none⟩ = some (.int .i64 (l.getD i Ent.none_).s) ∧
      w.cell? ⟨b, off + i * 4 + 2, none⟩ = some (.int .i64 (l.getD i Ent.none_).k) ∧ w.cell? ⟨b, off + i * 4 + 3, none⟩ = some (.string (l.getD i Ent.none_).v) ∧ (l.getD i Ent.none_).fits := by
  obtain ⟨a, c, rfl, _, _⟩ := h.form
  refine ⟨a, c, rfl, fun i hi => ?_⟩
  obtain ⟨b, off, cap, hv, _, _, hb, hc⟩ := h.at_ (by intro e; rw [e] at hi; simp at hi)
  cases hv
  obtain ⟨c0, c1, c2, c3⟩ := hc i hi
  exact ⟨b, off, rfl, hb, c0, c1, c2, c3, fits_at h.2 i hi⟩
theorem below_draw10 {w u : World} (h : Below w.drew.heap.size w.drew u) : Below w.heap.size w u := (Below.refl _ _).drew.trans h
end Go.Proofs.Ytjiefffmcohcbaa
