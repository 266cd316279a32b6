/-
  The acts of SeekRuns: how a slice of them is read and opened.
-/
import Derived.Test.YtabmdhbikedhmaaOpen
import Derived.Lib.SmallJoins
import Derived.Deep.Slices
namespace Go.Proofs.Ytabmdhbikedhmaa
open Go.ChangeShapes Go.WideShapes Go.ChangeAt Go.RowKit Go.Deep

structure ActS where
  d : Int
  u : ByteArray
  s : Int
  k : Int
def ActS.cells (e : ActS) : List Value := [.int .i64 e.d, .string e.u, .int .i64 e.s, .int .i64 e.k]
def ActS.none_ : ActS := ⟨0, ⟨#[]⟩, 0, 0⟩
def ActS.fits (e : ActS) : Prop := e.u.size ≤ maxLen ∧ (Lit.int .i64 e.s).wf = true ∧ (Lit.int .i64 e.k).wf = true
def RdA (w : World) (v : Value) (es : List ActS) : Prop := Rd w 4 v es.length (es.flatMap ActS.cells) ∧ ∀ e ∈ es, e.fits

theorem sflat_length : ∀ es : List ActS, (es.flatMap ActS.cells).length = es.length * 4
  | [] => rfl
  | e :: es => by
    rw [List.flatMap_cons, List.length_append, sflat_length es, List.length_cons]
    simp only [ActS.cells, List.length_cons, List.length_nil]
    omega

theorem sflat_at : ∀ (es : List ActS) (i t : Nat), i < es.length → t < 4 → (es.flatMap ActS.cells)[i * 4 + t]? = (es.getD i ActS.none_).cells[t]?
  | [], i, t, h, _ => by simp at h
  | e :: es, 0, t, _, ht => by
    rw [List.flatMap_cons, Nat.zero_mul, Nat.zero_add, List.getElem?_append_left (by simp [ActS.cells]; omega)]
    rfl
  | e :: es, i + 1, t, h, ht => by
    rw [List.flatMap_cons, List.getElem?_append_right (by simp [ActS.cells]; omega)]
    have : (i + 1) * 4 + t - e.cells.length = i * 4 + t := by simp [ActS.cells]; omega
    rw [this, sflat_at es i t (by simpa using h) ht]
    simp [List.getD]

/-- Each act of a slice that can be read. -/
theorem RdA.one {w : World} {v : Value} {l : List ActS} (h : RdA w v l) : ∃ a c, v = .slice a l.length c ∧ l.length ≤ c ∧ c ≤ maxLen ∧ ∀ i, i < l.length → ∃ b off, a = some ⟨b, off, none⟩ ∧ b < w.heap.size ∧ w.cell? ⟨b, off + i * 4, none⟩ = some (.int .i64 (l.getD i ActS.none_).d) ∧ w.cell? ⟨b, off + i * 4 + 1, none⟩ = some (.string (l.getD i ActS.none_).u) ∧ w.cell? ⟨b, off + i * 4 + 2, none⟩ = some (.int .i64 (l.getD i ActS.none_).s) ∧ w.cell? ⟨b, off + i * 4 + 3, none⟩ = some (.int .i64 (l.getD i ActS.none_).k) ∧ (l.getD i ActS.none_).fits := by
  obtain ⟨⟨a, cap, rfl, h1, h2, h0, h3⟩, hf⟩ := h
  refine ⟨a, cap, rfl, h1, h2, fun i hi => ?_⟩
  rcases h3 with h3 | ⟨b, off, rfl, h4, h5⟩
  · exact absurd (h3.1) (by omega)
  have hfi : (l.getD i ActS.none_).fits := hf _ (by simp [List.getD, hi])
  refine ⟨b, off, rfl, h4, ?_, ?_, ?_, ?_, hfi⟩
  · exact h5 (i * 4 + 0) _ (sflat_at l i 0 hi (by omega))
  · exact h5 (i * 4 + 1) _ (sflat_at l i 1 hi (by omega))
  · exact h5 (i * 4 + 2) _ (sflat_at l i 2 hi (by omega))
  · exact h5 (i * 4 + 3) _ (sflat_at l i 3 hi (by omega))

section
variable {H : Type} {enc : TypeId × Value → H} {w : World} {base : Nat} {spare : Nat → Bool} {held : Bool}

theorem actCells_open {n : Nat} {cs : List Value} {x : DataW H × List MemPlace} (h : DataW.trod enc Try.prog w base spare held n 33 cs = some x) : ∃ e : ActS, cs = e.cells ∧ e.fits := by
  obtain ⟨xs, m, _, _, hl, hx, hf⟩ := DataW.trod_struct Try.underlying33 h
  have hl' : cs.length = 4 := hl.trans (by kernel_rfl)
  match cs, hl' with
  | [c0, c1, c2, c3], _ =>
    have cI : Try.prog.cellsOf 3 = 1 := by kernel_rfl
    have cK : Try.prog.cellsOf 31 = 3 := by kernel_rfl
    have h0 : DataW.trod enc Try.prog w base spare held m 3 (([c0, c1, c2, c3].drop 0).take (Try.prog.cellsOf 3)) = xs[0]? := hf 0 _ rfl
    have h1 : DataW.trod enc Try.prog w base spare held m 31 (([c0, c1, c2, c3].drop 1).take (Try.prog.cellsOf 31)) = xs[1]? := hf 1 _ rfl
    rw [cI] at h0
    rw [cK] at h1
    obtain ⟨y0, e0⟩ := get_some (i := 0) hx (by decide)
    obtain ⟨y1, e1⟩ := get_some (i := 1) hx (by decide)
    obtain ⟨d, q0, _, _⟩ := DataW.trod_int Try.underlying3 (h0.trans e0)
    obtain ⟨u, s, k, q1, hu, hs, hk⟩ := keyCells_open (h1.trans e1)
    simp at q0 q1
    subst q0
    obtain ⟨rfl, rfl, rfl⟩ := q1
    exact ⟨⟨d, u, s, k⟩, rfl, hu, hs, hk⟩

set_option maxRecDepth 100000 in
theorem rdA_open {b0 : Nat} {m : Nat} {v : Value} {d : DataW H} {p : List MemPlace} (hok : Value.okWide Try.prog w .any b0 23 v) (hd : DataW.Trod enc Try.prog w m spare held 23 v d p) : ∃ es, RdA w v es := by
  obtain ⟨a, len, cap, rfl⟩ := okWide_slice Try.underlying23 hok
  obtain ⟨fuel, hf⟩ := hd
  rcases open_slice Try.underlying23 hf with ⟨hcs, _⟩ | ⟨x, l, c, q, n, D, Pl, hcs, _, hl, hm, hq, _, hcell⟩
  · simp [Value.cells] at hcs
    obtain ⟨rfl, rfl, rfl⟩ := hcs
    exact ⟨[], Rd.nil _ _, by simp⟩
  · simp [Value.cells] at hcs
    obtain ⟨rfl, rfl, rfl⟩ := hcs
    have cE : Try.prog.cellsOf 33 = 4 := by kernel_rfl
    rw [cE] at hcell
    have hlq : len ≤ q := by rw [hq]; split <;> omega
    have key : ∀ k, k ≤ len → ∃ es : List ActS, es.length = k ∧ (∀ e ∈ es, e.fits) ∧ ∀ i, i < k → w.cells? m (x.add (i * 4)) 4 = some (es.getD i ActS.none_).cells := by
      intro k
      induction k with
      | zero => exact fun _ => ⟨[], rfl, by simp, fun i hi => by omega⟩
      | succ k ih =>
        intro hk
        obtain ⟨es, h1, h2, h3⟩ := ih (by omega)
        obtain ⟨cs', hc, ht⟩ := hcell k (by omega)
        obtain ⟨e, rfl, he⟩ := actCells_open ht
        refine ⟨es ++ [e], by simp [h1], ?_, ?_⟩
        · intro e' he'
          rcases List.mem_append.1 he' with h | h
          · exact h2 e' h
          · have : e' = e := by simpa using h
            subst this; exact he
        · intro i hi
          rcases Nat.lt_or_ge i k with hik | hik
          · rw [h3 i hik]
            simp [List.getD, List.getElem?_append_left (by omega : i < es.length)]
          · have : i = k := by omega
            subst this
            rw [hc]
            simp [List.getD, h1]
    obtain ⟨es, h1, h2, h3⟩ := key len (Nat.le_refl _)
    refine ⟨es, ?_, h2⟩
    by_cases h0 : len = 0
    · subst h0
      have : es = [] := List.eq_nil_of_length_eq_zero h1
      subst this
      exact ⟨some x, cap, rfl, hl, hm, by simp, .inl ⟨rfl, fun h => by cases h⟩⟩
    · obtain ⟨b, off, spot⟩ := x
      obtain ⟨_, _, hat⟩ := World.cells?_some (h3 0 (by omega))
      have hc0 := hat 0 (by omega)
      have hspot : spot = none := by
        have : ∃ v, w.cell? (((⟨b, off, spot⟩ : Addr).add (0 * 4)).add 0) = some v := ⟨_, hc0⟩
        obtain ⟨v, hv⟩ := this
        simpa [Addr.add] using World.cell?_spot hv
      subst hspot
      have hadd : ∀ i, (⟨b, off, none⟩ : Addr).add i = ⟨b, off + i, none⟩ := by intro i; unfold Addr.add; split <;> simp_all
      have hadd2 : ∀ o i, (⟨b, o, none⟩ : Addr).add i = ⟨b, o + i, none⟩ := by intro o i; unfold Addr.add; split <;> simp_all
      have hlen : (es.flatMap ActS.cells).length = len * 4 := by
        rw [sflat_length, h1]
      refine ⟨some ⟨b, off, none⟩, cap, by rw [h1], by omega, hm, by rw [hlen, h1], .inr ⟨b, off, rfl, ?_, ?_⟩⟩
      · have : ∃ v, w.cell? ⟨b, off, none⟩ = some v := ⟨(es.getD 0 ActS.none_).cells[0], by rw [hadd, hadd2] at hc0; exact hc0⟩
        obtain ⟨v, hv⟩ := this
        exact World.block_lt_of_cell? w _ hv
      · intro j u hj
        have hj' : j < len * 4 := by
          rcases Nat.lt_or_ge j (len * 4) with h | h
          · exact h
          · rw [List.getElem?_eq_none (by omega)] at hj; cases hj
        have hd : j = j / 4 * 4 + j % 4 := by omega
        obtain ⟨_, _, hat⟩ := World.cells?_some (h3 (j / 4) (by omega))
        have := hat (j % 4) (by omega)
        rw [hadd, hadd2, Nat.add_assoc, ← hd] at this
        rw [this]
        rw [hd, sflat_at es (j / 4) (j % 4) (by omega) (by omega)] at hj
        exact hj
end
end Go.Proofs.Ytabmdhbikedhmaa
