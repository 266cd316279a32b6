import Derived.Test.YtfeogoihkpclcaaMg19

/-
  The document's disk in memory: what a call may write of it.
-/
namespace Go.Proofs.Ytfeogoihkpclcaa
open Go.RowKit

/-- One block more that has a role. -/
def cl (o : Nat → DR) (b : Option Nat) (r : DR) : Nat → DR := fun k => if b = some k then r else o k

/-- Roles that there are stay. -/
def DExt (o o' : Nat → DR) : Prop := ∀ k, o k ≠ .out → o' k = o k

theorem DExt.at_ {o o' : Nat → DR} (h : DExt o o') {k : Nat} {r : DR} (e : o k = r) (hr : r ≠ .out) : o' k = r := by rw [h k (by rw [e]; exact hr), e]

theorem cl_ext {o : Nat → DR} {n : Nat} {b : Option Nat} {r : DR} (hlt : ∀ k, o k ≠ .out → k < n) (hb : ∀ k, b = some k → o k = r ∨ n ≤ k) : DExt o (cl o b r) := by
  intro k hk
  unfold cl
  split
  · rename_i e
    rcases hb k e with h | h
    · exact h.symm
    · have := hlt k hk; omega
  · rfl

theorem cl_own {o : Nat → DR} {b : Option Nat} {r : DR} (k : Nat) (h : b = some k) : cl o b r k = r := by unfold cl; rw [if_pos h]

theorem cl_lt {o : Nat → DR} {n : Nat} {b : Option Nat} {r : DR} (hlt : ∀ k, o k ≠ .out → k < n) (hb : ∀ k, b = some k → k < n) : ∀ k, cl o b r k ≠ .out → k < n := by
  intro k hk
  unfold cl at hk
  split at hk
  · rename_i e; exact hb k e
  · exact hlt k hk

theorem cl_grows {o : Nat → DR} {w w' : World} {b : Option Nat} {r : DR} (hr : r ≠ .out) (hb : ∀ k, b = some k → o k = r ∨ (w.heap.size ≤ k ∧ k < w'.heap.size)) : Grows (DF_ o) (DF_ (cl o b r)) w w' := by
  intro k hk
  unfold DF_ cl at hk
  split at hk
  · rename_i e
    rcases hb k e with h | h
    · exact .inl (by unfold DF_; rw [h]; exact hr)
    · exact .inr h
  · exact .inl hk

/-- What lies apart from the disk's cells and from one block more. -/
theorem away {o : Nat → DR} {n q : Nat} {E : Option Nat} {rE r : DR} (hlt : ∀ k, o k ≠ .out → k < n) (hq : o q = .disk) (hE : ∀ k, E = some k → o k = rE) {k : Nat} (e : o k = r) (h0 : r ≠ .out) (h1 : r ≠ .disk) (h2 : r ≠ rE) : k < n ∧ k ≠ q ∧ E ≠ some k :=
  ⟨hlt k (by rw [e]; exact h0), fun ep => h1 (by rw [← e, ep, hq]), fun ep => h2 (by rw [← e, hE k ep])⟩

theorem DocAt.ext {o o' : Nat → DR} {v : DV} {gs : List GD} {w : World} {q : Nat} {m : DM} (h : DocAt o v gs w q m) (he : DExt o o') (hlt : ∀ k, o' k ≠ .out → k < w.heap.size) : DocAt o' v gs w q m where
  blk := h.blk
  rol := he.at_ h.rol (by simp)
  fls := h.fls
  row := h.row
  orow k e := he.at_ (h.orow k e) (by simp)
  each i g hg := by
    have x := h.each i g hg
    exact ⟨x.blk, he.at_ x.rol (by simp), x.safe, fun k e => he.at_ (x.os k e) (by simp), x.row, fun k e => he.at_ (x.orow k e) (by simp), x.each, fun y hy k e => he.at_ (x.oe y hy k e) (by simp)⟩
  now := h.now
  onow k e := he.at_ (h.onow k e) (by simp)
  old := h.old
  oold k e := he.at_ (h.oold k e) (by simp)
  chg := h.chg
  ochg k e := he.at_ (h.ochg k e) (by simp)
  keep := h.keep
  lt := hlt

theorem touch_away {o : Nat → DR} {w w' : World} {q : Nat} {E : Option Nat} {rE : DR} (hq : o q = .disk) (hE : ∀ k, E = some k → o k = rE) (hr : rE ≠ .out) (hk : Kept (fun k => k < w.heap.size ∧ k ≠ q ∧ E ≠ some k) w w') : Touch (DF_ o) w w' :=
  Kept.mono hk fun k hk' => ⟨hk'.1, fun e => by subst e; exact hk'.2 (by unfold DF_; rw [hq]; decide), fun e => hk'.2 (by unfold DF_; rw [hE k e]; exact hr)⟩

section
variable {o : Nat → DR} {v : DV} {gs : List GD} {w w' : World} {q : Nat} {m : DM}

/-- The loose changes are written, and the disk's cells. -/
theorem DocAt.set_loose (h : DocAt o v gs w q m) {lv' : Value} {l' : List DC} (hk : Kept (fun k => k < w.heap.size ∧ k ≠ q ∧ v.lv.ownBlock ≠ some k) w w')
    (hb : w'.heap[q]? = some (.cells (docCells { v with lv := lv' } m) 56 (0, 0))) (hrow : w'.ownsRow 0 101 3 lv' l'.length (dcCells l'))
    (hat : ∀ k, lv'.ownBlock = some k → v.lv.ownBlock = some k ∨ (w.heap.size ≤ k ∧ k < w'.heap.size)) : DocAt (cl o lv'.ownBlock .loose) { v with lv := lv' } gs w' q { m with loose := l' } ∧ Touch (DF_ o) w w' ∧ Grows (DF_ o) (DF_ (cl o lv'.ownBlock .loose)) w w' := by
  have hat' : ∀ k, lv'.ownBlock = some k → o k = .loose ∨ (w.heap.size ≤ k ∧ k < w'.heap.size) := fun k e => (hat k e).imp (h.ochg k) id
  have he : DExt o (cl o lv'.ownBlock .loose) := cl_ext h.lt fun k e => (hat' k e).imp id fun h => h.1
  have hlt : ∀ k, o k ≠ .out → k < w'.heap.size := fun k e => Nat.lt_of_lt_of_le (h.lt k e) hk.size
  have aw : ∀ {k : Nat} {r : DR}, o k = r → r ≠ .out → r ≠ .disk → r ≠ .loose → k < w.heap.size ∧ k ≠ q ∧ v.lv.ownBlock ≠ some k := fun e h0 h1 h2 => away h.lt h.rol h.ochg e h0 h1 h2
  have h1 : DocAt o { v with lv := lv' } gs w' q { m with loose := l' } ∨ True := .inr trivial
  clear h1
  refine ⟨?_, touch_away h.rol h.ochg (by simp) hk, cl_grows (by simp) hat'⟩
  refine ⟨hb, he.at_ h.rol (by simp), h.fls, own_kept h.row hk fun k e => aw (h.orow k e) (by simp) (by simp) (by simp), fun k e => he.at_ (h.orow k e) (by simp), fun i g hg => ?_, rd_kept_any h.now hk fun _ k e => aw (h.onow k e) (by simp) (by simp) (by simp), fun k e => he.at_ (h.onow k e) (by simp),
    rd_kept_any h.old hk fun _ k e => aw (h.oold k e) (by simp) (by simp) (by simp), fun k e => he.at_ (h.oold k e) (by simp), hrow, fun k e => cl_own k e, h.keep, cl_lt hlt fun k e => own_lt hrow k e⟩
  have x := (h.each i g hg).kept hk fun k e => by rcases e with e | e | e <;> exact aw e (by simp) (by simp) (by simp)
  exact ⟨x.blk, he.at_ x.rol (by simp), x.safe, fun k e => he.at_ (x.os k e) (by simp), x.row, fun k e => he.at_ (x.orow k e) (by simp), x.each, fun y hy k e => he.at_ (x.oe y hy k e) (by simp)⟩

/-- The names are told anew: a row that is new, or was one of the disk's data. -/
theorem DocAt.set_now (h : DocAt o v gs w q m) {nv' : Value} {l' : DB} (hk : Kept (fun k => k < w.heap.size ∧ k ≠ q) w w')
    (hb : w'.heap[q]? = some (.cells (docCells { v with nv := nv' } m) 56 (0, 0))) (hrd : Rd w' 2 nv' l'.length (bCells l'))
    (hat : ∀ k, nv'.ownBlock = some k → o k = .data ∨ (w.heap.size ≤ k ∧ k < w'.heap.size)) : DocAt (cl o nv'.ownBlock .data) { v with nv := nv' } gs w' q { m with now := l' } ∧ Touch (DF_ o) w w' ∧ Grows (DF_ o) (DF_ (cl o nv'.ownBlock .data)) w w' := by
  have he : DExt o (cl o nv'.ownBlock .data) := cl_ext h.lt fun k e => (hat k e).imp id fun h => h.1
  have hlt : ∀ k, o k ≠ .out → k < w'.heap.size := fun k e => Nat.lt_of_lt_of_le (h.lt k e) hk.size
  have aw : ∀ {k : Nat} {r : DR}, o k = r → r ≠ .out → r ≠ .disk → k < w.heap.size ∧ k ≠ q := fun e h0 h1 => ⟨h.lt _ (by rw [e]; exact h0), fun ep => h1 (by rw [← e, ep, h.rol])⟩
  have hb' : ∀ k, nv'.ownBlock = some k → k < w'.heap.size := fun k e => by
    rcases hat k e with h1 | h1
    · exact hlt k (by rw [h1]; simp)
    · exact h1.2
  refine ⟨?_, doc_touch h.rol hk, cl_grows (by simp) hat⟩
  refine ⟨hb, he.at_ h.rol (by simp), h.fls, own_kept h.row hk fun k e => aw (h.orow k e) (by simp) (by simp), fun k e => he.at_ (h.orow k e) (by simp), fun i g hg => ?_, hrd, fun k e => cl_own k e,
    rd_kept_any h.old hk fun _ k e => aw (h.oold k e) (by simp) (by simp), fun k e => he.at_ (h.oold k e) (by simp), own_kept h.chg hk fun k e => aw (h.ochg k e) (by simp) (by simp), fun k e => he.at_ (h.ochg k e) (by simp), h.keep, cl_lt hlt hb'⟩
  have x := (h.each i g hg).kept hk fun k e => by rcases e with e | e | e <;> exact aw e (by simp) (by simp)
  exact ⟨x.blk, he.at_ x.rol (by simp), x.safe, fun k e => he.at_ (x.os k e) (by simp), x.row, fun k e => he.at_ (x.orow k e) (by simp), x.each, fun y hy k e => he.at_ (x.oe y hy k e) (by simp)⟩

/-- The safe names likewise. -/
theorem DocAt.set_old (h : DocAt o v gs w q m) {ov' : Value} {l' : DB} (hk : Kept (fun k => k < w.heap.size ∧ k ≠ q) w w')
    (hb : w'.heap[q]? = some (.cells (docCells { v with ov := ov' } m) 56 (0, 0))) (hrd : Rd w' 2 ov' l'.length (bCells l'))
    (hat : ∀ k, ov'.ownBlock = some k → o k = .data ∨ (w.heap.size ≤ k ∧ k < w'.heap.size)) : DocAt (cl o ov'.ownBlock .data) { v with ov := ov' } gs w' q { m with old := l' } ∧ Touch (DF_ o) w w' ∧ Grows (DF_ o) (DF_ (cl o ov'.ownBlock .data)) w w' := by
  have he : DExt o (cl o ov'.ownBlock .data) := cl_ext h.lt fun k e => (hat k e).imp id fun h => h.1
  have hlt : ∀ k, o k ≠ .out → k < w'.heap.size := fun k e => Nat.lt_of_lt_of_le (h.lt k e) hk.size
  have aw : ∀ {k : Nat} {r : DR}, o k = r → r ≠ .out → r ≠ .disk → k < w.heap.size ∧ k ≠ q := fun e h0 h1 => ⟨h.lt _ (by rw [e]; exact h0), fun ep => h1 (by rw [← e, ep, h.rol])⟩
  have hb' : ∀ k, ov'.ownBlock = some k → k < w'.heap.size := fun k e => by
    rcases hat k e with h1 | h1
    · exact hlt k (by rw [h1]; simp)
    · exact h1.2
  refine ⟨?_, doc_touch h.rol hk, cl_grows (by simp) hat⟩
  refine ⟨hb, he.at_ h.rol (by simp), h.fls, own_kept h.row hk fun k e => aw (h.orow k e) (by simp) (by simp), fun k e => he.at_ (h.orow k e) (by simp), fun i g hg => ?_, rd_kept_any h.now hk fun _ k e => aw (h.onow k e) (by simp) (by simp), fun k e => he.at_ (h.onow k e) (by simp), hrd, fun k e => cl_own k e,
    own_kept h.chg hk fun k e => aw (h.ochg k e) (by simp) (by simp), fun k e => he.at_ (h.ochg k e) (by simp), h.keep, cl_lt hlt hb'⟩
  have x := (h.each i g hg).kept hk fun k e => by rcases e with e | e | e <;> exact aw e (by simp) (by simp)
  exact ⟨x.blk, he.at_ x.rol (by simp), x.safe, fun k e => he.at_ (x.os k e) (by simp), x.row, fun k e => he.at_ (x.orow k e) (by simp), x.each, fun y hy k e => he.at_ (x.oe y hy k e) (by simp)⟩

/-- The loose changes have gone. -/
theorem DocAt.no_loose (h : DocAt o v gs w q m) (hk : Kept (fun k => k < w.heap.size ∧ k ≠ q) w w')
    (hb : w'.heap[q]? = some (.cells (docCells { v with lv := .slice none 0 0 } m) 56 (0, 0))) : DocAt o { v with lv := .slice none 0 0 } gs w' q { m with loose := [] } := by
  have aw : ∀ {k : Nat} {r : DR}, o k = r → r ≠ .out → r ≠ .disk → k < w.heap.size ∧ k ≠ q := fun e h0 h1 => ⟨h.lt _ (by rw [e]; exact h0), fun ep => h1 (by rw [← e, ep, h.rol])⟩
  exact ⟨hb, h.rol, h.fls, own_kept h.row hk fun k e => aw (h.orow k e) (by simp) (by simp), h.orow, fun i g hg => (h.each i g hg).kept hk fun k e => by rcases e with e | e | e <;> exact aw e (by simp) (by simp),
    rd_kept_any h.now hk fun _ k e => aw (h.onow k e) (by simp) (by simp), h.onow, rd_kept_any h.old hk fun _ k e => aw (h.oold k e) (by simp) (by simp), h.oold, World.ownsRow_nil _ _ _ _, fun k e => (nomatch e), h.keep, fun k e => Nat.lt_of_lt_of_le (h.lt k e) hk.size⟩

/-- A file's cells, and one row of its own, are written. -/
theorem DocAt.set_file (h : DocAt o v gs w q m) {i : Nat} {g g' : GD} (hg : gs[i]? = some g) (hfp : g'.fp = g.fp) (hk : Kept (fun k => k < w.heap.size ∧ k ≠ g.fp ∧ g.pv.ownBlock ≠ some k) w w')
    (hb : w'.heap[g.fp]? = some (.cells #[g'.sv, g'.pv] 98 (0, 0))) (hsafe : RdB w' g'.sv g'.safe) (hrow : w'.ownsRow 0 105 2 g'.pv g'.ps.length (pwCells g'.ps)) (heach : ∀ x ∈ g'.ps, RdB w' x.2.2 x.2.1)
    {o' : Nat → DR} (he : DExt o o') (hlt : ∀ k, o' k ≠ .out → k < w'.heap.size) (hos : ∀ k, g'.sv.ownBlock = some k → o' k = .data) (hor : ∀ k, g'.pv.ownBlock = some k → o' k = .puts i) (hoe : ∀ x ∈ g'.ps, ∀ k, x.2.2.ownBlock = some k → o' k = .data)
    {m' : DM} (hm : m' = { m with files := m.files.set i g'.df }) : DocAt o' v (gs.set i g') w' q m' ∧ Touch (DF_ o) w w' := by
  have x := h.each i g hg
  have hq : q ≠ g.fp := fun e => by have := h.rol; rw [e, x.rol] at this; cases this
  have aw : ∀ {k : Nat} {r : DR}, o k = r → r ≠ .out → r ≠ .file i → r ≠ .puts i → k < w.heap.size ∧ k ≠ g.fp ∧ g.pv.ownBlock ≠ some k :=
    fun e h0 h1 h2 => ⟨h.lt _ (by rw [e]; exact h0), fun ep => h1 (by rw [← e, ep, x.rol]), fun ep => h2 (by rw [← e, x.orow _ ep])⟩
  have hi : i < gs.length := (List.getElem?_eq_some_iff.1 hg).1
  have hfc : fpCells (gs.set i g') = fpCells gs := by
    unfold fpCells
    rw [List.map_set, hfp]
    refine List.ext_getElem? fun j => ?_
    rw [List.getElem?_set]
    by_cases e : i = j
    · subst e
      rw [if_pos rfl, if_pos (by simpa using hi), List.getElem?_map, hg]
      rfl
    · rw [if_neg e]
  refine ⟨?_, Kept.mono hk fun k hk' => ⟨hk'.1, fun e => by subst e; exact hk'.2 (by unfold DF_; rw [x.rol]; simp), fun e => hk'.2 (by unfold DF_; rw [x.orow k e]; simp)⟩⟩
  subst hm
  refine ⟨(hk.block q (aw h.rol (by simp) (by simp) (by simp))).trans h.blk, he.at_ h.rol (by simp), ?_, ?_, fun k e => he.at_ (h.orow k e) (by simp), fun j y hy => ?_, rd_kept_any h.now hk fun _ k e => aw (h.onow k e) (by simp) (by simp) (by simp), fun k e => he.at_ (h.onow k e) (by simp),
    rd_kept_any h.old hk fun _ k e => aw (h.oold k e) (by simp) (by simp) (by simp), fun k e => he.at_ (h.oold k e) (by simp), own_kept h.chg hk fun k e => aw (h.ochg k e) (by simp) (by simp) (by simp), fun k e => he.at_ (h.ochg k e) (by simp), h.keep, hlt⟩
  · show m.files.set i g'.df = (gs.set i g').map GD.df
    rw [h.fls, List.map_set]
  · rw [List.length_set, hfc]
    exact own_kept h.row hk fun k e => aw (h.orow k e) (by simp) (by simp) (by simp)
  · rw [List.getElem?_set] at hy
    by_cases e : i = j
    · subst e
      rw [if_pos rfl, if_pos hi] at hy
      cases hy
      exact ⟨by rw [hfp]; exact hb, by rw [hfp]; exact he.at_ x.rol (by simp), hsafe, hos, hrow, hor, heach, hoe⟩
    · rw [if_neg e] at hy
      have y1 := (h.each j y hy).kept hk fun k e' => by rcases e' with e' | e' | e' <;> exact aw e' (by simp) (by simp [Ne.symm e]) (by simp [Ne.symm e])
      exact ⟨y1.blk, he.at_ y1.rol (by simp), y1.safe, fun k e => he.at_ (y1.os k e) (by simp), y1.row, fun k e => he.at_ (y1.orow k e) (by simp), y1.each, fun z hz k e => he.at_ (y1.oe z hz k e) (by simp)⟩

/-- A new file. -/
theorem DocAt.add_file (h : DocAt o v gs w q m) {fv' : Value} {fp : Nat} (hk : Kept (fun k => k < w.heap.size ∧ k ≠ q ∧ v.fv.ownBlock ≠ some k) w w')
    (hb : w'.heap[q]? = some (.cells (docCells { v with fv := fv' } m) 56 (0, 0))) (hrow : w'.ownsRow 0 85 1 fv' (gs.length + 1) (fpCells gs ++ [.pointer (some ⟨fp, 0, none⟩)]))
    (hf : w'.heap[fp]? = some (.cells #[.slice none 0 0, .slice none 0 0] 98 (0, 0))) (hfp : w.heap.size ≤ fp)
    (hat : ∀ k, fv'.ownBlock = some k → v.fv.ownBlock = some k ∨ (w.heap.size ≤ k ∧ k < w'.heap.size ∧ k ≠ fp)) : ∃ o', DocAt o' { v with fv := fv' } (gs ++ [⟨fp, .slice none 0 0, .slice none 0 0, [], []⟩]) w' q { m with files := m.files ++ [DF.none_] } ∧ Touch (DF_ o) w w' ∧ Grows (DF_ o) (DF_ o') w w' := by
  have hat' : ∀ k, fv'.ownBlock = some k → o k = .files ∨ (w.heap.size ≤ k ∧ k < w'.heap.size) := fun k e => (hat k e).imp (h.orow k) fun h => ⟨h.1, h.2.1⟩
  have hne : fv'.ownBlock ≠ some fp := fun e => by
    rcases hat fp e with h1 | h1
    · have := h.lt fp (by rw [h.orow fp h1]; simp); omega
    · exact h1.2.2 rfl
  have he1 : DExt o (cl o fv'.ownBlock .files) := cl_ext h.lt fun k e => (hat' k e).imp id fun h => h.1
  have hlt : ∀ k, o k ≠ .out → k < w'.heap.size := fun k e => Nat.lt_of_lt_of_le (h.lt k e) hk.size
  have hlt1 := cl_lt (r := .files) hlt fun k (e : fv'.ownBlock = some k) => own_lt hrow k e
  have he2 : DExt o (cl (cl o fv'.ownBlock .files) (some fp) (.file gs.length)) := fun k hk => by
    have h1 := h.lt k hk
    unfold cl
    rw [if_neg (fun e => by cases e; omega)]
    exact he1 k hk
  have aw : ∀ {k : Nat} {r : DR}, o k = r → r ≠ .out → r ≠ .disk → r ≠ .files → k < w.heap.size ∧ k ≠ q ∧ v.fv.ownBlock ≠ some k := fun e h0 h1 h2 => away h.lt h.rol h.orow e h0 h1 h2
  refine ⟨cl (cl o fv'.ownBlock .files) (some fp) (.file gs.length), ?_, touch_away h.rol h.orow (by simp) hk, ?_⟩
  · refine ⟨hb, he2.at_ h.rol (by simp), ?_, ?_, fun k e => ?_, fun j y hy => ?_, rd_kept_any h.now hk fun _ k e => aw (h.onow k e) (by simp) (by simp) (by simp), fun k e => he2.at_ (h.onow k e) (by simp),
      rd_kept_any h.old hk fun _ k e => aw (h.oold k e) (by simp) (by simp) (by simp), fun k e => he2.at_ (h.oold k e) (by simp), own_kept h.chg hk fun k e => aw (h.ochg k e) (by simp) (by simp) (by simp), fun k e => he2.at_ (h.ochg k e) (by simp), h.keep, cl_lt hlt1 fun k e => by cases e; exact blk_lt hf⟩
    · show m.files ++ [DF.none_] = (gs ++ [_]).map GD.df
      rw [h.fls, List.map_append]
      rfl
    · rw [List.length_append]
      unfold fpCells
      rw [List.map_append]
      exact hrow
    · show cl _ _ _ k = _
      have : k ≠ fp := fun ek => hne (by rw [← ek]; exact e)
      unfold cl
      rw [if_neg (fun e => by cases e; exact this rfl), if_pos e]
    · rcases Nat.lt_or_ge j gs.length with hj | hj
      · rw [List.getElem?_append_left hj] at hy
        have y1 := (h.each j y hy).kept hk fun k e' => by rcases e' with e' | e' | e' <;> exact aw e' (by simp) (by simp) (by simp)
        exact ⟨y1.blk, he2.at_ y1.rol (by simp), y1.safe, fun k e => he2.at_ (y1.os k e) (by simp), y1.row, fun k e => he2.at_ (y1.orow k e) (by simp), y1.each, fun z hz k e => he2.at_ (y1.oe z hz k e) (by simp)⟩
      · rw [List.getElem?_append_right hj] at hy
        obtain ⟨hj0, _⟩ := List.getElem?_eq_some_iff.1 hy
        have hz : j = gs.length := by simp at hj0; omega
        subst hz
        rw [Nat.sub_self] at hy
        cases hy
        exact ⟨hf, cl_own _ rfl, Rd.nil _ _, fun k e => (nomatch e), World.ownsRow_nil _ _ _ _, fun k e => (nomatch e), fun x hx => (nomatch hx), fun x hx => (nomatch hx)⟩
  · intro k hk'
    unfold DF_ cl at hk'
    split at hk'
    · rename_i e
      cases e
      exact .inr ⟨hfp, blk_lt hf⟩
    · exact cl_grows (by simp) hat' k hk'
end
end Go.Proofs.Ytfeogoihkpclcaa

/-
  The document's disk: a change of names.
-/
namespace Go.Proofs.Ytfeogoihkpclcaa
open Go.RowKit

theorem info_dchg : (Try.prog.info? 101).map (fun i => (i.zero, i.size, i.bytes)) = some (some (.agg #[.string ⟨#[]⟩, .string ⟨#[]⟩, .int .i64 0]), 3, 40) := by kernel_rfl
theorem dc_one (l : List DC) : ∀ u ∈ dcCells l, u.oneCell' = true := by
  intro u hu
  unfold dcCells at hu
  obtain ⟨p, _, hp⟩ := List.mem_flatMap.1 hu
  simp only [List.mem_cons, List.not_mem_nil, or_false] at hp
  rcases hp with rfl | rfl | rfl <;> rfl

/-- What is asked of the sizes of a document's disk. -/
structure DSm (m : DM) : Prop where
  c0 : 0 ≤ m.calls
  cl : m.calls < 1000000
  now : m.now.length < 100000
  old : m.old.length < 100000
  loose : m.loose.length < 100000
  ids : ∀ x ∈ m.now, x.2 < 100000
  oids : ∀ x ∈ m.old, x.2 < 100000
  fls : m.files.length < 100000

set_option maxRecDepth 100000 in
set_option maxHeartbeats 8000000 in
set_option linter.unusedSimpArgs false in
theorem dchange_yes {o : Nat → DR} {v : DV} {gs : List GD} {w : World} {q : Nat} {m : DM} (h : DocAt o v gs w q m) (hsm : DSm m) (hd : m.down = false) (c : DC) (hcid : c.id < 100000) (his : m.is = true) :
    Calls Try.prog 63 #[.pointer (some ⟨q, 0, none⟩), .agg #[.string (strB c.src), .string (strB c.dst), .int .i64 (c.id : Int)]] w fun e w' => e = .returned (.int .i64 (m.err : Int)) ∧ DocTo o w w' q { m.counted with loose := m.loose ++ [c], now := dchanged m.now c } := by
  obtain ⟨B, hB⟩ : ∃ B, B = w.heap.size := ⟨_, rfl⟩
  obtain ⟨wb, hwb⟩ : ∃ wb, wb = w.alloc (.cells #[.string (strB c.src), .string (strB c.dst), .int .i64 (c.id : Int)] 101) := ⟨_, rfl⟩
  have hbb : Below w.heap.size w wb := by rw [hwb]; exact (Below.refl _ _).alloc (Nat.le_refl _) _
  have hxb : wb.heap[B]? = some (.cells #[.string (strB c.src), .string (strB c.dst), .int .i64 (c.id : Int)] 101 (0, 0)) := by rw [hwb, hB]; exact heap_alloc_new w _
  have hab := h.below hbb
  have hqB : q < B := by rw [hB]; exact h.lt q (by rw [h.rol]; simp)
  have HCO := Lib.hid (dcount_any wb q m hab hsm.c0 (by have := hsm.cl; omega) hd)
  have HH := Lib.hid h
  have HSM := Lib.hid hsm
  have HWB := Lib.hid hwb
  have HBB := Lib.hid hbb
  have HXB := Lib.hid hxb
  have HBE := Lib.hid hB
  have HIS := Lib.hid his
  have hll := hsm.loose
  have hsz : wb.heap.size = B + 1 := by rw [hwb, hB]; simp
  have HSZ := Lib.hid hsz
  clear hwb hbb hxb hab hsm hd h hB his hsz
  go_enter Try.func63, Try.ntmps63
  go_wp2_with fail
  rw [← HWB.out]
  refine HCO.out.mono ?_
  rw [HIS.out]
  rintro e w0 ⟨rfl, hd0, hk0⟩
  obtain ⟨mc, hmc⟩ : ∃ mc, mc = m.counted := ⟨_, rfl⟩
  have hml : mc.loose = m.loose := by rw [hmc]; rfl
  have hmn : mc.now = m.now := by rw [hmc]; rfl
  rw [← hmc] at hd0
  obtain ⟨w1, hw1⟩ : ∃ w1, w1 = w0.drew := ⟨_, rfl⟩
  have h1 : w1.heap[q]? = some (.cells (docCells v mc) 56 (0, 0)) := by rw [hw1]; exact hd0.blk
  have hx : w1.heap[B]? = some (.cells #[.string (strB c.src), .string (strB c.dst), .int .i64 (c.id : Int)] 101 (0, 0)) := by rw [hw1]; exact (hk0.block B ⟨blk_lt HXB.out, by omega⟩).trans HXB.out
  have hD : DocAt o v gs w1 q mc := by rw [hw1]; exact hd0.below ((Below.refl _ _).drew)
  have hkw : Kept (fun k => k < w.heap.size ∧ k ≠ q) w w1 := by
    rw [hw1]
    exact ((Kept.of HBB.out (R := fun k => k < w.heap.size ∧ k ≠ q) fun _ h => h.1).trans (hk0.mono fun k hk => ⟨Nat.lt_of_lt_of_le hk.1 HBB.out.size, hk.2⟩)).drew
  have hlp : v.lv.ownBlock ≠ some q := fun e => by have := hD.ochg q e; rw [hD.rol] at this; cases this
  have hlB : v.lv.ownBlock ≠ some B := fun e => by have := HH.out.lt B (by rw [HH.out.ochg B e]; simp); have := HBE.out; omega
  have hs1 : B < w1.heap.size := blk_lt hx
  rw [← hml] at hll
  obtain ⟨la, lcap, hlv, _, _⟩ := rd_of_own hD.chg
  have Hlv := Lib.hid hlv
  have HW1 := Lib.hid hw1
  have H1 := Lib.hid h1
  have HX := Lib.hid hx
  have HD := Lib.hid hD
  have HKW := Lib.hid hkw
  have HMC := Lib.hid hmc
  have HML := Lib.hid hml
  have HMN := Lib.hid hmn
  clear hw1 h1 hx hD hkw hlv hd0 hk0 hmc hml hmn
  go_wp2
  refine wp_region_two (fun wz => wz.heap[q]? = some (.cells (docCells v mc) 56 (0, 0)) ∧ wz.heap[B]? = some (.cells #[.string (strB c.src), .string (strB c.dst), .int .i64 (c.id : Int)] 101 (0, 0))) (fun _ => True) [(0, 0), (0, 1), (0, 2), (0, 3), (0, 4), (0, 5), (2, 6), (2, 7), (0, 8), (0, 9), (3, 10)] [10] (by kernel_rfl) (by kernel_rfl) (by kernel_rfl) (by kernel_rfl) (by kernel_rfl) (by rw [← HW1.out]; exact ⟨H1.out, HX.out⟩) trivial ?_
  simp only [planT, List.drop_succ_cons, List.drop_zero]
  rw [← HW1.out]
  refine PlanT.take0 (v := ?vA0) (by kernel_rfl) ?yA0 ?rA0
  case yA0 => (intro wz hz; obtain ⟨z1, z2⟩ := hz; have q3 : wz.cell? ⟨q, 3, none⟩ = some v.lv := blk_cell z1; have b0 : wz.cell? ⟨w.heap.size, 0, none⟩ = some (.string (strB c.src)) := (by rw [← HBE.out]; exact blk_cell z2); have b1 : wz.cell? ⟨w.heap.size, 1, none⟩ = some (.string (strB c.dst)) := (by rw [← HBE.out]; exact blk_cell z2); have b2 : wz.cell? ⟨w.heap.size, 2, none⟩ = some (.int .i64 (c.id : Int)) := (by rw [← HBE.out]; exact blk_cell z2); clear z1 z2; go_simp; try with_reducible rfl)
  (try simp only [Act.put, List.setIfInBounds_toArray, List.set_cons_zero, List.set_cons_succ])
  refine PlanT.take0 (v := ?vA1) (by kernel_rfl) ?yA1 ?rA1
  case yA1 => (intro wz hz; obtain ⟨z1, z2⟩ := hz; have q3 : wz.cell? ⟨q, 3, none⟩ = some v.lv := blk_cell z1; have b0 : wz.cell? ⟨w.heap.size, 0, none⟩ = some (.string (strB c.src)) := (by rw [← HBE.out]; exact blk_cell z2); have b1 : wz.cell? ⟨w.heap.size, 1, none⟩ = some (.string (strB c.dst)) := (by rw [← HBE.out]; exact blk_cell z2); have b2 : wz.cell? ⟨w.heap.size, 2, none⟩ = some (.int .i64 (c.id : Int)) := (by rw [← HBE.out]; exact blk_cell z2); clear z1 z2; go_simp; try with_reducible rfl)
  (try simp only [Act.put, List.setIfInBounds_toArray, List.set_cons_zero, List.set_cons_succ])
  refine PlanT.take0 (v := ?vA2) (by kernel_rfl) ?yA2 ?rA2
  case yA2 => (intro wz hz; obtain ⟨z1, z2⟩ := hz; have q3 : wz.cell? ⟨q, 3, none⟩ = some v.lv := blk_cell z1; have b0 : wz.cell? ⟨w.heap.size, 0, none⟩ = some (.string (strB c.src)) := (by rw [← HBE.out]; exact blk_cell z2); have b1 : wz.cell? ⟨w.heap.size, 1, none⟩ = some (.string (strB c.dst)) := (by rw [← HBE.out]; exact blk_cell z2); have b2 : wz.cell? ⟨w.heap.size, 2, none⟩ = some (.int .i64 (c.id : Int)) := (by rw [← HBE.out]; exact blk_cell z2); clear z1 z2; go_simp; try with_reducible rfl)
  (try simp only [Act.put, List.setIfInBounds_toArray, List.set_cons_zero, List.set_cons_succ])
  refine PlanT.take0 (v := ?vA3) (by kernel_rfl) ?yA3 ?rA3
  case yA3 => (intro wz hz; obtain ⟨z1, z2⟩ := hz; have q3 : wz.cell? ⟨q, 3, none⟩ = some v.lv := blk_cell z1; have b0 : wz.cell? ⟨w.heap.size, 0, none⟩ = some (.string (strB c.src)) := (by rw [← HBE.out]; exact blk_cell z2); have b1 : wz.cell? ⟨w.heap.size, 1, none⟩ = some (.string (strB c.dst)) := (by rw [← HBE.out]; exact blk_cell z2); have b2 : wz.cell? ⟨w.heap.size, 2, none⟩ = some (.int .i64 (c.id : Int)) := (by rw [← HBE.out]; exact blk_cell z2); clear z1 z2; go_simp; try with_reducible rfl)
  (try simp only [Act.put, List.setIfInBounds_toArray, List.set_cons_zero, List.set_cons_succ])
  refine PlanT.take0 (v := ?vA4) (by kernel_rfl) ?yA4 ?rA4
  case yA4 => (intro wz hz; obtain ⟨z1, z2⟩ := hz; have q3 : wz.cell? ⟨q, 3, none⟩ = some v.lv := blk_cell z1; have b0 : wz.cell? ⟨w.heap.size, 0, none⟩ = some (.string (strB c.src)) := (by rw [← HBE.out]; exact blk_cell z2); have b1 : wz.cell? ⟨w.heap.size, 1, none⟩ = some (.string (strB c.dst)) := (by rw [← HBE.out]; exact blk_cell z2); have b2 : wz.cell? ⟨w.heap.size, 2, none⟩ = some (.int .i64 (c.id : Int)) := (by rw [← HBE.out]; exact blk_cell z2); clear z1 z2; go_simp; try with_reducible rfl)
  (try simp only [Act.put, List.setIfInBounds_toArray, List.set_cons_zero, List.set_cons_succ])
  refine PlanT.take0 (v := ?vA5) (by kernel_rfl) ?yA5 ?rA5
  case yA5 => (intro wz hz; obtain ⟨z1, z2⟩ := hz; have q3 : wz.cell? ⟨q, 3, none⟩ = some v.lv := blk_cell z1; have b0 : wz.cell? ⟨w.heap.size, 0, none⟩ = some (.string (strB c.src)) := (by rw [← HBE.out]; exact blk_cell z2); have b1 : wz.cell? ⟨w.heap.size, 1, none⟩ = some (.string (strB c.dst)) := (by rw [← HBE.out]; exact blk_cell z2); have b2 : wz.cell? ⟨w.heap.size, 2, none⟩ = some (.int .i64 (c.id : Int)) := (by rw [← HBE.out]; exact blk_cell z2); clear z1 z2; go_simp; try with_reducible rfl)
  (try simp only [Act.put, List.setIfInBounds_toArray, List.set_cons_zero, List.set_cons_succ])
  refine PlanT.exec2 (fun K hK => ⟨by kernel_rfl, ?_⟩)
  go_simp
  have hs2 : (w1.alloc (.cells #[.string (strB c.src), .string (strB c.dst), .int .i64 (c.id : Int)] 101)).heap.size = w1.heap.size + 1 := by simp
  have hb2 := (Below.heap_alloc w1 (.cells #[.string (strB c.src), .string (strB c.dst), .int .i64 (c.id : Int)] 101) q (blk_lt H1.out)).trans H1.out
  have hx2 := (Below.heap_alloc w1 (.cells #[.string (strB c.src), .string (strB c.dst), .int .i64 (c.id : Int)] 101) B (blk_lt HX.out)).trans HX.out
  have HS2 := Lib.hid hs2
  clear hs2
  refine hK.out _ _ ⟨hb2, hx2⟩ trivial ?_
  clear hK K
  (try simp only [Act.put, List.setIfInBounds_toArray, List.set_cons_zero, List.set_cons_succ])
  refine PlanT.exec2 (fun K hK => ⟨by kernel_rfl, ?_⟩)
  refine wp_append_at (.tmp 17) (.tmp 19) 54 rfl 101 3 40 (.agg #[.string ⟨#[]⟩, .string ⟨#[]⟩, .int .i64 0]) Try.underlying54 info_dchg rfl (by decide) v.lv _ mc.loose.length 1 (dcCells mc.loose) (dcCells [c]) rfl rfl ?own ?rd (dc_one _) (by omega) (by unfold maxLen; omega) ?_
  case own => exact own_kept HD.out.chg (R := fun k => k < w1.heap.size) (Kept.of ((Below.refl _ _).alloc (Nat.le_refl _) _) fun _ h => h) fun k e => own_lt HD.out.chg k e
  case rd => exact ⟨_, 1, rfl, Nat.le_refl _, by unfold maxLen; omega, rfl, .inr ⟨w1.heap.size, 0, rfl, by simp, fun j u hj => by rw [blk_cell (heap_alloc_new w1 _)]; simpa [dcCells] using hj⟩⟩
  intro v2 w2 ho2 hm2
  obtain ⟨av2, cv2, hv2, _, _⟩ := rd_of_own ho2
  subst hv2
  have hb3 := (hm2.grown.block q (by have := blk_lt H1.out; simp; omega) (fun e => hlp e.symm)).trans hb2
  have hx3 := (hm2.grown.block B (by have := blk_lt HX.out; simp; omega) (fun e => hlB e.symm)).trans hx2
  have c8 : w2.cell? ⟨q, 3, none⟩ = some v.lv := blk_cell hb3
  have f8 : w2.frozen? ⟨q, 3, none⟩ = false := blk_free hb3
  have HM2 := Lib.hid hm2
  have HO2 := Lib.hid ho2
  have HB3 := Lib.hid hb3
  have HX3 := Lib.hid hx3
  have HB2 := Lib.hid hb2
  have HX2 := Lib.hid hx2
  clear hm2 ho2 hb3 hx3 hb2 hx2
  refine hK.out _ _ ⟨HB3.out, HX3.out⟩ trivial ?_
  clear hK K
  (try simp only [Act.put, List.setIfInBounds_toArray, List.set_cons_zero, List.set_cons_succ])
  refine PlanT.take0 (v := ?vA8) (by kernel_rfl) ?yA8 ?rA8
  case yA8 => (intro wz hz; obtain ⟨z1, z2⟩ := hz; have q3 : wz.cell? ⟨q, 3, none⟩ = some v.lv := blk_cell z1; have b0 : wz.cell? ⟨w.heap.size, 0, none⟩ = some (.string (strB c.src)) := (by rw [← HBE.out]; exact blk_cell z2); have b1 : wz.cell? ⟨w.heap.size, 1, none⟩ = some (.string (strB c.dst)) := (by rw [← HBE.out]; exact blk_cell z2); have b2 : wz.cell? ⟨w.heap.size, 2, none⟩ = some (.int .i64 (c.id : Int)) := (by rw [← HBE.out]; exact blk_cell z2); clear z1 z2; go_simp; try with_reducible rfl)
  (try simp only [Act.put, List.setIfInBounds_toArray, List.set_cons_zero, List.set_cons_succ])
  refine PlanT.take0 (v := ?vA9) (by kernel_rfl) ?yA9 ?rA9
  case yA9 => (intro wz hz; obtain ⟨z1, z2⟩ := hz; have q3 : wz.cell? ⟨q, 3, none⟩ = some v.lv := blk_cell z1; have b0 : wz.cell? ⟨w.heap.size, 0, none⟩ = some (.string (strB c.src)) := (by rw [← HBE.out]; exact blk_cell z2); have b1 : wz.cell? ⟨w.heap.size, 1, none⟩ = some (.string (strB c.dst)) := (by rw [← HBE.out]; exact blk_cell z2); have b2 : wz.cell? ⟨w.heap.size, 2, none⟩ = some (.int .i64 (c.id : Int)) := (by rw [← HBE.out]; exact blk_cell z2); clear z1 z2; go_simp; try with_reducible rfl)
  (try simp only [Act.put, List.setIfInBounds_toArray, List.set_cons_zero, List.set_cons_succ])
  refine PlanT.exec3 (fun K hK => ⟨by kernel_rfl, ?_⟩)
  go_simp
  refine hK.out _ _ trivial ?_
  clear hK K
  (try simp only [Act.put, List.setIfInBounds_toArray, List.set_cons_zero, List.set_cons_succ])
  refine PlanT.done (NoPanic.normal ?_)
  obtain ⟨w3, hw3⟩ : ∃ w3, w3 = w2.setCell ⟨q, 3, none⟩ (.slice av2 (mc.loose.length + 1) cv2) := ⟨_, rfl⟩
  rw [← hw3]
  have hb4 : w3.heap[q]? = some (.cells (docCells { v with lv := .slice av2 (mc.loose.length + 1) cv2 } mc) 56 (0, 0)) := by
    rw [hw3]
    exact (blk_set (i := 3) HB3.out _).trans (by simp [docCells])
  have hx4 : w3.heap[B]? = some (.cells #[.string (strB c.src), .string (strB c.dst), .int .i64 (c.id : Int)] 101 (0, 0)) := by
    rw [hw3]
    exact (Below.heap_setCell _ _ _ _ (by show B ≠ q; omega)).trans HX3.out
  have hm4 : Moves w1 w2 v.lv (.slice av2 (mc.loose.length + 1) cv2) := Moves.after ((Below.refl _ _).alloc (Nat.le_refl _) _) HM2.out
  have hk4 : Kept (fun k => k < w1.heap.size ∧ k ≠ q ∧ v.lv.ownBlock ≠ some k) w1 w3 := by
    rw [hw3]
    exact (hm4.kept fun k hk => ⟨hk.1, hk.2.2⟩).setCell (fun h => h.2.1 rfl) _
  have hs4 : w3.heap.size = w2.heap.size := by rw [hw3]; simp [World.setCell]
  have ho4 : w3.ownsRow 0 101 3 (.slice av2 (mc.loose.length + 1) cv2) (mc.loose ++ [c]).length (dcCells (mc.loose ++ [c])) := by
    have e1 : dcCells (mc.loose ++ [c]) = dcCells mc.loose ++ dcCells [c] := by simp [dcCells]
    rw [e1, List.length_append, hw3]
    refine own_kept HO2.out (R := fun k => k ≠ q) ((Kept.refl _ w2).setCell (fun h => h rfl) _) fun k e ep => ?_
    subst ep
    rcases hm4.at_ k e with h | h
    · exact hlp h
    · have := blk_lt H1.out; omega
  obtain ⟨hDa, hTa, hGa⟩ := HD.out.set_loose hk4 hb4 ho4 (fun k e => by rw [hs4]; exact hm4.at_ k e)
  obtain ⟨o4, ho4e⟩ : ∃ o4, o4 = cl o (Value.slice av2 (mc.loose.length + 1) cv2).ownBlock .loose := ⟨_, rfl⟩
  rw [← ho4e] at hDa hGa
  obtain ⟨v4, hv4⟩ : ∃ v4, v4 = { v with lv := .slice av2 (mc.loose.length + 1) cv2 } := ⟨_, rfl⟩
  obtain ⟨m4, hm4e⟩ : ∃ m4 : DM, m4 = { mc with loose := mc.loose ++ [c] } := ⟨_, rfl⟩
  rw [← hv4, ← hm4e] at hDa
  have hnow4 : m4.now = m.now := by rw [hm4e]; exact HMN.out
  have hn4 : v4.nv = v.nv := by rw [hv4]
  obtain ⟨w4, hw4⟩ : ∃ w4, w4 = w3.drew := ⟨_, rfl⟩
  have hD4 : DocAt o4 v4 gs w4 q m4 := by rw [hw4]; exact hDa.below (Below.refl _ _).drew
  have hx5 : w4.heap[B]? = some (.cells #[.string (strB c.src), .string (strB c.dst), .int .i64 (c.id : Int)] 101 (0, 0)) := by rw [hw4]; exact hx4
  have HTA := Lib.hid (show Touch (DF_ o) w1 w4 by rw [hw4]; exact Kept.drew hTa)
  have HGA := Lib.hid (show Grows (DF_ o) (DF_ o4) w1 w4 by rw [hw4]; exact hGa)
  have hids : ∀ x ∈ m4.now, x.2 < 1000000000 := fun x hx => by rw [hnow4] at hx; have := HSM.out.ids x hx; omega
  have HCH := Lib.hid (dchanged_any w4 v4.nv m4.now c (by rw [hnow4]; have := HSM.out.now; omega) (by omega) hids hD4.now)
  have H4 := Lib.hid hD4.blk
  have HX4 := Lib.hid hx5
  have HD4 := Lib.hid hD4
  have HW4 := Lib.hid hw4
  have HM4E := Lib.hid hm4e
  have HNOW := Lib.hid hnow4
  obtain ⟨pa, pc, hpv, _, _⟩ := hD4.now
  have HPV := Lib.hid hpv
  clear hDa hTa hGa ho4 hs4 hk4 hm4 hx4 hb4 hw3 c8 f8 hD4 hx5 hw4 hm4e hnow4 hids ho4e hv4 hn4 hpv
  go_wp2
  refine wp_region_two (fun wz => wz.heap[q]? = some (.cells (docCells v4 m4) 56 (0, 0)) ∧ wz.heap[B]? = some (.cells #[.string (strB c.src), .string (strB c.dst), .int .i64 (c.id : Int)] 101 (0, 0))) (fun _ => True) [(0, 0), (0, 1), (0, 2), (0, 3), (0, 4), (0, 5), (2, 6), (0, 7), (0, 8), (3, 9)] [9] (by kernel_rfl) (by kernel_rfl) (by kernel_rfl) (by kernel_rfl) (by kernel_rfl) (by rw [← HW4.out]; exact ⟨H4.out, HX4.out⟩) trivial ?_
  simp only [planT, List.drop_succ_cons, List.drop_zero]
  rw [← HW4.out]
  refine PlanT.take0 (v := ?vB0) (by kernel_rfl) ?yB0 ?rB0
  case yB0 => (intro wz hz; obtain ⟨z1, z2⟩ := hz; have q1 : wz.cell? ⟨q, 1, none⟩ = some v4.nv := blk_cell z1; have b0 : wz.cell? ⟨w.heap.size, 0, none⟩ = some (.string (strB c.src)) := (by rw [← HBE.out]; exact blk_cell z2); have b1 : wz.cell? ⟨w.heap.size, 1, none⟩ = some (.string (strB c.dst)) := (by rw [← HBE.out]; exact blk_cell z2); have b2 : wz.cell? ⟨w.heap.size, 2, none⟩ = some (.int .i64 (c.id : Int)) := (by rw [← HBE.out]; exact blk_cell z2); clear z1 z2; go_simp; try with_reducible rfl)
  (try simp only [Act.put, List.setIfInBounds_toArray, List.set_cons_zero, List.set_cons_succ])
  refine PlanT.take0 (v := ?vB1) (by kernel_rfl) ?yB1 ?rB1
  case yB1 => (intro wz hz; obtain ⟨z1, z2⟩ := hz; have q1 : wz.cell? ⟨q, 1, none⟩ = some v4.nv := blk_cell z1; have b0 : wz.cell? ⟨w.heap.size, 0, none⟩ = some (.string (strB c.src)) := (by rw [← HBE.out]; exact blk_cell z2); have b1 : wz.cell? ⟨w.heap.size, 1, none⟩ = some (.string (strB c.dst)) := (by rw [← HBE.out]; exact blk_cell z2); have b2 : wz.cell? ⟨w.heap.size, 2, none⟩ = some (.int .i64 (c.id : Int)) := (by rw [← HBE.out]; exact blk_cell z2); clear z1 z2; go_simp; try with_reducible rfl)
  (try simp only [Act.put, List.setIfInBounds_toArray, List.set_cons_zero, List.set_cons_succ])
  refine PlanT.take0 (v := ?vB2) (by kernel_rfl) ?yB2 ?rB2
  case yB2 => (intro wz hz; obtain ⟨z1, z2⟩ := hz; have q1 : wz.cell? ⟨q, 1, none⟩ = some v4.nv := blk_cell z1; have b0 : wz.cell? ⟨w.heap.size, 0, none⟩ = some (.string (strB c.src)) := (by rw [← HBE.out]; exact blk_cell z2); have b1 : wz.cell? ⟨w.heap.size, 1, none⟩ = some (.string (strB c.dst)) := (by rw [← HBE.out]; exact blk_cell z2); have b2 : wz.cell? ⟨w.heap.size, 2, none⟩ = some (.int .i64 (c.id : Int)) := (by rw [← HBE.out]; exact blk_cell z2); clear z1 z2; go_simp; try with_reducible rfl)
  (try simp only [Act.put, List.setIfInBounds_toArray, List.set_cons_zero, List.set_cons_succ])
  refine PlanT.take0 (v := ?vB3) (by kernel_rfl) ?yB3 ?rB3
  case yB3 => (intro wz hz; obtain ⟨z1, z2⟩ := hz; have q1 : wz.cell? ⟨q, 1, none⟩ = some v4.nv := blk_cell z1; have b0 : wz.cell? ⟨w.heap.size, 0, none⟩ = some (.string (strB c.src)) := (by rw [← HBE.out]; exact blk_cell z2); have b1 : wz.cell? ⟨w.heap.size, 1, none⟩ = some (.string (strB c.dst)) := (by rw [← HBE.out]; exact blk_cell z2); have b2 : wz.cell? ⟨w.heap.size, 2, none⟩ = some (.int .i64 (c.id : Int)) := (by rw [← HBE.out]; exact blk_cell z2); clear z1 z2; go_simp; try with_reducible rfl)
  (try simp only [Act.put, List.setIfInBounds_toArray, List.set_cons_zero, List.set_cons_succ])
  refine PlanT.take0 (v := ?vB4) (by kernel_rfl) ?yB4 ?rB4
  case yB4 => (intro wz hz; obtain ⟨z1, z2⟩ := hz; have q1 : wz.cell? ⟨q, 1, none⟩ = some v4.nv := blk_cell z1; have b0 : wz.cell? ⟨w.heap.size, 0, none⟩ = some (.string (strB c.src)) := (by rw [← HBE.out]; exact blk_cell z2); have b1 : wz.cell? ⟨w.heap.size, 1, none⟩ = some (.string (strB c.dst)) := (by rw [← HBE.out]; exact blk_cell z2); have b2 : wz.cell? ⟨w.heap.size, 2, none⟩ = some (.int .i64 (c.id : Int)) := (by rw [← HBE.out]; exact blk_cell z2); clear z1 z2; go_simp; try with_reducible rfl)
  (try simp only [Act.put, List.setIfInBounds_toArray, List.set_cons_zero, List.set_cons_succ])
  refine PlanT.take0 (v := ?vB5) (by kernel_rfl) ?yB5 ?rB5
  case yB5 => (intro wz hz; obtain ⟨z1, z2⟩ := hz; have q1 : wz.cell? ⟨q, 1, none⟩ = some v4.nv := blk_cell z1; have b0 : wz.cell? ⟨w.heap.size, 0, none⟩ = some (.string (strB c.src)) := (by rw [← HBE.out]; exact blk_cell z2); have b1 : wz.cell? ⟨w.heap.size, 1, none⟩ = some (.string (strB c.dst)) := (by rw [← HBE.out]; exact blk_cell z2); have b2 : wz.cell? ⟨w.heap.size, 2, none⟩ = some (.int .i64 (c.id : Int)) := (by rw [← HBE.out]; exact blk_cell z2); clear z1 z2; go_simp; try with_reducible rfl)
  (try simp only [Act.put, List.setIfInBounds_toArray, List.set_cons_zero, List.set_cons_succ])
  refine PlanT.exec2 (fun K hK => ⟨by kernel_rfl, ?_⟩)
  go_simp
  go_at_call 70
  refine HCH.out.mono ?_
  rintro e w5 ⟨nv5, rfl, hbo5⟩
  have hrd5 := hbo5.1
  obtain ⟨na5, nc5, hnv5, _, _⟩ := hrd5
  subst hnv5
  have HBO := Lib.hid hbo5
  have hb5 := (hbo5.2.1.block q (blk_lt H4.out)).trans H4.out
  have hx5 := (hbo5.2.1.block B (blk_lt HX4.out)).trans HX4.out
  have c1 : w5.cell? ⟨q, 1, none⟩ = some v4.nv := blk_cell hb5
  have f1 : w5.frozen? ⟨q, 1, none⟩ = false := blk_free hb5
  have HB5 := Lib.hid hb5
  have HX5 := Lib.hid hx5
  clear hbo5 hb5 hx5
  go_wp2_with fail
  refine hK.out _ _ ⟨HB5.out, HX5.out⟩ trivial ?_
  clear hK K
  (try simp only [Act.put, List.setIfInBounds_toArray, List.set_cons_zero, List.set_cons_succ])
  refine PlanT.take0 (v := ?vB7) (by kernel_rfl) ?yB7 ?rB7
  case yB7 => (intro wz hz; obtain ⟨z1, z2⟩ := hz; have q1 : wz.cell? ⟨q, 1, none⟩ = some v4.nv := blk_cell z1; have b0 : wz.cell? ⟨w.heap.size, 0, none⟩ = some (.string (strB c.src)) := (by rw [← HBE.out]; exact blk_cell z2); have b1 : wz.cell? ⟨w.heap.size, 1, none⟩ = some (.string (strB c.dst)) := (by rw [← HBE.out]; exact blk_cell z2); have b2 : wz.cell? ⟨w.heap.size, 2, none⟩ = some (.int .i64 (c.id : Int)) := (by rw [← HBE.out]; exact blk_cell z2); clear z1 z2; go_simp; try with_reducible rfl)
  (try simp only [Act.put, List.setIfInBounds_toArray, List.set_cons_zero, List.set_cons_succ])
  refine PlanT.take0 (v := ?vB8) (by kernel_rfl) ?yB8 ?rB8
  case yB8 => (intro wz hz; obtain ⟨z1, z2⟩ := hz; have q1 : wz.cell? ⟨q, 1, none⟩ = some v4.nv := blk_cell z1; have b0 : wz.cell? ⟨w.heap.size, 0, none⟩ = some (.string (strB c.src)) := (by rw [← HBE.out]; exact blk_cell z2); have b1 : wz.cell? ⟨w.heap.size, 1, none⟩ = some (.string (strB c.dst)) := (by rw [← HBE.out]; exact blk_cell z2); have b2 : wz.cell? ⟨w.heap.size, 2, none⟩ = some (.int .i64 (c.id : Int)) := (by rw [← HBE.out]; exact blk_cell z2); clear z1 z2; go_simp; try with_reducible rfl)
  (try simp only [Act.put, List.setIfInBounds_toArray, List.set_cons_zero, List.set_cons_succ])
  refine PlanT.exec3 (fun K hK => ⟨by kernel_rfl, ?_⟩)
  go_simp
  refine hK.out _ _ trivial ?_
  clear hK K
  (try simp only [Act.put, List.setIfInBounds_toArray, List.set_cons_zero, List.set_cons_succ])
  refine PlanT.done (NoPanic.normal ?_)
  obtain ⟨w6, hw6⟩ : ∃ w6, w6 = w5.setCell ⟨q, 1, none⟩ (.slice na5 (dchanged m4.now c).length nc5) := ⟨_, rfl⟩
  rw [← hw6]
  have hb6 : w6.heap[q]? = some (.cells (docCells { v4 with nv := .slice na5 (dchanged m4.now c).length nc5 } m4) 56 (0, 0)) := by
    rw [hw6]
    exact (blk_set (i := 1) HB5.out _).trans (by simp [docCells])
  have hk6 : Kept (fun k => k < w4.heap.size ∧ k ≠ q) w4 w6 := by
    rw [hw6]
    exact (Kept.of HBO.out.2.1 fun _ h => h.1).setCell (fun h => h.2 rfl) _
  have hs6 : w6.heap.size = w5.heap.size := by rw [hw6]; simp [World.setCell]
  have hrd6 : Rd w6 2 (.slice na5 (dchanged m4.now c).length nc5) (dchanged m4.now c).length (bCells (dchanged m4.now c)) := by
    rw [hw6]
    refine HBO.out.1.kept (R := fun k => k ≠ q) ((Kept.refl _ w5).setCell (fun h => h rfl) _) fun k e ep => ?_
    subst ep
    rcases HBO.out.2.2 k e with h | h
    · have := blk_lt H4.out; omega
    · have := HD4.out.onow k h; rw [HD4.out.rol] at this; cases this
  have hat6 : ∀ k, (Value.slice na5 (dchanged m4.now c).length nc5).ownBlock = some k → o4 k = .data ∨ (w4.heap.size ≤ k ∧ k < w6.heap.size) := fun k e => by
    rcases HBO.out.2.2 k e with h | h
    · exact .inr ⟨h.1, by rw [hs6]; exact h.2⟩
    · exact .inl (HD4.out.onow k h)
  obtain ⟨hDz, hTz, hGz⟩ := HD4.out.set_now hk6 hb6 hrd6 hat6
  have HDZ := Lib.hid hDz
  have HTZ := Lib.hid hTz
  have HGZ := Lib.hid hGz
  clear hDz hTz hGz hat6 hrd6 hs6 hk6 hb6 hw6 c1 f1
  go_wp2
  go_ret
  have ht := (doc_touch HH.out.rol HKW.out).trans (HTA.out.trans HTZ.out HGA.out) (Grows.refl _ _ _)
  have hg := (Grows.refl (DF_ o) w w1).trans (HGA.out.trans HGZ.out HTA.out.size HTZ.out.size) HKW.out.size (Nat.le_trans HTA.out.size HTZ.out.size)
  have hz := HDZ.out
  rw [HM4E.out, HMC.out] at hz hg
  exact ⟨rfl, _, _, _, hz, ht, hg⟩
end Go.Proofs.Ytfeogoihkpclcaa
