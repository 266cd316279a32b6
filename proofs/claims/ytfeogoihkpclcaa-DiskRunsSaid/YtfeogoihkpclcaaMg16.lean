import Derived.Test.YtfeogoihkpclcaaMg15
import Derived.Deep.Cut

/-
  The program's disk and the document's as plain data: Make, Write, Safe, Move, Gone.
-/
namespace Go.Proofs.Ytfeogoihkpclcaa

section
variable {d : PD} {m : DM} {k : Nat} {s : Nat → Nat}

def PD.chg (d : PD) (c : PC) : PD := { d with names := ren d.names c, loose := d.loose ++ [c] }
def DM.chg (m : DM) (c : DC) : DM := { m with loose := m.loose ++ [c], now := dchanged m.now c }

theorem redone_old {c : PC} {j : Nat} (hj : j ≤ d.loose.length) : ((d.chg c).redone j).names = (d.redone j).names := by
  show List.foldl ren d.safe ((d.loose ++ [c]).take j) = List.foldl ren d.safe (d.loose.take j)
  rw [List.take_append_of_le_length hj]
theorem redone_new (h : DInv d k) {c : PC} {j : Nat} (hj : d.loose.length < j) : ((d.chg c).redone j).names = ren d.names c := by
  show List.foldl ren d.safe ((d.loose ++ [c]).take j) = _
  rw [List.take_of_length_le (by simp; omega), List.foldl_append]
  have := h.cur
  show ren (List.foldl ren d.safe d.loose) c = _
  rw [show List.foldl ren d.safe d.loose = d.names by rw [← this]; show _ = List.foldl ren d.safe (d.loose.take d.loose.length); rw [List.take_length]]

theorem inv_change (h : DInv d k) {c : PC} (hc : COk c d.files.length) (hf : c.kind = 0 → ∀ x ∈ d.names, x.2 ≠ c.file) (hn : d.safe.length + d.loose.length + 1 ≤ k) : DInv (d.chg c) k := by
  refine ⟨h.files, h.calls, by show d.safe.length + (d.loose ++ [c]).length ≤ k; simp; omega, h.fb, fun c' hc' => ?_, fun j => ?_, ?_⟩
  · rcases List.mem_append.1 hc' with e | e
    · exact h.cok c' e
    · have : c' = c := by simpa using e
      rw [this]; exact hc
  · rcases Nat.lt_or_ge d.loose.length j with hj | hj
    · rw [redone_new h hj]
      exact h.nok.ren hc hf
    · rw [redone_old hj]
      exact h.pre j
  · show ((d.chg c).redone (d.loose ++ [c]).length).names = ren d.names c
    exact redone_new h (by simp)

theorem sim_change (h : Sim s d m) (hd : DInv d k) {c : PC} {n : Nat} (hc : COk c n) : Sim s (d.chg c) (m.chg (cv s c)) :=
  ⟨h.room, h.crash, h.done, h.calls, h.down, by show dchanged m.now (cv s c) = mp s (ren d.names c); rw [h.now]; exact cv_done s hd.nok.srt hc, h.old, by show m.loose ++ [cv s c] = (d.loose ++ [c]).map (cv s); rw [h.loose, List.map_append]; rfl, h.inj, h.lt, h.fls⟩

/-- The document's disk has a file more. -/
theorem sim_grow (h : Sim s d m) (x : DF) : Sim s d { m with files := m.files ++ [x] } :=
  ⟨h.room, h.crash, h.done, h.calls, h.down, h.now, h.old, h.loose, h.inj, fun i hi => by have := h.lt i hi; show s i < (m.files ++ [x]).length; simp; omega, fun i hi => by
    show (m.files ++ [x]).getD (s i) DF.none_ = _
    rw [List.getD_eq_getElem?_getD, List.getElem?_append_left (h.lt i hi), ← List.getD_eq_getElem?_getD]
    exact h.fls i hi⟩

theorem cv_congr {t : Nat → Nat} {l : List PC} {n : Nat} (hl : ∀ c ∈ l, COk c n) (h : ∀ i, i < n → s i = t i) : l.map (cv s) = l.map (cv t) := by
  refine List.map_congr_left fun c hc => ?_
  unfold cv
  by_cases h0 : c.kind = 0
  · rw [if_pos h0, if_pos h0, h _ ((hl c hc).made h0).2.2.1]
  · rw [if_neg h0, if_neg h0]

/-- Both have one. -/
theorem sim_add (h : Sim s d m) (hd : DInv d k) : Sim (fun i => if i = d.files.length then m.files.length else s i) { d with files := d.files ++ [PF.new] } { m with files := m.files ++ [DF.none_] } := by
  have hlt : ∀ i, i < d.files.length → (if i = d.files.length then m.files.length else s i) = s i := fun i hi => if_neg (by omega)
  have hm : ∀ {l : DB}, NOk l d.files.length → mp s l = mp (fun i => if i = d.files.length then m.files.length else s i) l := fun hl => mp_congr fun x hx => (hlt _ (hl.ids x hx)).symm
  refine ⟨h.room, h.crash, h.done, h.calls, h.down, ?_, ?_, ?_, fun i j hi hj e => ?_, fun i hi => ?_, fun i hi => ?_⟩
  · exact h.now.trans (hm hd.nok)
  · exact h.old.trans (hm (by have := hd.pre 0; exact this))
  · exact h.loose.trans (cv_congr hd.cok fun i hi => (hlt i hi).symm)
  · simp only [List.length_append, List.length_cons, List.length_nil] at hi hj
    by_cases h1 : i = d.files.length <;> by_cases h2 : j = d.files.length
    · omega
    · rw [if_pos h1, if_neg h2] at e
      have := h.lt j (by omega); omega
    · rw [if_neg h1, if_pos h2] at e
      have := h.lt i (by omega); omega
    · rw [if_neg h1, if_neg h2] at e
      exact h.inj i j (by omega) (by omega) e
  · simp only [List.length_append, List.length_cons, List.length_nil] at hi ⊢
    by_cases h1 : i = d.files.length
    · rw [if_pos h1]; omega
    · rw [if_neg h1]; have := h.lt i (by omega); omega
  · simp only [List.length_append, List.length_cons, List.length_nil] at hi
    by_cases h1 : i = d.files.length
    · rw [if_pos h1, h1]
      show (m.files ++ [DF.none_]).getD m.files.length DF.none_ = ⟨((d.files ++ [PF.new]).getD d.files.length PF.new).safe, ((d.files ++ [PF.new]).getD d.files.length PF.new).loose⟩
      simp [List.getD_eq_getElem?_getD]
      rfl
    · rw [if_neg h1]
      show (m.files ++ [DF.none_]).getD (s i) DF.none_ = ⟨((d.files ++ [PF.new]).getD i PF.new).safe, ((d.files ++ [PF.new]).getD i PF.new).loose⟩
      rw [List.getD_eq_getElem?_getD, List.getElem?_append_left (h.lt i (by omega)), List.getD_eq_getElem?_getD, List.getElem?_append_left (by omega), ← List.getD_eq_getElem?_getD, ← List.getD_eq_getElem?_getD]
      exact h.fls i (by omega)

theorem inv_add (h : DInv d k) (hk : d.files.length + 1 ≤ k) : DInv { d with files := d.files ++ [PF.new] } k := by
  have hl : (d.files ++ [PF.new]).length = d.files.length + 1 := by simp
  refine ⟨by show (d.files ++ [PF.new]).length ≤ k; omega, h.calls, h.names, fun f hf => ?_, fun c hc => ?_, fun j => ?_, h.cur⟩
  · rcases List.mem_append.1 hf with e | e
    · exact h.fb f e
    · have : f = PF.new := by simpa using e
      rw [this]; exact FB.new k
  · have hc' := h.cok c hc
    exact ⟨hc'.kind, fun e => by obtain ⟨m1, m2, m3, m4⟩ := hc'.made e; exact ⟨m1, m2, by show c.file < (d.files ++ [PF.new]).length; omega, m4⟩, hc'.moved, hc'.gone⟩
  · exact (h.pre j).mono (by show _ ≤ (d.files ++ [PF.new]).length; omega)

theorem nm_parts {n : List UInt8} (h : nmOk n = true) : n ≠ [] ∧ n.length ≤ 40 := by
  unfold nmOk at h
  simp at h
  refine ⟨fun e => ?_, h.2⟩
  rw [e] at h
  simp at h

theorem alike_make (h : Alike d m k) (n : List UInt8) : (m.make n).1 = (d.make n).1 ∧ Alike (d.make n).2 (m.make n).2 (k + 1) := by
  obtain ⟨hd, s, hs⟩ := h
  unfold DM.make PD.make
  by_cases h1 : d.down = true
  · rw [if_pos (hs.down.trans h1), if_pos h1]
    exact ⟨rfl, inv_mono hd (by omega), s, hs⟩
  rw [if_neg (fun e => h1 (hs.down.symm.trans e)), if_neg h1, hs.find]
  by_cases h2 : (!nmOk n) = true
  · rw [if_pos h2, if_pos h2]
    exact ⟨rfl, inv_mono hd (by omega), s, hs⟩
  rw [if_neg h2, if_neg h2, Option.isSome_map]
  by_cases h3 : (dfind d.names n).isSome = true
  · rw [if_pos h3, if_pos h3]
    exact ⟨rfl, inv_mono hd (by omega), s, hs⟩
  rw [if_neg h3, if_neg h3]
  have hn := nm_parts (n := n) (by simpa using h2)
  unfold DM.change PD.after
  have e1 : ({ m with files := m.files ++ [DF.none_] } : DM).err = d.err := sim_err (sim_grow hs DF.none_)
  have e2 : ({ m with files := m.files ++ [DF.none_] } : DM).is = d.isdo := sim_is (sim_grow hs DF.none_)
  rw [e1, e2]
  refine ⟨rfl, ?_⟩
  by_cases h4 : d.isdo = true
  · rw [if_pos h4, if_pos h4]
    have hc0 := inv_counted hd
    have hs0 := sim_counted hs
    have hc1 := inv_add hc0 (by have := hd.files; show d.files.length + 1 ≤ k + 1; omega)
    have hs1 := sim_add hs0 hc0
    have hok : COk ⟨0, [], n, d.files.length⟩ ({ d.cnt with files := d.cnt.files ++ [PF.new] } : PD).files.length := ⟨by simp, fun _ => ⟨hn.1, hn.2, by show d.files.length < (d.files ++ [PF.new]).length; simp, rfl⟩, fun e => by simp at e, fun e => by simp at e⟩
    have hc2 := inv_change hc1 hok (fun _ x hx => by have := hd.nok.ids x hx; show x.2 ≠ d.files.length; omega) (by have := hd.names; show d.safe.length + d.loose.length + 1 ≤ k + 1; omega)
    have hs2 := sim_change hs1 hc1 hok
    have e3 : cv (fun i => if i = d.cnt.files.length then m.counted.files.length else s i) ⟨0, [], n, d.files.length⟩ = ⟨[], n, m.files.length⟩ := by
      unfold cv
      simp only [if_true]
      rw [if_pos (show d.files.length = d.cnt.files.length from rfl)]
      rfl
    rw [e3] at hs2
    exact ⟨hc2, _, hs2⟩
  · rw [if_neg h4, if_neg h4]
    exact ⟨inv_counted hd, s, sim_counted (sim_grow hs DF.none_)⟩

theorem alike_change (hd : DInv d k) (hs : Sim s d m) {c : PC} (hc : COk c d.files.length) (h0 : c.kind ≠ 0) : (m.change (cv s c)).1 = d.err ∧ Alike (d.after (·.chg c)) (m.change (cv s c)).2 (k + 1) := by
  unfold DM.change PD.after
  rw [sim_err hs, sim_is hs]
  refine ⟨rfl, ?_⟩
  by_cases h4 : d.isdo = true
  · rw [if_pos h4, if_pos h4]
    exact ⟨inv_change (inv_counted hd) hc (fun e => absurd e h0) (by have := hd.names; show d.safe.length + d.loose.length + 1 ≤ k + 1; omega), s, sim_change (sim_counted hs) (inv_counted hd) hc⟩
  · rw [if_neg h4, if_neg h4]
    exact ⟨inv_counted hd, s, sim_counted hs⟩

theorem alike_move (h : Alike d m k) (a b : List UInt8) : (m.move a b).1 = (d.move a b).1 ∧ Alike (d.move a b).2 (m.move a b).2 (k + 1) := by
  obtain ⟨hd, s, hs⟩ := h
  unfold DM.move PD.move
  rw [hs.down, hs.find]
  by_cases h1 : d.down = true
  · rw [if_pos h1, if_pos h1]
    exact ⟨rfl, inv_mono hd (by omega), s, hs⟩
  rw [if_neg h1, if_neg h1]
  by_cases h2 : (!nmOk b) = true
  · rw [if_pos h2, if_pos h2]
    exact ⟨rfl, inv_mono hd (by omega), s, hs⟩
  rw [if_neg h2, if_neg h2]
  cases hf : dfind d.names a with
  | none => exact ⟨rfl, inv_mono hd (by omega), s, hs⟩
  | some id =>
    have hn := nm_parts (n := b) (by simpa using h2)
    have ha := hd.nok.nms _ (dfind_in hf)
    exact alike_change hd hs (c := ⟨1, a, b, 0⟩) ⟨by simp, fun e => by simp at e, fun _ => ⟨ha.1, hn.1, hn.2, ha.2, rfl⟩, fun e => by simp at e⟩ (by simp)

theorem alike_gone (h : Alike d m k) (a : List UInt8) : (m.gone a).1 = (d.gone a).1 ∧ Alike (d.gone a).2 (m.gone a).2 (k + 1) := by
  obtain ⟨hd, s, hs⟩ := h
  unfold DM.gone PD.gone
  rw [hs.down, hs.find]
  by_cases h1 : d.down = true
  · rw [if_pos h1, if_pos h1]
    exact ⟨rfl, inv_mono hd (by omega), s, hs⟩
  rw [if_neg h1, if_neg h1]
  cases hf : dfind d.names a with
  | none => exact ⟨rfl, inv_mono hd (by omega), s, hs⟩
  | some id =>
    have ha := hd.nok.nms _ (dfind_in hf)
    exact alike_change hd hs (c := ⟨2, a, [], 0⟩) ⟨by simp, fun e => by simp at e, fun e => by simp at e, fun _ => ⟨ha.1, ha.2, rfl, rfl⟩⟩ (by simp)

theorem getD_set {α : Type} (l : List α) (i j : Nat) (a z : α) (hi : i < l.length) : (l.set i a).getD j z = if j = i then a else l.getD j z := by
  rw [List.getD_eq_getElem?_getD, List.getElem?_set]
  by_cases h : i = j
  · subst h; simp [hi]
  · rw [if_neg h, if_neg (fun e => h e.symm), ← List.getD_eq_getElem?_getD]

theorem sim_set (h : Sim s d m) {id : Nat} (hid : id < d.files.length) (f : PF) : Sim s { d with files := d.files.set id f } { m with files := m.files.set (s id) ⟨f.safe, f.loose⟩ } := by
  have hl : (d.files.set id f).length = d.files.length := List.length_set
  refine ⟨h.room, h.crash, h.done, h.calls, h.down, h.now, h.old, h.loose, fun i j hi hj e => h.inj i j (by rw [← hl]; exact hi) (by rw [← hl]; exact hj) e, fun i hi => by show s i < (m.files.set _ _).length; rw [List.length_set]; exact h.lt i (by rw [← hl]; exact hi), fun i hi => ?_⟩
  have hi' : i < d.files.length := by rw [← hl]; exact hi
  show (m.files.set (s id) ⟨f.safe, f.loose⟩).getD (s i) DF.none_ = ⟨((d.files.set id f).getD i PF.new).safe, ((d.files.set id f).getD i PF.new).loose⟩
  rw [getD_set _ _ _ _ _ (h.lt id hid), getD_set _ _ _ _ _ hid]
  by_cases e : i = id
  · subst e
    rw [if_pos rfl, if_pos rfl]
  · rw [if_neg (fun e' => e (h.inj i id hi' hid e')), if_neg e]
    exact h.fls i hi'

theorem inv_set (h : DInv d k) (id : Nat) {f : PF} (hf : FB f k) : DInv { d with files := d.files.set id f } k := by
  have hl : (d.files.set id f).length = d.files.length := List.length_set
  refine ⟨by show (d.files.set id f).length ≤ k; rw [hl]; exact h.files, h.calls, h.names, fun g hg => ?_, fun c hc => by show COk c (d.files.set id f).length; rw [hl]; exact h.cok c hc, fun j => by show NOk _ (d.files.set id f).length; rw [hl]; exact h.pre j, h.cur⟩
  rcases List.mem_or_eq_of_mem_set hg with e | e
  · exact h.fb g e
  · rw [e]; exact hf

theorem alike_write (h : Alike d m k) (n : List UInt8) (a : Int) (l : List UInt8) (hl : l.length ≤ 300) : (m.write n a l).1 = (d.write n a l).1 ∧ Alike (d.write n a l).2 (m.write n a l).2 (k + 1) := by
  obtain ⟨hd, s, hs⟩ := h
  have hsame : Alike d m (k + 1) := ⟨inv_mono hd (by omega), s, hs⟩
  unfold DM.write PD.write
  rw [hs.down, hs.find]
  by_cases h1 : d.down = true
  · rw [if_pos h1, if_pos h1]; exact ⟨rfl, hsame⟩
  rw [if_neg h1, if_neg h1]
  cases hf : dfind d.names n with
  | none => exact ⟨rfl, hsame⟩
  | some id =>
    have hid := hd.nok.ids _ (dfind_in hf)
    simp only [Option.map_some]
    rw [hs.all hd hid, sim_used hs hd, hs.room]
    by_cases h2 : a < 0 ∨ ((d.file id).now.length : Int) < a
    · rw [if_pos h2, if_pos h2]; exact ⟨rfl, hsame⟩
    rw [if_neg h2, if_neg h2]
    by_cases h3 : (1048576 : Int) < a + (l.length : Int)
    · rw [if_pos (show (1048576 : Int) - a < (l.length : Int) by omega), if_pos h3]; exact ⟨rfl, hsame⟩
    rw [if_neg (show ¬ (1048576 : Int) - a < (l.length : Int) by omega), if_neg h3]
    by_cases h4 : d.room < (d.used : Int) + max 0 (a + (l.length : Int) - ((d.file id).now.length : Int))
    · rw [if_pos h4, if_pos h4]; exact ⟨rfl, hsame⟩
    rw [if_neg h4, if_neg h4, sim_err hs, sim_is hs]
    refine ⟨rfl, ?_⟩
    unfold PD.after
    by_cases h5 : d.isdo = true
    · rw [if_pos h5, if_pos h5]
      have ha : a.toNat ≤ (d.file id).now.length := by
        have h2' := h2
        clear h3 h4
        omega
      have hw := (hd.fb _ (file_of hid)).wrote a.toNat l ha hl
      have e : ({ m.file (s id) with loose := (m.file (s id)).loose ++ [(a.toNat, l)] } : DF) = ⟨((d.file id).wrote a.toNat l).safe, ((d.file id).wrote a.toNat l).loose⟩ := by
        rw [hs.fls id hid]; rfl
      rw [e]
      exact ⟨inv_set (inv_counted hd) id hw, s, sim_set (sim_counted hs) hid _⟩
    · rw [if_neg h5, if_neg h5]
      exact ⟨inv_counted hd, s, sim_counted hs⟩

theorem alike_safe (h : Alike d m k) (n : List UInt8) : (m.safe n).1 = (d.makeSafe n).1 ∧ Alike (d.makeSafe n).2 (m.safe n).2 (k + 1) := by
  obtain ⟨hd, s, hs⟩ := h
  have hsame : Alike d m (k + 1) := ⟨inv_mono hd (by omega), s, hs⟩
  unfold DM.safe PD.makeSafe
  rw [hs.down, hs.find]
  by_cases h1 : d.down = true
  · rw [if_pos h1, if_pos h1]; exact ⟨rfl, hsame⟩
  rw [if_neg h1, if_neg h1]
  cases hf : dfind d.names n with
  | none => exact ⟨rfl, hsame⟩
  | some id =>
    have hid := hd.nok.ids _ (dfind_in hf)
    simp only [Option.map_some]
    rw [sim_err hs, sim_is hs]
    refine ⟨rfl, ?_⟩
    unfold PD.after
    by_cases h5 : d.isdo = true
    · rw [if_pos h5, if_pos h5]
      obtain ⟨hw, he⟩ := (hd.fb _ (file_of hid)).safed
      have e : (⟨(m.file (s id)).all, []⟩ : DF) = ⟨(d.file id).safed.safe, (d.file id).safed.loose⟩ := by
        rw [he, hs.fls id hid]; rfl
      rw [e]
      exact ⟨inv_set (inv_counted hd) id (hw.mono (Nat.le_succ _)), s, sim_set (sim_counted hs) hid _⟩
    · rw [if_neg h5, if_neg h5]
      exact ⟨inv_counted hd, s, sim_counted hs⟩
end
end Go.Proofs.Ytfeogoihkpclcaa

/-
  The program's disk and the document's as plain data: Names, Fall, New.
-/
namespace Go.Proofs.Ytfeogoihkpclcaa

section
variable {d : PD} {m : DM} {k : Nat} {s : Nat → Nat}

theorem numb_len (l : DB) : (numb l).length = l.length := by simp [numb]
theorem numb_at (l : DB) (i : Nat) : (numb l)[i]? = (l[i]?).map fun x => (x.1, i) := by
  unfold numb
  rw [List.getElem?_map, List.getElem?_zipIdx, Option.map_map]
  simp
  rfl
theorem numb_names (l : DB) : (numb l).map (·.1) = l.map (·.1) := by
  refine List.ext_getElem? fun i => ?_
  rw [List.getElem?_map, List.getElem?_map, numb_at, Option.map_map]
  rfl
theorem numb_ids (l : DB) : (numb l).map (·.2) = List.range l.length := by
  refine List.ext_getElem? fun i => ?_
  rw [List.getElem?_map, numb_at, Option.map_map]
  rcases Nat.lt_or_ge i l.length with h | h
  · rw [List.getElem?_eq_getElem h, List.getElem?_range h]
    rfl
  · rw [List.getElem?_eq_none h, List.getElem?_eq_none (by simpa using h)]
    rfl

theorem NOk.numb {l : DB} {n : Nat} (h : NOk l n) : NOk (numb l) l.length := by
  have hm : ∀ x ∈ Go.Proofs.Ytfeogoihkpclcaa.numb l, x.1 ∈ l.map (·.1) ∧ x.2 < l.length := fun x hx => by
    refine ⟨by rw [← numb_names]; exact List.mem_map.2 ⟨x, hx, rfl⟩, ?_⟩
    have : x.2 ∈ (Go.Proofs.Ytfeogoihkpclcaa.numb l).map (·.2) := List.mem_map.2 ⟨x, hx, rfl⟩
    rw [numb_ids] at this
    exact List.mem_range.1 this
  refine ⟨?_, by rw [numb_ids]; exact List.nodup_range, fun x hx => (hm x hx).2, fun x hx => ?_⟩
  · have h1 : (l.map (·.1)).Pairwise fun a b => bytesBefore a b = true := List.pairwise_map.2 h.srt
    rw [← numb_names] at h1
    exact List.pairwise_map.1 h1
  · obtain ⟨y, hy, e⟩ := List.mem_map.1 (hm x hx).1
    rw [← e]
    exact h.nms y hy

def idAt (l : DB) (i : Nat) : Nat := (l.getD i ([], 0)).2

theorem idAt_of {l : DB} {i : Nat} {x : List UInt8 × Nat} (h : l[i]? = some x) : idAt l i = x.2 := by
  unfold idAt
  rw [List.getD_eq_getElem?_getD, h]
  rfl
theorem idAt_lt {l : DB} {n i : Nat} (h : NOk l n) (hi : i < l.length) : idAt l i < n := by
  rw [idAt_of (List.getElem?_eq_getElem hi)]
  exact h.ids _ (List.getElem_mem hi)
theorem idAt_inj {l : DB} {n i j : Nat} (h : NOk l n) (hi : i < l.length) (hj : j < l.length) (e : idAt l i = idAt l j) : i = j := by
  rw [idAt_of (List.getElem?_eq_getElem hi), idAt_of (List.getElem?_eq_getElem hj)] at e
  have h1 : (l.map (·.2))[i]? = (l.map (·.2))[j]? := by
    rw [List.getElem?_map, List.getElem?_map, List.getElem?_eq_getElem hi, List.getElem?_eq_getElem hj]
    simp [e]
  exact (List.getElem?_inj (by simpa using hi) h.nod).1 h1

theorem settled_file (d : PD) {i : Nat} (hi : i < d.names.length) : d.settled.file i = d.file (idAt d.names i) := by
  unfold PD.settled
  show (d.names.map fun x => d.file x.2).getD i PF.new = _
  rw [List.getD_eq_getElem?_getD, List.getElem?_map, List.getElem?_eq_getElem hi, idAt_of (List.getElem?_eq_getElem hi)]
  rfl

theorem sim_settled (hn : NOk d.names d.files.length) (h1 : m.plan.room = d.room) (h2 : m.plan.crash = d.crash) (h3 : m.plan.done = d.done) (h4 : m.calls = (d.calls : Int)) (h5 : m.down = d.down) (h6 : m.now = mp s d.names)
    (hinj : ∀ i j, i < d.files.length → j < d.files.length → s i = s j → i = j) (hlt : ∀ i, i < d.files.length → s i < m.files.length) (hfls : ∀ i, i < d.files.length → m.file (s i) = ⟨(d.file i).safe, (d.file i).loose⟩) :
    Sim (fun i => s (idAt d.names i)) d.settled { m with old := m.now, loose := [] } := by
  have hfl : d.settled.files.length = d.names.length := by simp [PD.settled]
  have hnow : m.now = mp (fun i => s (idAt d.names i)) (numb d.names) := by
    rw [h6]
    unfold mp
    refine List.ext_getElem? fun i => ?_
    rw [List.getElem?_map, List.getElem?_map, numb_at, Option.map_map]
    cases hx : d.names[i]? with
    | none => rfl
    | some x =>
      simp only [Option.map_some, Function.comp]
      rw [idAt_of hx]
  refine ⟨h1, h2, h3, h4, h5, hnow, hnow, rfl, fun i j hi hj e => ?_, fun i hi => ?_, fun i hi => ?_⟩
  · rw [hfl] at hi hj
    exact idAt_inj hn hi hj (hinj _ _ (idAt_lt hn hi) (idAt_lt hn hj) e)
  · rw [hfl] at hi
    exact hlt _ (idAt_lt hn hi)
  · rw [hfl] at hi
    rw [settled_file d hi]
    exact hfls _ (idAt_lt hn hi)

theorem inv_settled (hn : NOk d.names d.files.length) (hf : ∀ f ∈ d.files, FB f k) (hc : d.calls ≤ k) (hl : d.names.length ≤ k) : DInv d.settled k := by
  have hfl : d.settled.files.length = d.names.length := by simp [PD.settled]
  have hpre : ∀ j, (d.settled.redone j).names = numb d.names := fun j => by simp [PD.settled, PD.redone]
  refine ⟨by rw [hfl]; exact hl, hc, by show (numb d.names).length + 0 ≤ k; rw [numb_len]; exact hl, fun f h => ?_, fun c h => (nomatch h), fun j => by rw [hpre, hfl]; exact hn.numb, hpre _⟩
  have h' : f ∈ d.names.map fun x => d.file x.2 := h
  obtain ⟨x, hx, rfl⟩ := List.mem_map.1 h'
  exact hf _ (file_of (hn.ids x hx))

theorem names_len (h : DInv d k) : d.names.length ≤ k := by
  rw [← h.cur]
  exact Nat.le_trans (redone_len d _) h.names

theorem alike_names (h : Alike d m k) : (m.names).1 = (d.nameSafe).1 ∧ Alike (d.nameSafe).2 (m.names).2 (k + 1) := by
  obtain ⟨hd, s, hs⟩ := h
  unfold DM.names PD.nameSafe
  by_cases h1 : d.down = true
  · rw [if_pos (hs.down.trans h1), if_pos h1]
    exact ⟨rfl, inv_mono hd (by omega), s, hs⟩
  rw [if_neg (fun e => h1 (hs.down.symm.trans e)), if_neg h1, sim_err hs, sim_is hs]
  refine ⟨rfl, ?_⟩
  unfold PD.after
  have hc := inv_counted hd
  have hsc := sim_counted hs
  by_cases h5 : d.isdo = true
  · rw [if_pos h5, if_pos h5]
    exact ⟨inv_settled hc.nok hc.fb hc.calls (names_len hc), _, sim_settled hc.nok hsc.room hsc.crash hsc.done hsc.calls hsc.down hsc.now hsc.inj hsc.lt hsc.fls⟩
  · rw [if_neg h5, if_neg h5]
    exact ⟨hc, s, hsc⟩

/-! ### Fall. -/

theorem redo_alike (h : Sim s d m) (hd : DInv d k) : ∀ j, j ≤ d.loose.length → (m.loose.take j).foldl dchanged m.old = mp s (d.redone j).names
  | 0, _ => h.old
  | j + 1, hj => by
    have ih := redo_alike h hd j (by omega)
    have hc : d.loose[j]? = some d.loose[j] := List.getElem?_eq_getElem (by omega)
    have hm : m.loose[j]? = some (cv s d.loose[j]) := by rw [h.loose, List.getElem?_map, hc]; rfl
    have hjm := (List.getElem?_eq_some_iff.1 hm).1
    rw [List.take_succ_eq_append_getElem hjm, List.foldl_append, ih, redone_succ hc]
    have hg : m.loose[j] = cv s d.loose[j] := by
      have := List.getElem?_eq_getElem hjm
      rw [hm] at this
      exact (Option.some.inj this).symm
    rw [hg]
    exact cv_done s (hd.pre j).srt (hd.cok _ (List.getElem_mem _))

/-- Files alike. -/
def FR_ (s : Nat → Nat) (n : Nat) (a : List PF) (b : List DF) : Prop := a.length = n ∧ (∀ i, i < n → s i < b.length) ∧ ∀ i, i < n → b.getD (s i) DF.none_ = ⟨(a.getD i PF.new).safe, (a.getD i PF.new).loose⟩

theorem fr_set {n id : Nat} {a : List PF} {b : List DF} (h : FR_ s n a b) (hinj : ∀ i j, i < n → j < n → s i = s j → i = j) (hid : id < n) (f : PF) : FR_ s n (a.set id f) (b.set (s id) ⟨f.safe, f.loose⟩) := by
  obtain ⟨h1, h2, h3⟩ := h
  refine ⟨by rw [List.length_set]; exact h1, fun i hi => by rw [List.length_set]; exact h2 i hi, fun i hi => ?_⟩
  rw [getD_set _ _ _ _ _ (h2 id hid), getD_set _ _ _ _ _ (by omega)]
  by_cases e : i = id
  · subst e
    rw [if_pos rfl, if_pos rfl]
  · rw [if_neg (fun e' => e (hinj i id hi hid e')), if_neg e]
    exact h3 i hi

theorem fallFiles_snoc (p : DP) : ∀ (l : DB) (i : Nat) (fs : List DF) (x : List UInt8 × Nat), fallFiles p (l ++ [x]) i fs = (fallFiles p l i fs).set x.2 (((fallFiles p l i fs).getD x.2 DF.none_).fallen (p.left (i + l.length) ((fallFiles p l i fs).getD x.2 DF.none_).many))
  | [], i, fs, x => by simp [fallFiles]
  | y :: r, i, fs, x => by
    show fallFiles p (r ++ [x]) (i + 1) _ = _
    rw [fallFiles_snoc p r (i + 1)]
    show _ = (fallFiles p r (i + 1) _).set x.2 _
    rw [show i + (y :: r).length = i + 1 + r.length by simp; omega]
    rfl

theorem fallen_alike (p : DP) (f : PF) (j : Nat) : (⟨f.safe, f.loose⟩ : DF).fallen (p.left j (⟨f.safe, f.loose⟩ : DF).many) = ⟨(f.fallen (nthK p.keep j)).safe, (f.fallen (nthK p.keep j)).loose⟩ := by
  unfold DF.fallen PF.fallen DP.left nthK DF.many
  by_cases h : p.keep = []
  · rw [if_pos h, if_pos h]
    have : rest 0 (manyL f.loose) = 0 := by unfold rest; simp
    rw [this]
  · rw [if_neg h, if_neg h]
    rfl

theorem fell_alike (p : DP) {l : DB} {n : Nat} (hl : NOk l n) (hinj : ∀ i j, i < n → j < n → s i = s j → i = j) {a : List PF} {b : List DF} (h : FR_ s n a b) : ∀ j, j ≤ l.length → FR_ s n (fallF p.keep l a j) (fallFiles p (mp s (l.take j)) 0 b)
  | 0, _ => by
    show FR_ s n a (fallFiles p [] 0 b)
    exact h
  | j + 1, hj => by
    have ih := fell_alike p hl hinj h j (by omega)
    have hx : l[j]? = some l[j] := List.getElem?_eq_getElem (by omega)
    have hid := hl.ids _ (List.getElem_mem (show j < l.length by omega))
    have e1 : fallF p.keep l a (j + 1) = (fallF p.keep l a j).set l[j].2 (((fallF p.keep l a j).getD l[j].2 PF.new).fallen (nthK p.keep j)) := by
      show (match l[j]? with | none => _ | some x => _) = _
      rw [hx]
    have e2 : mp s (l.take (j + 1)) = mp s (l.take j) ++ [(l[j].1, s l[j].2)] := by
      rw [List.take_succ_eq_append_getElem (by omega)]
      unfold mp
      rw [List.map_append]
      rfl
    rw [e1, e2, fallFiles_snoc]
    have e3 : 0 + (mp s (l.take j)).length = j := by unfold mp; rw [List.length_map, List.length_take]; omega
    rw [e3]
    simp only
    rw [ih.2.2 _ hid, fallen_alike]
    exact fr_set ih hinj hid _

theorem fallF_fb {keep : List Int} {l : DB} : ∀ (j : Nat) {a : List PF}, (∀ f ∈ a, FB f k) → ∀ f ∈ fallF keep l a j, FB f k
  | 0, _, h => h
  | j + 1, a, h => by
    have ih := fallF_fb (keep := keep) (l := l) j h
    show ∀ f ∈ (match l[j]? with | none => fallF keep l a j | some x => (fallF keep l a j).set x.2 (((fallF keep l a j).getD x.2 PF.new).fallen (nthK keep j))), FB f k
    cases l[j]? with
    | none => exact ih
    | some x =>
      intro f hf
      simp only at hf
      rcases List.mem_or_eq_of_mem_set hf with e | e
      · exact ih f e
      · rw [e]
        rw [List.getD_eq_getElem?_getD]
        cases hg : (fallF keep l a j)[x.2]? with
        | none => exact (FB.new k).fallen _
        | some g => exact (ih g (List.mem_of_getElem? hg)).fallen _

def PD.fallen (d : PD) (p : DP) : PD := (((d.redone (rest p.names d.loose.length)).fell p.keep (d.redone (rest p.names d.loose.length)).names.length).settled).begun p.room p.crash p.done

theorem rest_le (n : Int) (m : Nat) : rest n m ≤ m := by
  unfold rest
  exact Nat.lt_succ_iff.1 (Nat.mod_lt _ (by omega))

theorem alike_fall (h : Alike d m k) (p : DP) : Alike (d.fallen p) (m.fall p) (k + 1) := by
  obtain ⟨hd, s, hs⟩ := h
  obtain ⟨r, hr⟩ : ∃ r, r = rest p.names d.loose.length := ⟨_, rfl⟩
  have hrl : r ≤ d.loose.length := by rw [hr]; exact rest_le _ _
  have hml : m.loose.length = d.loose.length := by rw [hs.loose, List.length_map]
  have hn := hd.pre r
  have hnm : m.names_ p = mp s (d.redone r).names := by
    unfold DM.names_
    rw [hml, ← hr]
    exact redo_alike hs hd r hrl
  have hf0 : FR_ s d.files.length d.files m.files := ⟨rfl, hs.lt, hs.fls⟩
  have hf := fell_alike p hn hs.inj hf0 (d.redone r).names.length (Nat.le_refl _)
  rw [List.take_length] at hf
  have hfb := fallF_fb (k := k) (keep := p.keep) (l := (d.redone r).names) (d.redone r).names.length hd.fb
  obtain ⟨g1, g2, g3⟩ := hf
  have hlen := Nat.le_trans (redone_len d r) hd.names
  unfold PD.fallen
  rw [← hr]
  have hN : NOk (((d.redone r).fell p.keep (d.redone r).names.length).begun p.room p.crash p.done).names (((d.redone r).fell p.keep (d.redone r).names.length).begun p.room p.crash p.done).files.length := by
    show NOk (d.redone r).names (fallF p.keep (d.redone r).names d.files (d.redone r).names.length).length
    rw [g1]
    exact hn
  have hsim := sim_settled (s := s) (d := ((d.redone r).fell p.keep (d.redone r).names.length).begun p.room p.crash p.done) (m := ⟨fallFiles p (m.names_ p) 0 m.files, m.names_ p, m.old, m.loose, p, 0, false⟩) hN rfl rfl rfl rfl rfl hnm
    (fun i j hi hj e => hs.inj i j (by rw [← g1]; exact hi) (by rw [← g1]; exact hj) e)
    (fun i hi => by show s i < (fallFiles p (m.names_ p) 0 m.files).length; rw [hnm]; exact g2 i (by rw [← g1]; exact hi))
    (fun i hi => by show (fallFiles p (m.names_ p) 0 m.files).getD (s i) DF.none_ = _; rw [hnm]; exact g3 i (by rw [← g1]; exact hi))
  have hinv := inv_settled (k := k) (d := ((d.redone r).fell p.keep (d.redone r).names.length).begun p.room p.crash p.done) hN hfb (Nat.zero_le _) hlen
  exact ⟨inv_mono hinv (by omega), _, hsim⟩

theorem alike_new (p : DP) : Alike (PD.new p.room p.crash p.done) (DM.new p) 0 := by
  have hp : ∀ j, ((PD.new p.room p.crash p.done).redone j).names = [] := fun j => by simp [PD.new, PD.redone]
  exact ⟨⟨Nat.le_refl _, Nat.le_refl _, Nat.le_refl _, fun f h => (nomatch h), fun c h => (nomatch h), fun j => by rw [hp]; exact NOk.nil _, hp _⟩, id, rfl, rfl, rfl, rfl, rfl, rfl, rfl, rfl, fun i j hi => absurd hi (Nat.not_lt_zero i), fun i hi => absurd hi (Nat.not_lt_zero i), fun i hi => absurd hi (Nat.not_lt_zero i)⟩
end
end Go.Proofs.Ytfeogoihkpclcaa

/-
  The document's disk: names (find, without, with, changed), a number modulo another one.
-/
namespace Go.Proofs.Ytfeogoihkpclcaa
open Go.RowKit

theorem less_before : ∀ l m : List UInt8, l ≠ m → Op.bytesLess l m = !bytesBefore m l
  | [], [], h => absurd rfl h
  | [], _ :: _, _ => rfl
  | _ :: _, [], _ => rfl
  | a :: x, b :: y, h => by
    unfold Op.bytesLess bytesBefore
    by_cases e : a = b
    · subst e
      have := less_before x y fun e => h (by rw [e])
      simp [this]
    · have e' : ¬ b = a := fun h => e h.symm
      have e1 : (a == b) = false := by simpa using e
      have e2 : (b == a) = false := by simpa using e'
      rw [e1, e2]
      by_cases q : a < b
      · have q2 : ¬ b < a := fun h => absurd (UInt8.lt_trans q h) (UInt8.lt_irrefl _)
        simp [q, q2]
      · have q2 : b < a := by
          rcases UInt8.lt_or_lt_of_ne e with h | h
          · exact absurd h q
          · exact h
        simp [q, q2]

theorem str_gtr (t : TypeId) (a b : ByteArray) : binOp .gtr t (.string a) (.string b) = pure (.bool !(Op.bytesLess a.toList b.toList || a.toList == b.toList)) := by simp [binOp, Op.stringOp]


def bCells (l : DB) : List Value := l.flatMap fun x => [.string (strB x.1), .int .i64 (x.2 : Int)]
theorem b_one (l : DB) : ∀ u ∈ bCells l, u.oneCell' = true := by
  intro u hu
  unfold bCells at hu
  obtain ⟨p, _, hp⟩ := List.mem_flatMap.1 hu
  simp only [List.mem_cons, List.not_mem_nil, or_false] at hp
  rcases hp with rfl | rfl <;> rfl
theorem b_app (a b : DB) : bCells (a ++ b) = bCells a ++ bCells b := List.flatMap_append
theorem info_bind : (Try.prog.info? 87).map (fun i => (i.zero, i.size, i.bytes)) = some (some (.agg #[.string ⟨#[]⟩, .int .i64 0]), 2, 24) := by kernel_rfl

theorem rd_bind {w : World} {la : Option Addr} {lc : Nat} {l : DB} (h : Rd w 2 (.slice la l.length lc) l.length (bCells l)) {i : Nat} {x : List UInt8 × Nat} (hx : l[i]? = some x) : ∃ b o, la = some ⟨b, o, none⟩ ∧ w.cell? ⟨b, o + i * 2, none⟩ = some (.string (strB x.1)) ∧ w.cell? ⟨b, o + i * 2 + 1, none⟩ = some (.int .i64 (x.2 : Int)) ∧ b < w.heap.size := by
  obtain ⟨a, cap, hv, _, _, _, h3⟩ := h
  cases hv
  have hil := (List.getElem?_eq_some_iff.1 hx).1
  have hat := fun j hj => flat_at (fun x : List UInt8 × Nat => [Value.string (strB x.1), Value.int .i64 (x.2 : Int)]) 2 (fun _ => rfl) l i j hj
  rw [hx] at hat
  rcases h3 with ⟨h0, _⟩ | ⟨b, off, rfl, hb, hc⟩
  · omega
  · exact ⟨b, off, rfl, by simpa using hc (i * 2 + 0) _ (hat 0 (by decide)), by rw [Nat.add_assoc]; exact hc (i * 2 + 1) _ (hat 1 (by decide)), hb⟩

def dfindI (l : DB) (n : List UInt8) : Int := match dfind l n with | some id => (id : Int) | none => -1

theorem dfind_step {l : DB} {n : List UInt8} {k : Nat} {x : List UInt8 × Nat} (hx : l[k]? = some x) (hno : ∀ j y, j < k → l[j]? = some y → (y.1 == n) = false) (he : x.1 = n) : dfind l n = some x.2 := by
  unfold dfind
  induction l generalizing k with
  | nil => simp at hx
  | cons y r ih =>
    cases k with
    | zero =>
      have : y = x := by simpa using hx
      subst this
      rw [List.find?_cons_of_pos (p := fun y : List UInt8 × Nat => y.1 == n) (by simpa using he)]
      rfl
    | succ k =>
      have hy := hno 0 y (by omega) rfl
      rw [List.find?_cons_of_neg (p := fun y : List UInt8 × Nat => y.1 == n) (by simp [hy])]
      exact ih (k := k) (by simpa using hx) fun j z hj hz => hno (j + 1) z (by omega) (by simpa using hz)

theorem dfind_none {l : DB} {n : List UInt8} (hno : ∀ j y, j < l.length → l[j]? = some y → (y.1 == n) = false) : dfind l n = none := by
  unfold dfind
  rw [Option.map_eq_none_iff, List.find?_eq_none]
  intro x hx
  obtain ⟨j, hj, rfl⟩ := List.getElem_of_mem hx
  have := hno j _ hj (List.getElem?_eq_getElem hj)
  simp [this]

theorem str_ne {t s : ByteArray} (h : t.data.toList ≠ s.data.toList) : (t.toList == s.toList) = false ∧ ¬ t = s := by
  have hts : ¬ t = s := fun e => h (by rw [e])
  have htl : ¬ t.toList = s.toList := fun e => hts (by rw [Lib.toList_data, Lib.toList_data] at e; exact ByteArray.ext (Array.toList_inj.1 e))
  exact ⟨by simpa using htl, hts⟩

set_option maxRecDepth 100000 in
set_option maxHeartbeats 2000000 in
set_option linter.unusedSimpArgs false in
theorem dfind_any (w : World) (lv : Value) (l : DB) (s : ByteArray) (hl : l.length < 1000000) (h : Rd w 2 lv l.length (bCells l)) :
    Calls Try.prog 62 #[lv, .string s] w fun e w' => e = .returned (.int .i64 (dfindI l s.data.toList)) ∧ w = w' := by
  have hr := h
  obtain ⟨a, cap, rfl, h1, h2, _, h4⟩ := h
  have HR := Lib.hid hr
  clear h4 hr
  go_enter Try.func62, Try.ntmps62
  go_wp2
  go_loop [5] (fun i => ∃ k : Nat, k ≤ l.length ∧ i = .int .i64 k ∧ ∀ j y, j < k → l[j]? = some y → (y.1 == s.data.toList) = false) (fun i => l.length - (intOf i).toNat)
  case atStart => exact ⟨0, Nat.zero_le _, rfl, fun j y hj => by omega⟩
  case round =>
    obtain ⟨k, hk, rfl, hno⟩ := hrel
    have HN := Lib.hid hno
    clear hno
    by_cases hlt : k < l.length
    · obtain ⟨x, hx⟩ : ∃ x, l[k]? = some x := ⟨_, List.getElem?_eq_getElem hlt⟩
      obtain ⟨b, off, rfl, e1, e2, _⟩ := rd_bind HR.out hx
      have HX := Lib.hid hx
      clear hx
      by_cases he : x.1 = s.data.toList
      · have hsx : strB x.1 = s := by rw [he]
        rw [hsx] at e1
        have HF := Lib.hid (show dfindI l s.data.toList = (x.2 : Int) by unfold dfindI; rw [dfind_step HX.out HN.out he])
        clear he hsx
        go_wp2
        go_ret
        exact ⟨by rw [HF.out]; rfl, rfl⟩
      · obtain ⟨t, ht⟩ : ∃ t, t = strB x.1 := ⟨_, rfl⟩
        rw [← ht] at e1
        obtain ⟨htb, hts⟩ := str_ne (t := t) (s := s) (by rw [ht]; exact he)
        have HE := Lib.hid he
        clear he ht
        go_wp2
        all_goals
          go_round
          case rel => exact ⟨k + 1, by omega, by go_num, fun j y hj hy => by
            by_cases e : j = k
            · subst e
              rw [HX.out] at hy
              cases hy
              simpa using HE.out
            · exact HN.out j y (by omega) hy⟩
          case measure => simp [intOf]; omega
    · have HF := Lib.hid (show dfindI l s.data.toList = -1 by unfold dfindI; rw [dfind_none fun j y hj hy => HN.out j y (by omega) hy])
      go_wp2
      go_ret
      exact ⟨by rw [HF.out]; rfl, rfl⟩

theorem rest_any (w : World) (n : Int) (m : Nat) (hm : m < 1000000000) (hn : n ≤ 9223372036854775807) :
    Calls Try.prog 69 #[.int .i64 n, .int .i64 (m : Int)] w fun e w' => e = .returned (.int .i64 (rest n m : Int)) ∧ w = w' := by
  obtain ⟨X, hX⟩ : ∃ X : Nat, max 0 n = (X : Int) := ⟨(max 0 n).toNat, by omega⟩
  have hr : rest n m = X % (m + 1) := by unfold rest; rw [hX]; rfl
  have hw : IntKind.i64.wrap ((m : Int) + 1) = (m : Int) + 1 := IntWalk.i64_in _ (by omega)
  have hz : ¬ (m : Int) + 1 = 0 := by omega
  have ht : (X : Int).tmod ((m : Int) + 1) = ((X % (m + 1) : Nat) : Int) := by rw [Int.tmod_eq_emod_of_nonneg (by omega)]; simp
  have ht2 : (X : Int) % ((m : Int) + 1) = ((X % (m + 1) : Nat) : Int) := by simp
  have hlt := Nat.mod_lt X (show 0 < m + 1 by omega)
  rw [hr]
  obtain ⟨r, hrr⟩ : ∃ r, X % (m + 1) = r := ⟨_, rfl⟩
  rw [hrr] at ht ht2 hlt ⊢
  clear hr hrr
  go_enter Try.func69, Try.ntmps69
  go_wp2
  go_ret
  exact ⟨rfl, rfl⟩
end Go.Proofs.Ytfeogoihkpclcaa
