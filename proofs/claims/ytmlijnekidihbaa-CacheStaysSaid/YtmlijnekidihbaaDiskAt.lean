/-
  A disk in memory, step by step: what each part that is written leaves of the whole.
-/
import Derived.Test.YtmlijnekidihbaaDiskCount
namespace Go.Proofs.Ytmlijnekidihbaa
open Go.RowKit

/-- What a call leaves of what is not the disk's, and which blocks the disk has then. -/
structure Step (g g' : Gh) (w w' : World) : Prop where
  touch : Touch g.F w w'
  new : ∀ k, g'.F k → g.F k ∨ w.heap.size ≤ k

theorem Step.refl (g : Gh) (w : World) : Step g g w w := ⟨Touch.refl _ _, fun _ h => .inl h⟩
theorem Step.trans {g g' g'' : Gh} {a b c : World} (h : Step g g' a b) (k : Step g' g'' b c) : Step g g'' a c where
  touch := by
    refine Kept.trans h.touch (Kept.mono k.touch fun i hi => ⟨Nat.lt_of_lt_of_le hi.1 h.touch.size, fun hf => ?_⟩)
    rcases h.new i hf with h1 | h1
    · exact hi.2 h1
    · have := hi.1; omega
  new i hi := by
    rcases k.new i hi with h1 | h1
    · exact h.new i h1
    · exact .inr (Nat.le_trans h.touch.size h1)
theorem Step.below {g : Gh} {w w' : World} (h : Below w.heap.size w w') : Step g g w w' := ⟨Touch.of_below h, fun _ h => .inl h⟩
theorem Step.kept {g : Gh} {w w' : World} (h : Kept (fun k => k < w.heap.size ∧ ¬ g.F k) w w') : Step g g w w' := ⟨h, fun _ h => .inl h⟩

/-- The new block of 'v' has the role 'r'. -/
def claim (o : Nat → Role) (b : Option Nat) (r : Role) (k : Nat) : Role := if b = some k then r else o k

theorem claim_at {o : Nat → Role} {b : Option Nat} {r : Role} {k : Nat} (h : b = some k) : claim o b r k = r := by unfold claim; rw [if_pos h]
theorem claim_old {o : Nat → Role} {b : Option Nat} {r : Role} {k : Nat} (h : b ≠ some k) : claim o b r k = o k := by unfold claim; rw [if_neg h]
theorem claim_keep {o : Nat → Role} {b : Option Nat} {r : Role} (hb : ∀ k, b = some k → o k = r ∨ o k = .out) {k : Nat} (h : o k ≠ .out) : claim o b r k = o k := by
  unfold claim
  split
  · rename_i e
    rcases hb k e with h1 | h1
    · exact h1.symm
    · exact absurd h1 h
  · rfl
theorem claim_F {o : Nat → Role} {b : Option Nat} {r : Role} {k : Nat} (h : claim o b r k ≠ .out) : o k ≠ .out ∨ b = some k := by
  unfold claim at h
  split at h
  · rename_i e; exact .inr e
  · exact .inl h
/-- A role that is not the one claimed is held by those that held it. -/
theorem claim_role {o : Nat → Role} {b : Option Nat} {r s : Role} {k : Nat} (h : claim o b r k = s) (hs : s ≠ r) : o k = s := by
  unfold claim at h
  split at h
  · exact absurd h.symm hs
  · exact h

variable {g : Gh} {w w' : World} {p : Nat} {d d' : PD}

/-- No block of a role that is another's. -/
theorem role_ne {o : Nat → Role} {a b : Nat} (h : o a ≠ o b) : a ≠ b := fun e => h (by rw [e])

/-- The disk's own numbers are written. -/
theorem DiskAt.scal (h : DiskAt g w p d) (hk : Kept (fun k => k < w.heap.size ∧ k ≠ p) w w') (hb : w'.heap[p]? = some (.cells (dCells g d') 60 (0, 0)))
    (hf : d'.files = d.files) (hn : d'.names = d.names) (hs : d'.safe = d.safe) (hl : d'.loose = d.loose) : DiskAt g w' p d' where
  blk := hb
  rol := h.rol
  fl := by rw [hf]; exact h.fl
  fa x hx := (h.fa x hx).kept hk fun k e => ⟨h.olt k (by rcases e with e | e | e <;> rw [e] <;> simp), fun ep => by subst ep; rcases e with e | e | e <;> rw [h.rol] at e <;> cases e⟩
  nod := h.nod
  lt := h.lt
  otop := h.otop
  fr := own_kept h.fr hk fun k e => ⟨own_lt h.fr k e, fun ep => by subst ep; have := h.of k e; rw [h.rol] at this; cases this⟩
  of := h.of
  nr := by rw [hn]; exact h.nr.kept hk fun k e => ⟨h.nr.lt k e, fun ep => by subst ep; have := h.onm k e; rw [h.rol] at this; cases this⟩
  onm := h.onm
  sr := by rw [hs]; exact h.sr.kept hk fun k e => ⟨h.sr.lt k e, fun ep => by subst ep; have := h.osf k e; rw [h.rol] at this; cases this⟩
  osf := h.osf
  lr := by rw [hl]; exact own_kept h.lr hk fun k e => ⟨own_lt h.lr k e, fun ep => by subst ep; have := h.ol k e; rw [h.rol] at this; cases this⟩
  ol := h.ol
  olt k hk' := Nat.lt_of_lt_of_le (h.olt k hk') hk.size

theorem step_scal (h : DiskAt g w p d) (hk : Kept (fun k => k < w.heap.size ∧ k ≠ p) w w') : Step g g w w' :=
  ⟨Kept.mono hk fun k hk' => ⟨hk'.1, fun e => by subst e; exact hk'.2 (by unfold Gh.F; rw [h.rol]; decide)⟩, fun _ h => .inl h⟩

/-- The names' map is another one, or it was written. -/
theorem DiskAt.set_nv (h : DiskAt g w p d) (nv' : Value) (l' : DB) (hk : Kept (fun k => k < w.heap.size ∧ k ≠ p ∧ mapBlock g.nv ≠ some k) w w') (hb : w'.heap[p]? = some (.cells (dCells { g with nv := nv' } d) 60 (0, 0)))
    (hn : Nm w' nv' l') (hat : ∀ k, mapBlock nv' = some k → mapBlock g.nv = some k ∨ (w.heap.size ≤ k ∧ k < w'.heap.size)) :
    DiskAt { g with nv := nv', o := claim g.o (mapBlock nv') .names } w' p { d with names := l' } ∧ Step g { g with nv := nv', o := claim g.o (mapBlock nv') .names } w w' := by
  have hout : ∀ k, mapBlock nv' = some k → g.o k = .names ∨ g.o k = .out := by
    intro k e
    rcases hat k e with h1 | h1
    · exact .inl (h.onm k h1)
    · right
      cases ho : g.o k with
      | out => rfl
      | _ => exact absurd (h.olt k (by rw [ho]; simp)) (by omega)
  have hkp : ∀ k, g.o k ≠ .out → claim g.o (mapBlock nv') .names k = g.o k := fun k => claim_keep hout
  have hR : ∀ k, g.o k ≠ .out → g.o k ≠ .disk → g.o k ≠ .names → k < w.heap.size ∧ k ≠ p ∧ mapBlock g.nv ≠ some k := fun k h1 h2 h3 => ⟨h.olt k h1, fun e => by subst e; exact h2 h.rol, fun e => h3 (h.onm k e)⟩
  refine ⟨⟨hb, ?_, h.fl, fun x hx => ?_, h.nod, h.lt, fun k t hk' => ?_, ?_, fun k e => ?_, hn, fun k e => claim_at e, ?_, fun k e => ?_, ?_, fun k e => ?_, fun k hk' => ?_⟩, ?_, fun k hk' => ?_⟩
  · exact (hkp p (by rw [h.rol]; simp)).trans h.rol
  · have hfx := h.fa x hx
    refine FileAt.role (hfx.kept hk fun k e => hR k ?_ ?_ ?_) fun k e => hkp k ?_
    all_goals (rcases e with e | e | e <;> rw [e] <;> simp)
  · refine h.otop k t ?_
    rcases hk' with e | e | e
    · exact .inl (claim_role e (by simp))
    · exact .inr (.inl (claim_role e (by simp)))
    · exact .inr (.inr (claim_role e (by simp)))
  · exact own_kept h.fr hk fun k e => by have := h.of k e; exact hR k (by rw [this]; simp) (by rw [this]; simp) (by rw [this]; simp)
  · have := h.of k e
    exact (hkp k (by rw [this]; simp)).trans this
  · exact h.sr.kept hk fun k e => by have := h.osf k e; exact hR k (by rw [this]; simp) (by rw [this]; simp) (by rw [this]; simp)
  · have := h.osf k e
    exact (hkp k (by rw [this]; simp)).trans this
  · exact own_kept h.lr hk fun k e => by have := h.ol k e; exact hR k (by rw [this]; simp) (by rw [this]; simp) (by rw [this]; simp)
  · have := h.ol k e
    exact (hkp k (by rw [this]; simp)).trans this
  · rcases claim_F hk' with h1 | h1
    · exact Nat.lt_of_lt_of_le (h.olt k h1) hk.size
    · exact hn.lt k h1
  · exact Kept.mono hk fun k hk' => ⟨hk'.1, fun e => by subst e; exact hk'.2 (by unfold Gh.F; rw [h.rol]; simp), fun e => hk'.2 (by unfold Gh.F; rw [h.onm k e]; simp)⟩
  · rcases claim_F hk' with h1 | h1
    · exact .inl h1
    · rcases hat k h1 with h2 | h2
      · exact .inl (by unfold Gh.F; rw [h.onm k h2]; simp)
      · exact .inr h2.1

/-- The loose changes of names. -/
theorem DiskAt.set_lv (h : DiskAt g w p d) (lv' : Value) (l' : List PC) (hk : Kept (fun k => k < w.heap.size ∧ k ≠ p ∧ g.lv.ownBlock ≠ some k) w w') (hb : w'.heap[p]? = some (.cells (dCells { g with lv := lv' } d) 60 (0, 0)))
    (hl : w'.ownsRow 0 72 4 lv' l'.length (chCells l')) (hat : ∀ k, lv'.ownBlock = some k → g.lv.ownBlock = some k ∨ (w.heap.size ≤ k ∧ k < w'.heap.size)) :
    DiskAt { g with lv := lv', o := claim g.o lv'.ownBlock .loose } w' p { d with loose := l' } ∧ Step g { g with lv := lv', o := claim g.o lv'.ownBlock .loose } w w' := by
  have hout : ∀ k, lv'.ownBlock = some k → g.o k = .loose ∨ g.o k = .out := by
    intro k e
    rcases hat k e with h1 | h1
    · exact .inl (h.ol k h1)
    · right
      cases ho : g.o k with
      | out => rfl
      | _ => exact absurd (h.olt k (by rw [ho]; simp)) (by omega)
  have hkp : ∀ k, g.o k ≠ .out → claim g.o lv'.ownBlock .loose k = g.o k := fun k => claim_keep hout
  have hR : ∀ k, g.o k ≠ .out → g.o k ≠ .disk → g.o k ≠ .loose → k < w.heap.size ∧ k ≠ p ∧ g.lv.ownBlock ≠ some k := fun k h1 h2 h3 => ⟨h.olt k h1, fun e => by subst e; exact h2 h.rol, fun e => h3 (h.ol k e)⟩
  refine ⟨⟨hb, ?_, h.fl, fun x hx => ?_, h.nod, h.lt, fun k t hk' => ?_, ?_, fun k e => ?_, ?_, fun k e => ?_, ?_, fun k e => ?_, hl, fun k e => claim_at e, fun k hk' => ?_⟩, ?_, fun k hk' => ?_⟩
  · exact (hkp p (by rw [h.rol]; simp)).trans h.rol
  · have hfx := h.fa x hx
    refine FileAt.role (hfx.kept hk fun k e => hR k ?_ ?_ ?_) fun k e => hkp k ?_
    all_goals (rcases e with e | e | e <;> rw [e] <;> simp)
  · refine h.otop k t ?_
    rcases hk' with e | e | e
    · exact .inl (claim_role e (by simp))
    · exact .inr (.inl (claim_role e (by simp)))
    · exact .inr (.inr (claim_role e (by simp)))
  · exact own_kept h.fr hk fun k e => by have := h.of k e; exact hR k (by rw [this]; simp) (by rw [this]; simp) (by rw [this]; simp)
  · have := h.of k e
    exact (hkp k (by rw [this]; simp)).trans this
  · exact h.nr.kept hk fun k e => by have := h.onm k e; exact hR k (by rw [this]; simp) (by rw [this]; simp) (by rw [this]; simp)
  · have := h.onm k e
    exact (hkp k (by rw [this]; simp)).trans this
  · exact h.sr.kept hk fun k e => by have := h.osf k e; exact hR k (by rw [this]; simp) (by rw [this]; simp) (by rw [this]; simp)
  · have := h.osf k e
    exact (hkp k (by rw [this]; simp)).trans this
  · rcases claim_F hk' with h1 | h1
    · exact Nat.lt_of_lt_of_le (h.olt k h1) hk.size
    · exact own_lt hl k h1
  · exact Kept.mono hk fun k hk' => ⟨hk'.1, fun e => by subst e; exact hk'.2 (by unfold Gh.F; rw [h.rol]; simp), fun e => hk'.2 (by unfold Gh.F; rw [h.ol k e]; simp)⟩
  · rcases claim_F hk' with h1 | h1
    · exact .inl h1
    · rcases hat k h1 with h2 | h2
      · exact .inl (by unfold Gh.F; rw [h.ol k h2]; simp)
      · exact .inr h2.1

/-- What is asked of the names of a disk. -/
structure NmOk (d : PD) : Prop where
  n : d.names.length < 100000
  ids : ∀ x ∈ d.names, x.2 < 100000

/-- A change of names, done. -/
theorem rename_at (h : DiskAt g w p d) (c : PC) (hc : ChOk c) (hok : NmOk d) :
    Calls Try.prog 32 #[.pointer (some ⟨p, 0, none⟩), .agg #[.int .i64 (c.kind : Int), .string (strB c.src), .string (strB c.dst), .int .i64 (c.file : Int)]] w fun e w' => e = .returned (.tuple #[]) ∧ ∃ g', DiskAt g' w' p { d with names := ren d.names c } ∧ Step g g' w w' ∧ g'.l = g.l ∧ g'.fv = g.fv ∧ g'.lv = g.lv := by
  have hb := h.blk
  unfold dCells at hb
  refine (rename_any w p _ _ _ _ _ _ _ _ _ c d.names hb h.nr (fun e => by have := h.onm p e; rw [h.rol] at this; cases this) (by have := hok.n; omega) hc (fun x hx => by have := hok.ids x hx; omega)).mono ?_
  rintro e w' ⟨rfl, nv', hb', hn', hk', hl'⟩
  have := h.set_nv nv' (ren d.names c) hk' hb' hn' hl'
  exact ⟨rfl, _, this.1, this.2, rfl, rfl, rfl⟩
end Go.Proofs.Ytmlijnekidihbaa
