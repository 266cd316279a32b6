import Derived.Test.YtfeogoihkpclcaaMg08
import Derived.Deep.RegionHeld

/-
  A file of a disk is written; a file is added.
-/
namespace Go.Proofs.Ytfeogoihkpclcaa
open Go.RowKit

theorem flat_set {α β : Type} (f : α → List β) (k : Nat) (hf : ∀ a, (f a).length = k) : ∀ (l : List α) (i j : Nat) (a a' : α) (v : β), j < k → l[i]? = some a → f a' = (f a).set j v → (l.set i a').flatMap f = (l.flatMap f).set (i * k + j) v
  | [], _, _, _, _, _, _, h, _ => by simp at h
  | b :: r, 0, j, a, a', v, hj, h, e => by
    simp only [List.getElem?_cons_zero, Option.some.injEq] at h
    subst h
    rw [List.set_cons_zero, List.flatMap_cons, List.flatMap_cons, e, Nat.zero_mul, Nat.zero_add, List.set_append, if_pos (by rw [hf]; exact hj)]
  | b :: r, i + 1, j, a, a', v, hj, h, e => by
    rw [List.set_cons_succ, List.flatMap_cons, List.flatMap_cons, flat_set f k hf r i j a a' v hj (by simpa using h) e, List.set_append, if_neg (by rw [hf, Nat.succ_mul]; omega), hf]
    congr 2
    rw [Nat.succ_mul]; omega

/-- A row whose block was written at one place. -/
theorem own_set {w w' : World} {B e size n : Nat} {fb cap : Nat} {cs : List Value} {cur cur' : Array Value} (h : w.ownsRow B e size (.slice (some ⟨fb, 0, none⟩) n cap) n cs) (hb : w.heap[fb]? = some (.cells cur e (0, 0)))
    (hb' : w'.heap[fb]? = some (.cells cur' e (0, 0))) (hs : cur'.size = cur.size) (cs' : List Value) (hl : cs'.length = cs.length) (ht : cur.toList.take (n * size) = cs → cur'.toList.take (n * size) = cs') : w'.ownsRow B e size (.slice (some ⟨fb, 0, none⟩) n cap) n cs' := by
  refine ⟨hl.trans h.1, ?_⟩
  rcases h.2 with ⟨h1, _⟩ | ⟨g, cap', cur0, hv, h3, hg, hn, hm, hcs, htake⟩
  · cases h1
  · cases hv
    rw [hb] at hg
    cases hg
    exact .inr ⟨fb, cap, cur', rfl, h3, hb', hn, hm, by rw [hs]; exact hcs, ht htake⟩

theorem take_set (cur : Array Value) (m i : Nat) (v : Value) : (cur.setIfInBounds i v).toList.take m = (cur.toList.take m).set i v := by
  rw [Array.toList_setIfInBounds, List.take_set]

variable {g : Gh} {w w' : World} {p : Nat} {d : PD}

/-- Roles with the three slices of a file. -/
def claim3 (o : Nat → Role) (x : GF) : Nat → Role := claim (claim (claim o x.vl.ownBlock (.fl x.tok)) x.vn.ownBlock (.fn x.tok)) x.vs.ownBlock (.fs x.tok)

/-- A file is written: other slices, other bytes. -/
theorem DiskAt.set_file (h : DiskAt g w p d) (i : Nat) (x x' : GF) (f f' : PF) (hx : g.l[i]? = some (x, f)) (htok : x'.tok = x.tok)
    (hk : Kept (fun k => k < w.heap.size ∧ g.fv.ownBlock ≠ some k ∧ x.vs.ownBlock ≠ some k ∧ x.vn.ownBlock ≠ some k ∧ x.vl.ownBlock ≠ some k) w w')
    (hrow : w'.ownsRow 0 59 3 g.fv g.l.length (gfCells (g.l.set i (x', f'))))
    (hvs : OwnB w' 0 5 x'.vs f'.safe) (hvn : OwnB w' 0 5 x'.vn f'.now) (hvl : w'.ownsRow 0 63 2 x'.vl f'.loose.length (putCells f'.loose))
    (ats : ∀ k, x'.vs.ownBlock = some k → x.vs.ownBlock = some k ∨ w.heap.size ≤ k) (an : ∀ k, x'.vn.ownBlock = some k → x.vn.ownBlock = some k ∨ w.heap.size ≤ k) (al : ∀ k, x'.vl.ownBlock = some k → x.vl.ownBlock = some k ∨ w.heap.size ≤ k)
    (dsn : ∀ k, x'.vs.ownBlock = some k → x'.vn.ownBlock ≠ some k) (dsl : ∀ k, x'.vs.ownBlock = some k → x'.vl.ownBlock ≠ some k) (dnl : ∀ k, x'.vn.ownBlock = some k → x'.vl.ownBlock ≠ some k) :
    DiskAt { g with l := g.l.set i (x', f'), o := claim3 g.o x' } w' p { d with files := d.files.set i f' } ∧ Step g { g with l := g.l.set i (x', f'), o := claim3 g.o x' } w w' := by
  have hmem : (x, f) ∈ g.l := List.mem_of_getElem? hx
  have hfx := h.fa _ hmem
  have hin : i < g.l.length := (List.getElem?_eq_some_iff.1 hx).1
  have hout : ∀ k, w.heap.size ≤ k → g.o k = .out := fun k hk => by
    cases ho : g.o k with
    | out => rfl
    | _ => exact absurd (h.olt k (by rw [ho]; simp)) (by omega)
  have k1 : ∀ k, g.o k ≠ .out → claim g.o x'.vl.ownBlock (.fl x'.tok) k = g.o k := fun k => claim_keep fun k e => by
    rcases al k e with h1 | h1
    · exact .inl (by rw [htok]; exact hfx.ol k h1)
    · exact .inr (hout k h1)
  have k2 : ∀ k, g.o k ≠ .out → claim (claim g.o x'.vl.ownBlock (.fl x'.tok)) x'.vn.ownBlock (.fn x'.tok) k = g.o k := fun k hk => by
    refine (claim_keep (fun k e => ?_) (by rw [k1 k hk]; exact hk)).trans (k1 k hk)
    rw [claim_old (dnl k e)]
    rcases an k e with h1 | h1
    · exact .inl (by rw [htok]; exact hfx.on k h1)
    · exact .inr (hout k h1)
  have k3 : ∀ k, g.o k ≠ .out → claim3 g.o x' k = g.o k := fun k hk => by
    unfold claim3
    refine (claim_keep (fun k e => ?_) (by rw [k2 k hk]; exact hk)).trans (k2 k hk)
    rw [claim_old (dsn k e), claim_old (dsl k e)]
    rcases ats k e with h1 | h1
    · exact .inl (by rw [htok]; exact hfx.os k h1)
    · exact .inr (hout k h1)
  have inv : ∀ k s, claim3 g.o x' k = s → s ≠ .out → g.o k = s ∨ s = .fs x'.tok ∨ s = .fn x'.tok ∨ s = .fl x'.tok := by
    intro k s e hs
    unfold claim3 at e
    unfold claim at e
    split at e
    · exact .inr (.inl e.symm)
    · split at e
      · exact .inr (.inr (.inl e.symm))
      · split at e
        · exact .inr (.inr (.inr e.symm))
        · exact .inl e
  have hR : ∀ k, g.o k ≠ .out → g.o k ≠ .files → g.o k ≠ .fs x.tok → g.o k ≠ .fn x.tok → g.o k ≠ .fl x.tok → k < w.heap.size ∧ g.fv.ownBlock ≠ some k ∧ x.vs.ownBlock ≠ some k ∧ x.vn.ownBlock ≠ some k ∧ x.vl.ownBlock ≠ some k :=
    fun k h1 h2 h3 h4 h5 => ⟨h.olt k h1, fun e => h2 (h.of k e), fun e => h3 (hfx.os k e), fun e => h4 (hfx.on k e), fun e => h5 (hfx.ol k e)⟩
  have htoks : (g.l.set i (x', f')).map (·.1.tok) = g.l.map (·.1.tok) := by
    rw [List.map_set]
    apply List.ext_getElem?
    intro j
    rw [List.getElem?_set]
    split
    · rename_i e; subst e
      rw [List.getElem?_map, hx]
      simp [htok, hin]
    · rfl
  have hmemset : ∀ y ∈ g.l.set i (x', f'), y = (x', f') ∨ (y ∈ g.l ∧ y.1.tok ≠ x.tok) := by
    intro y hy
    obtain ⟨j, hj⟩ := List.mem_iff_getElem?.1 hy
    rw [List.getElem?_set] at hj
    split at hj
    · rename_i e; subst e
      exact .inl (by simpa using hj.symm)
    · rename_i e
      refine .inr ⟨List.mem_of_getElem? hj, fun et => ?_⟩
      have hnd := h.nod
      have h1 : (g.l.map (·.1.tok))[i]? = some x.tok := by rw [List.getElem?_map, hx]; rfl
      have h2 : (g.l.map (·.1.tok))[j]? = some x.tok := by rw [List.getElem?_map, hj]; simp [et]
      obtain ⟨hi', e1⟩ := List.getElem?_eq_some_iff.1 h1
      obtain ⟨hj', e2⟩ := List.getElem?_eq_some_iff.1 h2
      rcases Nat.lt_or_gt_of_ne e with hl | hl
      · exact List.pairwise_iff_getElem.1 hnd i j hi' hj' hl (e1.trans e2.symm)
      · exact List.pairwise_iff_getElem.1 hnd j i hj' hi' hl (e2.trans e1.symm)
  refine ⟨⟨?_, ?_, ?_, fun y hy => ?_, by rw [htoks]; exact h.nod, fun y hy => ?_, fun k t hk' => ?_, by rw [List.length_set]; exact hrow, fun k e => ?_, ?_, fun k e => ?_, ?_, fun k e => ?_, ?_, fun k e => ?_, fun k hk' => ?_⟩, ?_, fun k hk' => ?_⟩
  · exact (hk.block p (hR p (by rw [h.rol]; simp) (by rw [h.rol]; simp) (by rw [h.rol]; simp) (by rw [h.rol]; simp) (by rw [h.rol]; simp))).trans h.blk
  · exact (k3 p (by rw [h.rol]; simp)).trans h.rol
  · show d.files.set i f' = (g.l.set i (x', f')).map (·.2)
    rw [h.fl, List.map_set]
  · rcases hmemset y hy with rfl | ⟨hy', ht⟩
    · refine ⟨hvs, hvn, hvl, fun k e => ?_, fun k e => ?_, fun k e => ?_⟩
      · show claim3 g.o x' k = _
        unfold claim3
        exact claim_at e
      · show claim3 g.o x' k = _
        unfold claim3
        rw [claim_old (fun e' => dsn k e' e)]
        exact claim_at e
      · show claim3 g.o x' k = _
        unfold claim3
        rw [claim_old (fun e' => dsl k e' e), claim_old (fun e' => dnl k e' e)]
        exact claim_at e
    · refine FileAt.role ((h.fa y hy').kept hk fun k e => hR k ?_ ?_ ?_ ?_ ?_) fun k e => k3 k ?_
      all_goals (rcases e with e | e | e <;> rw [e] <;> simp [ht])
  · rcases hmemset y hy with rfl | ⟨hy', _⟩
    · show x'.tok < g.top
      rw [htok]
      exact h.lt _ hmem
    · exact h.lt y hy'
  · have hlt := h.lt _ hmem
    rcases hk' with e | e | e
    · rcases inv k _ e (by simp) with h1 | h1 | h1 | h1
      · exact h.otop k t (.inl h1)
      · simp only [Role.fs.injEq] at h1; rw [h1, htok]; exact hlt
      · cases h1
      · cases h1
    · rcases inv k _ e (by simp) with h1 | h1 | h1 | h1
      · exact h.otop k t (.inr (.inl h1))
      · cases h1
      · simp only [Role.fn.injEq] at h1; rw [h1, htok]; exact hlt
      · cases h1
    · rcases inv k _ e (by simp) with h1 | h1 | h1 | h1
      · exact h.otop k t (.inr (.inr h1))
      · cases h1
      · cases h1
      · simp only [Role.fl.injEq] at h1; rw [h1, htok]; exact hlt
  · have := h.of k e
    exact (k3 k (by rw [this]; simp)).trans this
  · exact h.nr.kept hk fun k e => by have := h.onm k e; exact hR k (by rw [this]; simp) (by rw [this]; simp) (by rw [this]; simp) (by rw [this]; simp) (by rw [this]; simp)
  · have := h.onm k e
    exact (k3 k (by rw [this]; simp)).trans this
  · exact h.sr.kept hk fun k e => by have := h.osf k e; exact hR k (by rw [this]; simp) (by rw [this]; simp) (by rw [this]; simp) (by rw [this]; simp) (by rw [this]; simp)
  · have := h.osf k e
    exact (k3 k (by rw [this]; simp)).trans this
  · exact own_kept h.lr hk fun k e => by have := h.ol k e; exact hR k (by rw [this]; simp) (by rw [this]; simp) (by rw [this]; simp) (by rw [this]; simp) (by rw [this]; simp)
  · have := h.ol k e
    exact (k3 k (by rw [this]; simp)).trans this
  · have : claim3 g.o x' k ≠ .out := hk'
    unfold claim3 at this
    rcases claim_F this with h1 | h1
    · rcases claim_F h1 with h1 | h1
      · rcases claim_F h1 with h1 | h1
        · exact Nat.lt_of_lt_of_le (h.olt k h1) hk.size
        · exact own_lt hvl k h1
      · exact own_lt hvn k h1
    · exact own_lt hvs k h1
  · exact Kept.mono hk fun k hk' => ⟨hk'.1, fun e => hk'.2 (by unfold Gh.F; rw [h.of k e]; simp), fun e => hk'.2 (by unfold Gh.F; rw [hfx.os k e]; simp), fun e => hk'.2 (by unfold Gh.F; rw [hfx.on k e]; simp), fun e => hk'.2 (by unfold Gh.F; rw [hfx.ol k e]; simp)⟩
  · have : claim3 g.o x' k ≠ .out := hk'
    unfold claim3 at this
    rcases claim_F this with h1 | h1
    · rcases claim_F h1 with h1 | h1
      · rcases claim_F h1 with h1 | h1
        · exact .inl h1
        · rcases al k h1 with h2 | h2
          · exact .inl (by unfold Gh.F; rw [hfx.ol k h2]; simp)
          · exact .inr h2
      · rcases an k h1 with h2 | h2
        · exact .inl (by unfold Gh.F; rw [hfx.on k h2]; simp)
        · exact .inr h2
    · rcases ats k h1 with h2 | h2
      · exact .inl (by unfold Gh.F; rw [hfx.os k h2]; simp)
      · exact .inr h2

/-- A file of nothing. -/
def PF.new : PF := ⟨[], [], []⟩
def Gh.newF (g : Gh) : GF × PF := (⟨g.top, .slice none 0 0, .slice none 0 0, .slice none 0 0⟩, PF.new)

/-- A file is added. -/
theorem DiskAt.add_file (h : DiskAt g w p d) (fv' : Value) (hk : Kept (fun k => k < w.heap.size ∧ k ≠ p ∧ g.fv.ownBlock ≠ some k) w w') (hb : w'.heap[p]? = some (.cells (dCells { g with fv := fv' } d) 51 (0, 0)))
    (hf : w'.ownsRow 0 59 3 fv' (g.l ++ [g.newF]).length (gfCells (g.l ++ [g.newF]))) (hat : ∀ k, fv'.ownBlock = some k → g.fv.ownBlock = some k ∨ (w.heap.size ≤ k ∧ k < w'.heap.size)) :
    DiskAt { g with fv := fv', l := g.l ++ [g.newF], top := g.top + 1, o := claim g.o fv'.ownBlock .files } w' p { d with files := d.files ++ [PF.new] } ∧ Step g { g with fv := fv', l := g.l ++ [g.newF], top := g.top + 1, o := claim g.o fv'.ownBlock .files } w w' := by
  have hout : ∀ k, fv'.ownBlock = some k → g.o k = .files ∨ g.o k = .out := by
    intro k e
    rcases hat k e with h1 | h1
    · exact .inl (h.of k h1)
    · right
      cases ho : g.o k with
      | out => rfl
      | _ => exact absurd (h.olt k (by rw [ho]; simp)) (by omega)
  have hkp : ∀ k, g.o k ≠ .out → claim g.o fv'.ownBlock .files k = g.o k := fun k => claim_keep hout
  have hR : ∀ k, g.o k ≠ .out → g.o k ≠ .disk → g.o k ≠ .files → k < w.heap.size ∧ k ≠ p ∧ g.fv.ownBlock ≠ some k := fun k h1 h2 h3 => ⟨h.olt k h1, fun e => by subst e; exact h2 h.rol, fun e => h3 (h.of k e)⟩
  refine ⟨⟨hb, ?_, ?_, fun x hx => ?_, ?_, fun x hx => ?_, fun k t hk' => ?_, hf, fun k e => claim_at e, ?_, fun k e => ?_, ?_, fun k e => ?_, ?_, fun k e => ?_, fun k hk' => ?_⟩, ?_, fun k hk' => ?_⟩
  · exact (hkp p (by rw [h.rol]; simp)).trans h.rol
  · show d.files ++ [PF.new] = (g.l ++ [g.newF]).map (·.2)
    rw [List.map_append, h.fl]
    rfl
  · rcases List.mem_append.1 hx with hx | hx
    · have hfx := h.fa x hx
      refine FileAt.role (hfx.kept hk fun k e => hR k ?_ ?_ ?_) fun k e => hkp k ?_
      all_goals (rcases e with e | e | e <;> rw [e] <;> simp)
    · obtain rfl := List.mem_singleton.1 hx
      exact ⟨World.ownsRow_nil _ _ _ _, World.ownsRow_nil _ _ _ _, World.ownsRow_nil _ _ _ _, (fun k e => (by cases e)), (fun k e => (by cases e)), (fun k e => (by cases e))⟩
  · rw [List.map_append]
    refine List.nodup_append.2 ⟨h.nod, by simp, fun a ha b hb => ?_⟩
    obtain ⟨y, hy, rfl⟩ := List.mem_map.1 ha
    have := h.lt y hy
    simp only [List.map_cons, List.map_nil, List.mem_singleton] at hb
    subst hb
    show y.1.tok ≠ g.top
    omega
  · rcases List.mem_append.1 hx with hx | hx
    · have := h.lt x hx
      show x.1.tok < g.top + 1
      omega
    · obtain rfl := List.mem_singleton.1 hx
      show g.top < g.top + 1
      omega
  · show t < g.top + 1
    have : t < g.top := by
      refine h.otop k t ?_
      rcases hk' with e | e | e
      · exact .inl (claim_role e (by simp))
      · exact .inr (.inl (claim_role e (by simp)))
      · exact .inr (.inr (claim_role e (by simp)))
    omega
  · exact h.nr.kept hk fun k e => by have := h.onm k e; exact hR k (by rw [this]; simp) (by rw [this]; simp) (by rw [this]; simp)
  · have := h.onm k e
    exact (hkp k (by rw [this]; simp)).trans this
  · exact h.sr.kept hk fun k e => by have := h.osf k e; exact hR k (by rw [this]; simp) (by rw [this]; simp) (by rw [this]; simp)
  · have := h.osf k e
    exact (hkp k (by rw [this]; simp)).trans this
  · exact own_kept h.lr hk fun k e => by have := h.ol k e; exact hR k (by rw [this]; simp) (by rw [this]; simp) (by rw [this]; simp)
  · have := h.ol k e
    exact (hkp k (by rw [this]; simp)).trans this
  · rcases claim_F hk' with h1 | h1
    · exact Nat.lt_of_lt_of_le (h.olt k h1) hk.size
    · exact own_lt hf k h1
  · exact Kept.mono hk fun k hk' => ⟨hk'.1, fun e => by subst e; exact hk'.2 (by unfold Gh.F; rw [h.rol]; simp), fun e => hk'.2 (by unfold Gh.F; rw [h.of k e]; simp)⟩
  · rcases claim_F hk' with h1 | h1
    · exact .inl h1
    · rcases hat k h1 with h2 | h2
      · exact .inl (by unfold Gh.F; rw [h.of k h2]; simp)
      · exact .inr h2.1
end Go.Proofs.Ytfeogoihkpclcaa

/-
  What the calls that change do, once they are counted: Make, Write, Safe, Move, Gone.
-/
namespace Go.Proofs.Ytfeogoihkpclcaa
open Go.RowKit

theorem gf_new_one (g : Gh) : ∀ u ∈ gfCells [g.newF], u.oneCell' = true := by
  intro u hu
  simp [gfCells, Gh.newF] at hu
  subst hu
  rfl

/-- What holds of a disk's sizes. -/
structure Small (d : PD) : Prop where
  files : d.files.length < 10000
  loose : d.loose.length < 10000
  names : d.names.length < 10000
  safe : d.safe.length < 10000
  calls : d.calls < 10000
  idn : ∀ x ∈ d.names, x.2 < d.files.length
  ids : ∀ x ∈ d.safe, x.2 < d.files.length
  ch : ∀ c ∈ d.loose, ChOk c
  fl : ∀ f ∈ d.files, f.safe.length < 2000000 ∧ f.now.length < 2000000 ∧ f.loose.length < 10000 ∧ manyL f.loose < 900000000 ∧ WOk f.safe f.loose ∧ ∀ left, (kept f.loose left f.safe).length < 2000000
  nml : ∀ x ∈ d.names, x.1.length < 1000
  sml : ∀ x ∈ d.safe, x.1.length < 1000

theorem Small.nm {d : PD} (h : Small d) : NmOk d := ⟨by have := h.names; omega, fun x hx => by have := h.idn x hx; have := h.files; omega⟩

def PD.makes (d : PD) (n : List UInt8) : PD := { d with files := d.files ++ [PF.new], names := ren d.names ⟨0, [], n, d.files.length⟩, loose := d.loose ++ [⟨0, [], n, d.files.length⟩] }

set_option maxRecDepth 100000 in
set_option maxHeartbeats 4000000 in
set_option linter.unusedSimpArgs false in
theorem make1_at {g : Gh} {w : World} {p : Nat} {d : PD} (h : DiskAt g w p d) (hsm : Small d) (n : List UInt8) (hn : n.length < 1000) (bd bn : Nat) (hbd : w.cell? ⟨bd, 0, none⟩ = some (.pointer (some ⟨p, 0, none⟩))) (hbn : w.cell? ⟨bn, 0, none⟩ = some (.string (strB n))) (obd : g.o bd = .out) (obn : g.o bn = .out) :
    Calls Try.prog 49 #[.pointer (some ⟨bd, 0, none⟩), .pointer (some ⟨bn, 0, none⟩)] w fun e w' => e = .returned (.tuple #[]) ∧ ∃ g', DiskAt g' w' p (d.makes n) ∧ Step g g' w w' := by
  have hp := blk_lt h.blk
  obtain ⟨w1, hw1⟩ : ∃ w1, w1 = w.drew := ⟨_, rfl⟩
  have hbel : Below w.heap.size w w1 := by subst hw1; exact (Below.refl _ _).drew
  have h1 : w1.heap[p]? = some (.cells (dCells g d) 51 (0, 0)) := (hbel.block p hp).trans h.blk
  have hc1 : w1.cell? ⟨bd, 0, none⟩ = some (.pointer (some ⟨p, 0, none⟩)) := by subst hw1; exact hbd
  have hc1n : w1.cell? ⟨bn, 0, none⟩ = some (.string (strB n)) := by subst hw1; exact hbn
  have hfp : g.fv.ownBlock ≠ some p := fun e => by have := h.of p e; rw [h.rol] at this; cases this
  have hfbd : g.fv.ownBlock ≠ some bd := fun e => by have := h.of bd e; rw [obd] at this; cases this
  have hfbn : g.fv.ownBlock ≠ some bn := fun e => by have := h.of bn e; rw [obn] at this; cases this
  have hpbd : p ≠ bd := fun e => by subst e; rw [h.rol] at obd; cases obd
  have hpbn : p ≠ bn := fun e => by subst e; rw [h.rol] at obn; cases obn
  have hlen : g.l.length = d.files.length := by rw [h.fl, List.length_map]
  have hl : g.l.length < 10000 := by rw [hlen]; exact hsm.files
  obtain ⟨fa, fcap, hfv, _, _⟩ := rd_of_own h.fr
  have Hfv := Lib.hid hfv
  have HD := Lib.hid h
  have Hw1 := Lib.hid hw1
  have H1 := Lib.hid h1
  have HC1 := Lib.hid hc1
  have HC1n := Lib.hid hc1n
  have HBEL := Lib.hid hbel
  have HSM := Lib.hid hsm
  have HL := Lib.hid hl
  have HLEN := Lib.hid hlen
  have HBD := Lib.hid hbd
  have HBN := Lib.hid hbn
  clear hw1 h1 hc1 hc1n h hbel hfv hsm hl hlen hbd hbn
  go_enter Try.func49, Try.ntmps49
  go_wp2
  refine wp_region_two (fun wz => wz.heap[p]? = some (.cells (dCells g d) 51 (0, 0)) ∧ wz.cell? ⟨bd, 0, none⟩ = some (.pointer (some ⟨p, 0, none⟩))) (fun wz => wz.cell? ⟨bd, 0, none⟩ = some (.pointer (some ⟨p, 0, none⟩))) [(1, 0), (0, 1), (0, 2), (0, 3), (0, 4), (0, 5), (2, 6), (3, 7), (1, 8), (1, 9), (3, 10)] [7, 10] (by kernel_rfl) (by kernel_rfl) (by kernel_rfl) (by kernel_rfl) (by kernel_rfl) (by rw [← Hw1.out]; exact ⟨H1.out, HC1.out⟩) (by rw [← Hw1.out]; exact HC1.out) ?_
  simp only [planT, List.drop_succ_cons, List.drop_zero]
  rw [← Hw1.out]
  refine PlanT.take1 (v := ?v0) (by kernel_rfl) ?y0 ?r0
  case y0 => (intro wz hz; go_simp; try with_reducible rfl)
  (try simp only [Act.put, List.setIfInBounds_toArray, List.set_cons_zero, List.set_cons_succ])
  refine PlanT.take0 (v := ?v1) (by kernel_rfl) ?y1 ?r1
  case y1 => (intro wz hz; obtain ⟨z1, z2⟩ := hz; have q5 : wz.cell? ⟨p, 5, none⟩ = some g.fv := blk_cell z1; clear z1; go_simp; try with_reducible rfl)
  (try simp only [Act.put, List.setIfInBounds_toArray, List.set_cons_zero, List.set_cons_succ])
  refine PlanT.take0 (v := ?v2) (by kernel_rfl) ?y2 ?r2
  case y2 => (intro wz hz; obtain ⟨z1, z2⟩ := hz; have q5 : wz.cell? ⟨p, 5, none⟩ = some g.fv := blk_cell z1; clear z1; go_simp; try with_reducible rfl)
  (try simp only [Act.put, List.setIfInBounds_toArray, List.set_cons_zero, List.set_cons_succ])
  refine PlanT.take0 (v := ?v3) (by kernel_rfl) ?y3 ?r3
  case y3 => (intro wz hz; obtain ⟨z1, z2⟩ := hz; have q5 : wz.cell? ⟨p, 5, none⟩ = some g.fv := blk_cell z1; clear z1; go_simp; try with_reducible rfl)
  (try simp only [Act.put, List.setIfInBounds_toArray, List.set_cons_zero, List.set_cons_succ])
  refine PlanT.take0 (v := ?v4) (by kernel_rfl) ?y4 ?r4
  case y4 => (intro wz hz; obtain ⟨z1, z2⟩ := hz; have q5 : wz.cell? ⟨p, 5, none⟩ = some g.fv := blk_cell z1; clear z1; go_simp; try with_reducible rfl)
  (try simp only [Act.put, List.setIfInBounds_toArray, List.set_cons_zero, List.set_cons_succ])
  refine PlanT.take0 (v := ?v5) (by kernel_rfl) ?y5 ?r5
  case y5 => (intro wz hz; obtain ⟨z1, z2⟩ := hz; have q5 : wz.cell? ⟨p, 5, none⟩ = some g.fv := blk_cell z1; clear z1; go_simp; try with_reducible rfl)
  (try simp only [Act.put, List.setIfInBounds_toArray, List.set_cons_zero, List.set_cons_succ])
  refine PlanT.exec2 (fun K hK => ⟨by kernel_rfl, ?_⟩)
  go_simp
  have hb2 := (Below.heap_alloc w1 (.cells #[.slice none 0 0, .slice none 0 0, .slice none 0 0] 59) p (blk_lt H1.out)).trans H1.out
  have hc2 : (w1.alloc (.cells #[.slice none 0 0, .slice none 0 0, .slice none 0 0] 59)).cell? ⟨bd, 0, none⟩ = some (.pointer (some ⟨p, 0, none⟩)) := (World.cell?_alloc_lt _ _ _ (World.block_lt_of_cell? w1 _ HC1.out)).trans HC1.out
  refine hK.out _ _ ⟨hb2, hc2⟩ hc2 ?_
  clear hK K
  (try simp only [Act.put, List.setIfInBounds_toArray, List.set_cons_zero, List.set_cons_succ])
  refine PlanT.exec3 (fun K hK => ⟨by kernel_rfl, ?_⟩)
  refine wp_append_at (.tmp 6) (.tmp 8) 47 rfl 59 3 72 (.agg #[.slice none 0 0, .slice none 0 0, .slice none 0 0]) Try.underlying47 info_file rfl (by decide) g.fv _ g.l.length 1 (gfCells g.l) (gfCells [g.newF]) rfl rfl ?own ?rd (gf_new_one g) (by have := HL.out; omega) (by have := HL.out; unfold maxLen; omega) ?_
  case own => exact own_kept HD.out.fr (R := fun k => k < w.heap.size) (Kept.of (HBEL.out.alloc (by have := HBEL.out.size; omega) _) fun _ h => h) fun k e => own_lt HD.out.fr k e
  case rd => exact ⟨_, 1, rfl, Nat.le_refl _, by unfold maxLen; omega, rfl, .inr ⟨w1.heap.size, 0, rfl, by simp, fun j u hj => by rw [blk_cell (heap_alloc_new w1 _)]; simpa [gfCells, Gh.newF] using hj⟩⟩
  intro v2 w2 ho2 hm2
  obtain ⟨av2, cv2, hv2, _, _⟩ := rd_of_own ho2
  subst hv2
  have hb3 := (hm2.grown.block p (by have := blk_lt H1.out; simp; omega) (fun e => hfp e.symm)).trans hb2
  have hc3 : w2.cell? ⟨bd, 0, none⟩ = some (.pointer (some ⟨p, 0, none⟩)) := (World.cell?_of_block (a := ⟨bd, 0, none⟩) (hm2.grown.block bd (World.block_lt_of_cell? _ _ hc2) (fun e => hfbd e.symm))).trans hc2
  have c5 : w2.cell? ⟨p, 5, none⟩ = some g.fv := blk_cell hb3
  have f5 : w2.frozen? ⟨p, 5, none⟩ = false := blk_free hb3
  have HM2 := Lib.hid hm2
  have HO2 := Lib.hid ho2
  have HB3 := Lib.hid hb3
  have HC3 := Lib.hid hc3
  clear hm2 ho2 hb3 hb2 hc2
  refine hK.out _ _ HC3.out ?_
  clear hK K
  (try simp only [Act.put, List.setIfInBounds_toArray, List.set_cons_zero, List.set_cons_succ])
  refine PlanT.take1 (v := ?v8) (by kernel_rfl) ?y8 ?r8
  case y8 => (intro wz hz; go_simp; try with_reducible rfl)
  (try simp only [Act.put, List.setIfInBounds_toArray, List.set_cons_zero, List.set_cons_succ])
  refine PlanT.take1 (v := ?v9) (by kernel_rfl) ?y9 ?r9
  case y9 => (intro wz hz; go_simp; try with_reducible rfl)
  (try simp only [Act.put, List.setIfInBounds_toArray, List.set_cons_zero, List.set_cons_succ])
  refine PlanT.exec3 (fun K hK => ⟨by kernel_rfl, ?_⟩)
  go_simp
  have hc4 : (w2.setCell ⟨p, 5, none⟩ (.slice av2 (g.l.length + 1) cv2)).cell? ⟨bd, 0, none⟩ = some (.pointer (some ⟨p, 0, none⟩)) := (World.cell?_setCell_far _ _ _ _ hpbd).trans HC3.out
  refine hK.out _ _ hc4 ?_
  clear hK K
  (try simp only [Act.put, List.setIfInBounds_toArray, List.set_cons_zero, List.set_cons_succ])
  refine PlanT.done (NoPanic.normal ?_)
  obtain ⟨w3, hw3⟩ : ∃ w3, w3 = w2.setCell ⟨p, 5, none⟩ (.slice av2 (g.l.length + 1) cv2) := ⟨_, rfl⟩
  rw [← hw3]
  have hb4 : w3.heap[p]? = some (.cells (dCells { g with fv := .slice av2 (g.l.length + 1) cv2 } d) 51 (0, 0)) := by
    subst hw3
    exact (blk_set (i := 5) HB3.out _).trans (by simp [dCells])
  have hm4 : Moves w w2 g.fv (.slice av2 (g.l.length + 1) cv2) := Moves.after (HBEL.out.alloc (by have := HBEL.out.size; omega) _) HM2.out
  have hk4 : Kept (fun k => k < w.heap.size ∧ k ≠ p ∧ g.fv.ownBlock ≠ some k) w w3 := by
    subst hw3
    exact (hm4.kept fun k hk => ⟨hk.1, hk.2.2⟩).setCell (fun h => h.2.1 rfl) _
  have hs4 : w3.heap.size = w2.heap.size := by subst hw3; simp [World.setCell]
  have ho4 : w3.ownsRow 0 59 3 (.slice av2 (g.l.length + 1) cv2) (g.l ++ [g.newF]).length (gfCells (g.l ++ [g.newF])) := by
    have e1 : gfCells (g.l ++ [g.newF]) = gfCells g.l ++ gfCells [g.newF] := by simp [gfCells]
    rw [e1, List.length_append]
    subst hw3
    refine own_kept HO2.out (R := fun k => k ≠ p) ((Kept.refl _ w2).setCell (fun h => h rfl) _) fun k e ep => ?_
    subst ep
    rcases hm4.at_ k e with h | h
    · exact hfp h
    · omega
  have hset := HD.out.add_file _ hk4 hb4 ho4 (fun k e => by rw [hs4]; exact hm4.at_ k e)
  have hcd : w3.cell? ⟨bd, 0, none⟩ = some (.pointer (some ⟨p, 0, none⟩)) := (hk4.cell (p := ⟨bd, 0, none⟩) ⟨World.block_lt_of_cell? _ _ HBD.out, Ne.symm hpbd, hfbd⟩).trans HBD.out
  have hcn : w3.cell? ⟨bn, 0, none⟩ = some (.string (strB n)) := (hk4.cell (p := ⟨bn, 0, none⟩) ⟨World.block_lt_of_cell? _ _ HBN.out, Ne.symm hpbn, hfbn⟩).trans HBN.out
  have c5' : w3.cell? ⟨p, 5, none⟩ = some (.slice av2 (g.l.length + 1) cv2) := blk_cell hb4
  obtain ⟨w4, hw4⟩ : ∃ w4, w4 = w3.drew := ⟨_, rfl⟩
  have hd4 : DiskAt { g with fv := .slice av2 (g.l.length + 1) cv2, l := g.l ++ [g.newF], top := g.top + 1, o := claim g.o (Value.slice av2 (g.l.length + 1) cv2).ownBlock .files } w4 p { d with files := d.files ++ [PF.new] } := by subst hw4; exact hset.1.drew
  have hch := change_at hd4 ⟨0, [], n, d.files.length⟩ ⟨Nat.zero_le 2, (show (0 : Nat) < 1000000000 by omega), (show n.length < 1000000000 by omega), by have := HSM.out.files; show d.files.length < _; omega⟩ ⟨HSM.out.nm.n, HSM.out.nm.ids⟩ (by have := HSM.out.loose; show d.loose.length < _; omega)
  have hch2 : Calls Try.prog 50 #[.pointer (some ⟨p, 0, none⟩), .agg #[.int .i64 0, .string ⟨#[]⟩, .string (strB n), .int .i64 (d.files.length : Int)]] w4 fun e w' => e = .returned (.tuple #[]) ∧ ∃ g', DiskAt g' w' p (d.makes n) ∧ Step { g with fv := .slice av2 (g.l.length + 1) cv2, l := g.l ++ [g.newF], top := g.top + 1, o := claim g.o (Value.slice av2 (g.l.length + 1) cv2).ownBlock .files } g' w4 w' := by
    refine Calls.mono hch ?_
    rintro e w' ⟨rfl, g', h1, h2, _⟩
    exact ⟨rfl, g', h1, h2⟩
  have HCH := Lib.hid hch2
  have HST := Lib.hid hset.2
  have k1 : w4.cell? ⟨bd, 0, none⟩ = some (.pointer (some ⟨p, 0, none⟩)) := by subst hw4; exact hcd
  have k2 : w4.cell? ⟨bn, 0, none⟩ = some (.string (strB n)) := by subst hw4; exact hcn
  have k3 : w4.cell? ⟨p, 5, none⟩ = some (.slice av2 (g.l.length + 1) cv2) := by subst hw4; exact c5'
  have Hw4 := Lib.hid hw4
  have hsz : Below w3.heap.size w3 w4 := by subst hw4; exact (Below.refl _ _).drew
  have HSZ := Lib.hid hsz
  have hint : IntKind.i64.wrap (g.l.length : Int) = (d.files.length : Int) := by
    rw [← HLEN.out]
    have := HL.out
    exact IntWalk.i64_in _ (by omega)
  clear hch hch2 hd4 hset ho4 hs4 hk4 hm4 hb4 hw3 hw4 c5 f5 hcd hcn c5' hc4 hsz
  go_wp2
  refine wp_region_two (fun wz => wz = w4) (fun _ => True) [(0, 0), (0, 1), (0, 2), (0, 3), (0, 4), (0, 5), (0, 6), (0, 7), (0, 8), (3, 9)] [9] (by kernel_rfl) (by kernel_rfl) (by kernel_rfl) (by kernel_rfl) (by kernel_rfl) Hw4.out.symm trivial ?_
  simp only [planT, List.drop_succ_cons, List.drop_zero]
  rw [← Hw4.out]
  refine PlanT.take0 (v := ?vB0) (by kernel_rfl) ?yB0 ?rB0
  case yB0 => (intro wz hz; subst hz; go_simp; try with_reducible rfl)
  (try simp only [Act.put, List.setIfInBounds_toArray, List.set_cons_zero, List.set_cons_succ])
  refine PlanT.take0 (v := ?vB1) (by kernel_rfl) ?yB1 ?rB1
  case yB1 => (intro wz hz; subst hz; go_simp; try with_reducible rfl)
  (try simp only [Act.put, List.setIfInBounds_toArray, List.set_cons_zero, List.set_cons_succ])
  refine PlanT.take0 (v := ?vB2) (by kernel_rfl) ?yB2 ?rB2
  case yB2 => (intro wz hz; subst hz; go_simp; try with_reducible rfl)
  (try simp only [Act.put, List.setIfInBounds_toArray, List.set_cons_zero, List.set_cons_succ])
  refine PlanT.take0 (v := ?vB3) (by kernel_rfl) ?yB3 ?rB3
  case yB3 => (intro wz hz; subst hz; go_simp; try with_reducible rfl)
  (try simp only [Act.put, List.setIfInBounds_toArray, List.set_cons_zero, List.set_cons_succ])
  refine PlanT.take0 (v := ?vB4) (by kernel_rfl) ?yB4 ?rB4
  case yB4 => (intro wz hz; subst hz; go_simp; try with_reducible rfl)
  (try simp only [Act.put, List.setIfInBounds_toArray, List.set_cons_zero, List.set_cons_succ])
  refine PlanT.take0 (v := ?vB5) (by kernel_rfl) ?yB5 ?rB5
  case yB5 => (intro wz hz; subst hz; go_simp; try with_reducible rfl)
  (try simp only [Act.put, List.setIfInBounds_toArray, List.set_cons_zero, List.set_cons_succ])
  refine PlanT.take0 (v := ?vB6) (by kernel_rfl) ?yB6 ?rB6
  case yB6 => (intro wz hz; subst hz; go_simp; try with_reducible rfl)
  (try simp only [Act.put, List.setIfInBounds_toArray, List.set_cons_zero, List.set_cons_succ])
  refine PlanT.take0 (v := ?vB7) (by kernel_rfl) ?yB7 ?rB7
  case yB7 => (intro wz hz; subst hz; go_simp; try with_reducible rfl)
  (try simp only [Act.put, List.setIfInBounds_toArray, List.set_cons_zero, List.set_cons_succ])
  refine PlanT.take0 (v := ?vB8) (by kernel_rfl) ?yB8 ?rB8
  case yB8 => (intro wz hz; subst hz; go_simp; try with_reducible rfl)
  (try simp only [Act.put, List.setIfInBounds_toArray, List.set_cons_zero, List.set_cons_succ])
  refine PlanT.exec3 (fun K hK => ⟨by kernel_rfl, ?_⟩)
  go_simp
  (with_reducible refine HCH.out.mono ?_)
  rintro e w5 ⟨rfl, g5, hd5, hst5⟩
  refine hK.out _ _ trivial ?_
  clear hK K
  (try simp only [Act.put, List.setIfInBounds_toArray, List.set_cons_zero, List.set_cons_succ])
  refine PlanT.done (NoPanic.normal ?_)
  go_wp2
  go_end0
  exact ⟨rfl, g5, hd5, (HST.out.trans (Step.below HSZ.out)).trans hst5⟩
end Go.Proofs.Ytfeogoihkpclcaa

/-
  A change is counted, and done; Make.
-/
namespace Go.Proofs.Ytfeogoihkpclcaa
open Go.RowKit

def PD.dn (d : PD) : Bool := decide ((d.calls : Int) + 1 = d.crash)
def PD.cnt (d : PD) : PD := { d with calls := d.calls + 1, down := d.dn }
def PD.isdo (d : PD) : Bool := !d.dn || d.done
def PD.err (d : PD) : Nat := if d.dn then 7 else 0
def PD.after (d : PD) (f : PD → PD) : PD := if d.isdo then f d.cnt else d.cnt

theorem out_of {g : Gh} {w : World} {p : Nat} {d : PD} (h : DiskAt g w p d) {k : Nat} (hk : w.heap.size ≤ k) : g.o k = .out := by
  cases ho : g.o k with
  | out => rfl
  | _ => exact absurd (h.olt k (by rw [ho]; simp)) (by omega)

theorem counted {g : Gh} {w : World} {p : Nat} {d : PD} (h : DiskAt g w p d) (hcl : d.calls < 10000) (k : Nat) (fst caps : Array Value) (hen : Enters Try.prog k) (f : PD → PD) (hf : (f d.cnt).down = d.dn)
    (hdo : d.isdo = true → ∀ w1, DiskAt g w1 p d.cnt → Kept (fun j => j < w.heap.size ∧ j ≠ p) w w1 → w1.heap.size = w.heap.size → Calls Try.prog k (fst ++ caps) w1 fun e w2 => e = .returned (.tuple #[]) ∧ ∃ g', DiskAt g' w2 p (f d.cnt) ∧ Step g g' w1 w2) :
    Calls Try.prog 48 #[.pointer (some ⟨p, 0, none⟩), .func (.func k) fst caps] w fun e w' => e = .returned (.int .i64 (d.err : Int)) ∧ ∃ g', DiskAt g' w' p (d.after f) ∧ Step g g' w w' := by
  have hb := h.blk
  unfold dCells at hb
  have hscal : ∀ w1, w1.heap[p]? = some (.cells #[.int .i64 d.room, .int .i64 d.crash, .bool d.done, .int .i64 ((d.calls : Int) + 1), .bool d.dn, g.fv, g.nv, g.sv, g.lv] 51 (0, 0)) → Kept (fun j => j < w.heap.size ∧ j ≠ p) w w1 → DiskAt g w1 p d.cnt ∧ Step g g w w1 := by
    intro w1 h1 hk
    refine ⟨h.scal (d' := d.cnt) hk ?_ rfl rfl rfl rfl, step_scal h hk⟩
    rw [h1]
    simp [dCells, PD.cnt]
  have hdo2 : d.isdo = true → ∀ w1, w1.heap[p]? = some (.cells #[.int .i64 d.room, .int .i64 d.crash, .bool d.done, .int .i64 ((d.calls : Int) + 1), .bool d.dn, g.fv, g.nv, g.sv, g.lv] 51 (0, 0)) → Kept (fun j => j < w.heap.size ∧ j ≠ p) w w1 → w1.heap.size = w.heap.size →
      Calls Try.prog k (fst ++ caps) w1 fun e w2 => e = .returned (.tuple #[]) ∧ w2.cell? ⟨p, 4, none⟩ = some (.bool d.dn) ∧ ∃ g', DiskAt g' w2 p (f d.cnt) ∧ Step g g' w w2 := by
    intro hi w1 h1 hk hs
    obtain ⟨hd1, hst1⟩ := hscal w1 h1 hk
    refine (hdo hi w1 hd1 hk hs).mono ?_
    rintro e w2 ⟨rfl, g', hd2, hst2⟩
    refine ⟨rfl, ?_, g', hd2, hst1.trans hst2⟩
    rw [blk_cell hd2.blk]
    simp [dCells, hf]
  by_cases hdn : (d.calls : Int) + 1 = d.crash
  · have hdn1 : d.dn = true := by simp [PD.dn, hdn]
    by_cases hdone : d.done = true
    · have hi : d.isdo = true := by simp [PD.isdo, hdone]
      have := hdo2 hi
      rw [hdn1, hdone] at this
      rw [hdone] at hb
      refine (count_last w p _ _ _ _ _ _ d.crash d.calls k fst caps hb (by omega) ⟨_, rfl⟩ hdn hen _ this).mono ?_
      rintro e w' ⟨rfl, g', r1, r2⟩
      exact ⟨by simp [PD.err, hdn1], g', by unfold PD.after; rw [if_pos hi]; exact r1, r2⟩
    · have hd0 : d.done = false := by simpa using hdone
      have hi : d.isdo = false := by simp [PD.isdo, hdn1, hd0]
      rw [hd0] at hb
      refine (count_stop w p _ _ _ _ _ _ d.crash d.calls k fst caps hb (by omega) ⟨_, rfl⟩ hdn).mono ?_
      rintro e w' ⟨rfl, r1, r2, _⟩
      rw [← hd0, ← hdn1] at r1
      obtain ⟨s1, s2⟩ := hscal w' r1 r2
      exact ⟨by simp [PD.err, hdn1], g, by unfold PD.after; rw [if_neg (by rw [hi]; simp)]; exact s1, s2⟩
  · have hdn1 : d.dn = false := by simp [PD.dn, hdn]
    have hi : d.isdo = true := by simp [PD.isdo, hdn1]
    have := hdo2 hi
    rw [hdn1] at this
    refine (count_up w p _ _ _ _ _ _ d.crash d.calls d.done k fst caps hb (by omega) ⟨_, rfl⟩ hdn hen _ this).mono ?_
    rintro e w' ⟨rfl, g', r1, r2⟩
    exact ⟨by simp [PD.err, hdn1], g', by unfold PD.after; rw [if_pos hi]; exact r1, r2⟩

/-- The file of a name is there, or not. -/
theorem find_at {g : Gh} {w : World} {p : Nat} {d : PD} (h : DiskAt g w p d) (s : ByteArray) (hs : s.size ≤ maxLen) (hid : ∀ x ∈ d.names, x.2 < d.files.length) :
    (dfind d.names s.data.toList = none ∧ Calls Try.prog 42 #[.pointer (some ⟨p, 0, none⟩), .string s] w fun e w' => e = .returned (.pointer none) ∧ w = w') ∨
    ∃ (id fb cap : Nat) (x : GF) (f : PF), dfind d.names s.data.toList = some id ∧ id < d.files.length ∧ g.fv = .slice (some ⟨fb, 0, none⟩) g.l.length cap ∧ g.l[id]? = some (x, f) ∧ d.files[id]? = some f ∧ g.o fb = .files ∧ fb < w.heap.size ∧ FileAt g.o w x f ∧
      w.cell? ⟨fb, id * 3, none⟩ = some x.vs ∧ w.cell? ⟨fb, id * 3 + 1, none⟩ = some x.vn ∧ w.cell? ⟨fb, id * 3 + 2, none⟩ = some x.vl ∧ (∀ j, w.frozen? ⟨fb, j, none⟩ = false) ∧
      Calls Try.prog 42 #[.pointer (some ⟨p, 0, none⟩), .string s] w fun e w' => e = .returned (.pointer (some ⟨fb, id * 3, none⟩)) ∧ w = w' := by
  have c6 : w.cell? ⟨p, 6, none⟩ = some g.nv := blk_cell h.blk
  have c5 : w.cell? ⟨p, 5, none⟩ = some g.fv := blk_cell h.blk
  cases hf : dfind d.names s.data.toList with
  | none => exact .inl ⟨rfl, find_none w p g.nv d.names s hs c6 h.nr hf⟩
  | some id =>
    right
    have hidl : id < d.files.length := by
      obtain ⟨x, hx, _, e⟩ := dfind_mem hf
      rw [← e]; exact hid x hx
    obtain ⟨fb, cap, x, hfv, hlt, hx, hfa, hof, hfb, e0, e1, e2, ef⟩ := h.file (List.getElem?_eq_getElem hidl)
    rw [hfv] at c5
    exact ⟨id, fb, cap, x, d.files[id], rfl, hidl, hfv, hx, List.getElem?_eq_getElem hidl, hof, hfb, hfa, e0, e1, e2, ef, find_some w p g.nv d.names s hs c6 h.nr id hf fb g.l.length cap c5 hlt⟩

def PD.make (d : PD) (n : List UInt8) : Nat × PD :=
  if d.down then (7, d) else if !nmOk n then (1, d) else if (dfind d.names n).isSome then (3, d) else (d.err, d.after (·.makes n))

theorem enters_make1 : Enters Try.prog 49 := enters_of Try.func49 (by kernel_rfl) rfl

theorem eqp_nil (w : World) (a : Addr) : (binOp .neq 83 (.pointer (some a)) (.pointer none)).run Try.prog w = .ok (.bool true) w := by kernel_rfl

theorem Small.cnt {d : PD} (h : Small d) (hc : d.calls + 1 < 10000) : Small d.cnt := ⟨h.files, h.loose, h.names, h.safe, hc, h.idn, h.ids, h.ch, h.fl, h.nml, h.sml⟩

set_option maxRecDepth 100000 in
set_option maxHeartbeats 2000000 in
theorem make_at {g : Gh} {w : World} {p : Nat} {d : PD} (h : DiskAt g w p d) (hsm : Small d) (hcl : d.calls + 1 < 10000) (s : ByteArray) (hs : s.size ≤ maxLen) :
    Calls Try.prog 17 #[.pointer (some ⟨p, 0, none⟩), .string s] w fun e w' => e = .returned (.int .i64 ((d.make s.data.toList).1 : Int)) ∧ ∃ g', DiskAt g' w' p (d.make s.data.toList).2 ∧ Step g g' w w' := by
  obtain ⟨w1, hw1⟩ : ∃ w1, w1 = (w.alloc (.cells #[.pointer (some ⟨p, 0, none⟩)] 28)).alloc (.cells #[.string s] 9) := ⟨_, rfl⟩
  have hbel : Below w.heap.size w w1 := by subst hw1; exact ((Below.refl _ _).alloc (Nat.le_refl _) _).alloc (by simp) _
  have hd1 : DiskAt g w1 p d := h.below hbel
  have hst1 : Step g g w w1 := Step.below hbel
  have hbd : w1.cell? ⟨w.heap.size, 0, none⟩ = some (.pointer (some ⟨p, 0, none⟩)) := by
    subst hw1
    rw [World.cell?_of_block (a := ⟨w.heap.size, 0, none⟩) (Below.heap_alloc _ _ _ (by simp)), blk_cell (heap_alloc_new w _)]
    rfl
  have hbn : w1.cell? ⟨w.heap.size + 1, 0, none⟩ = some (.string s) := by
    subst hw1
    rw [blk_cell (heap_new2 w _ _)]
    rfl
  have hwd : w1.heap.size = w.heap.size + 2 := by subst hw1; simp
  have c4 : w1.cell? ⟨p, 4, none⟩ = some (.bool d.down) := blk_cell hd1.blk
  have hnm := isName_any w1 s hs
  have Hw1 := Lib.hid hw1
  have hpw := blk_lt h.blk
  have hne : ¬ w.heap.size = p := by omega
  have hne' : ¬ w.heap.size + 1 = p := by omega
  cases hdn : d.down with
  | true =>
    rw [show d.make s.data.toList = (7, d) by unfold PD.make; simp [hdn]]
    dsimp only
    rw [hdn] at c4
    have HSH := Lib.hid (shut_any w1 p true c4)
    clear hnm hsm hdn c4 hbd hbn hwd h hw1
    go_enter Try.func17, Try.ntmps17
    go_wp2_with (go_at_call 46; rw [← Hw1.out]; refine HSH.out.mono ?_; rintro e w5 ⟨rfl, rfl⟩)
    go_ret
    exact ⟨rfl, g, hd1, hst1⟩
  | false =>
    rw [hdn] at c4
    have HSH := Lib.hid (shut_any w1 p false c4)
    cases hok : nmOk s.data.toList with
    | false =>
      rw [show d.make s.data.toList = (1, d) by unfold PD.make; simp [hdn, hok]]
      dsimp only
      rw [hok] at hnm
      have HNM := Lib.hid hnm
      have HOK := Lib.hid hok
      clear hnm hsm hdn c4 hwd h hw1 hok
      go_enter Try.func17, Try.ntmps17
      go_wp2_with (first | (go_at_call 46; rw [← Hw1.out]; refine HSH.out.mono ?_; rintro e w5 ⟨rfl, rfl⟩) | (go_at_call 47; refine HNM.out.mono ?_; rintro e w5 ⟨rfl, rfl⟩))
      go_ret
      exact ⟨rfl, g, hd1, hst1⟩
    | true =>
      rw [hok] at hnm
      have HNM := Lib.hid hnm
      have hlen : s.data.toList.length ≤ 40 := by
        unfold nmOk at hok
        simp only [Bool.and_eq_true, decide_eq_true_eq] at hok
        exact hok.2
      have HOK := Lib.hid hok
      clear hnm hok
      rcases find_at hd1 s hs hsm.idn with ⟨hf, hcall⟩ | ⟨id, fb, cap, x, f, hf, _, _, _, _, _, _, _, _, _, _, _, hcall⟩
      · rw [show d.make s.data.toList = (d.err, d.after (·.makes s.data.toList)) by unfold PD.make; simp [hdn, HOK.out, hf]]
        dsimp only
        have HC := Lib.hid hcall
        have HF := Lib.hid hf
        have hcn := counted (k := 49) (fst := #[]) (caps := #[.pointer (some ⟨w.heap.size, 0, none⟩), .pointer (some ⟨w.heap.size + 1, 0, none⟩)]) hd1 (by omega) enters_make1 (·.makes s.data.toList) rfl
          (fun _ w2 hd2 hk2 hs2 => make1_at hd2 (hsm.cnt hcl) s.data.toList (by omega) w.heap.size (w.heap.size + 1) ((hk2.cell (p := ⟨w.heap.size, 0, none⟩) ⟨by simp; omega, by simpa using hne⟩).trans hbd) ((hk2.cell (p := ⟨w.heap.size + 1, 0, none⟩) ⟨by simp; omega, by simpa using hne'⟩).trans hbn) (out_of h (Nat.le_refl _)) (out_of h (by omega)))
        have HCN := Lib.hid hcn
        clear hcall hf hcn hsm hdn c4 hwd h hw1
        go_enter Try.func17, Try.ntmps17
        go_wp2_with (first | (go_at_call 46; rw [← Hw1.out]; refine HSH.out.mono ?_; rintro e w5 ⟨rfl, rfl⟩) | (go_at_call 47; refine HNM.out.mono ?_; rintro e w5 ⟨rfl, rfl⟩) | (go_at_call 42; refine HC.out.mono ?_; rintro e w5 ⟨rfl, rfl⟩) | (go_at_call 48; (with_reducible refine HCN.out.mono ?_); rintro e w5 ⟨rfl, g5, hd5, hst5⟩))
        go_ret
        exact ⟨rfl, g5, hd5, hst1.trans hst5⟩
      · rw [show d.make s.data.toList = (3, d) by unfold PD.make; simp [hdn, HOK.out, hf]]
        dsimp only
        have HC := Lib.hid hcall
        have HF := Lib.hid hf
        have hq := eqp_nil
        clear hcall hf hsm hdn c4 hwd h hw1
        go_enter Try.func17, Try.ntmps17
        go_wp2_with (first | (go_at_call 46; rw [← Hw1.out]; refine HSH.out.mono ?_; rintro e w5 ⟨rfl, rfl⟩) | (go_at_call 47; refine HNM.out.mono ?_; rintro e w5 ⟨rfl, rfl⟩) | (go_at_call 42; refine HC.out.mono ?_; rintro e w5 ⟨rfl, rfl⟩))
        go_ret
        exact ⟨rfl, g, hd1, hst1⟩
end Go.Proofs.Ytfeogoihkpclcaa
