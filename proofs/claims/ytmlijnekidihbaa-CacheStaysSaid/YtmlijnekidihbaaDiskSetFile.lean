/-
  A file of a disk is written; a file is added.
-/
import Derived.Test.YtmlijnekidihbaaDiskChange
namespace Go.Proofs.Ytmlijnekidihbaa
open Go.RowKit

theorem flat_set {α β : Type} (f : α → List β) (k : Nat) (hf : ∀ a, (f a).length = k) : ∀ (l : List α) (i j : Nat) (a a' : α) (v : β), j < k → l[i]? = some a → f a' = (f a).set j v → (l.set i a').flatMap f = (l.flatMap f).set (i * k + j) v
  | [], _, _, _, _, _, _, h, _ => by simp at h
  | b :: r, 0, j, a, a', v, hj, h, e => by
    simp only [List.getElem?_cons_zero, Option.some.injEq] at h
    subst h
    rw [List.set_cons_zero, List.flatMap_cons, List.flatMap_cons, e, Nat.zero_mul, Nat.zero_add, List.set_append, if_pos (by rw [hf]; exact hj)]
  | b :: r, i + 1, j, a, a', v, hj, h, e => by
    rw [List.set_cons_succ, List.flatMap_cons, List.flatMap_cons, flat_set f k hf r i j a a' v hj (by simpa using h) e, List.set_append, if_neg (by rw [hf, Nat.succ_mul]; omega), hf]
    congr 2
    rw [Nat.succ_mul]; omega

/-- A row whose block was written at one place. -/
theorem own_set {w w' : World} {B e size n : Nat} {fb cap : Nat} {cs : List Value} {cur cur' : Array Value} (h : w.ownsRow B e size (.slice (some ⟨fb, 0, none⟩) n cap) n cs) (hb : w.heap[fb]? = some (.cells cur e (0, 0)))
    (hb' : w'.heap[fb]? = some (.cells cur' e (0, 0))) (hs : cur'.size = cur.size) (cs' : List Value) (hl : cs'.length = cs.length) (ht : cur.toList.take (n * size) = cs → cur'.toList.take (n * size) = cs') : w'.ownsRow B e size (.slice (some ⟨fb, 0, none⟩) n cap) n cs' := by
  refine ⟨hl.trans h.1, ?_⟩
  rcases h.2 with ⟨h1, _⟩ | ⟨g, cap', cur0, hv, h3, hg, hn, hm, hcs, htake⟩
  · cases h1
  · cases hv
    rw [hb] at hg
    cases hg
    exact .inr ⟨fb, cap, cur', rfl, h3, hb', hn, hm, by rw [hs]; exact hcs, ht htake⟩

theorem take_set (cur : Array Value) (m i : Nat) (v : Value) : (cur.setIfInBounds i v).toList.take m = (cur.toList.take m).set i v := by
  rw [Array.toList_setIfInBounds, List.take_set]

variable {g : Gh} {w w' : World} {p : Nat} {d : PD}

/-- Roles with the three slices of a file. -/
def claim3 (o : Nat → Role) (x : GF) : Nat → Role := claim (claim (claim o x.vl.ownBlock (.fl x.tok)) x.vn.ownBlock (.fn x.tok)) x.vs.ownBlock (.fs x.tok)

/-- A file is written: other slices, other bytes. -/
theorem DiskAt.set_file (h : DiskAt g w p d) (i : Nat) (x x' : GF) (f f' : PF) (hx : g.l[i]? = some (x, f)) (htok : x'.tok = x.tok)
    (hk : Kept (fun k => k < w.heap.size ∧ g.fv.ownBlock ≠ some k ∧ x.vs.ownBlock ≠ some k ∧ x.vn.ownBlock ≠ some k ∧ x.vl.ownBlock ≠ some k) w w')
    (hrow : w'.ownsRow 0 93 3 g.fv g.l.length (gfCells (g.l.set i (x', f'))))
    (hvs : OwnB w' 0 5 x'.vs f'.safe) (hvn : OwnB w' 0 5 x'.vn f'.now) (hvl : w'.ownsRow 0 96 2 x'.vl f'.loose.length (putCells f'.loose))
    (ats : ∀ k, x'.vs.ownBlock = some k → x.vs.ownBlock = some k ∨ w.heap.size ≤ k) (an : ∀ k, x'.vn.ownBlock = some k → x.vn.ownBlock = some k ∨ w.heap.size ≤ k) (al : ∀ k, x'.vl.ownBlock = some k → x.vl.ownBlock = some k ∨ w.heap.size ≤ k)
    (dsn : ∀ k, x'.vs.ownBlock = some k → x'.vn.ownBlock ≠ some k) (dsl : ∀ k, x'.vs.ownBlock = some k → x'.vl.ownBlock ≠ some k) (dnl : ∀ k, x'.vn.ownBlock = some k → x'.vl.ownBlock ≠ some k) :
    DiskAt { g with l := g.l.set i (x', f'), o := claim3 g.o x' } w' p { d with files := d.files.set i f' } ∧ Step g { g with l := g.l.set i (x', f'), o := claim3 g.o x' } w w' := by
  have hmem : (x, f) ∈ g.l := List.mem_of_getElem? hx
  have hfx := h.fa _ hmem
  have hin : i < g.l.length := (List.getElem?_eq_some_iff.1 hx).1
  have hout : ∀ k, w.heap.size ≤ k → g.o k = .out := fun k hk => by
    cases ho : g.o k with
    | out => rfl
    | _ => exact absurd (h.olt k (by rw [ho]; simp)) (by omega)
  have k1 : ∀ k, g.o k ≠ .out → claim g.o x'.vl.ownBlock (.fl x'.tok) k = g.o k := fun k => claim_keep fun k e => by
    rcases al k e with h1 | h1
    · exact .inl (by rw [htok]; exact hfx.ol k h1)
    · exact .inr (hout k h1)
  have k2 : ∀ k, g.o k ≠ .out → claim (claim g.o x'.vl.ownBlock (.fl x'.tok)) x'.vn.ownBlock (.fn x'.tok) k = g.o k := fun k hk => by
    refine (claim_keep (fun k e => ?_) (by rw [k1 k hk]; exact hk)).trans (k1 k hk)
    rw [claim_old (dnl k e)]
    rcases an k e with h1 | h1
    · exact .inl (by rw [htok]; exact hfx.on k h1)
    · exact .inr (hout k h1)
  have k3 : ∀ k, g.o k ≠ .out → claim3 g.o x' k = g.o k := fun k hk => by
    unfold claim3
    refine (claim_keep (fun k e => ?_) (by rw [k2 k hk]; exact hk)).trans (k2 k hk)
    rw [claim_old (dsn k e), claim_old (dsl k e)]
    rcases ats k e with h1 | h1
    · exact .inl (by rw [htok]; exact hfx.os k h1)
    · exact .inr (hout k h1)
  have inv : ∀ k s, claim3 g.o x' k = s → s ≠ .out → g.o k = s ∨ s = .fs x'.tok ∨ s = .fn x'.tok ∨ s = .fl x'.tok := by
    intro k s e hs
    unfold claim3 at e
    unfold claim at e
    split at e
    · exact .inr (.inl e.symm)
    · split at e
      · exact .inr (.inr (.inl e.symm))
      · split at e
        · exact .inr (.inr (.inr e.symm))
        · exact .inl e
  have hR : ∀ k, g.o k ≠ .out → g.o k ≠ .files → g.o k ≠ .fs x.tok → g.o k ≠ .fn x.tok → g.o k ≠ .fl x.tok → k < w.heap.size ∧ g.fv.ownBlock ≠ some k ∧ x.vs.ownBlock ≠ some k ∧ x.vn.ownBlock ≠ some k ∧ x.vl.ownBlock ≠ some k :=
    fun k h1 h2 h3 h4 h5 => ⟨h.olt k h1, fun e => h2 (h.of k e), fun e => h3 (hfx.os k e), fun e => h4 (hfx.on k e), fun e => h5 (hfx.ol k e)⟩
  have htoks : (g.l.set i (x', f')).map (·.1.tok) = g.l.map (·.1.tok) := by
    rw [List.map_set]
    apply List.ext_getElem?
    intro j
    rw [List.getElem?_set]
    split
    · rename_i e; subst e
      rw [List.getElem?_map, hx]
      simp [htok, hin]
    · rfl
  have hmemset : ∀ y ∈ g.l.set i (x', f'), y = (x', f') ∨ (y ∈ g.l ∧ y.1.tok ≠ x.tok) := by
    intro y hy
    obtain ⟨j, hj⟩ := List.mem_iff_getElem?.1 hy
    rw [List.getElem?_set] at hj
    split at hj
    · rename_i e; subst e
      exact .inl (by simpa using hj.symm)
    · rename_i e
      refine .inr ⟨List.mem_of_getElem? hj, fun et => ?_⟩
      have hnd := h.nod
      have h1 : (g.l.map (·.1.tok))[i]? = some x.tok := by rw [List.getElem?_map, hx]; rfl
      have h2 : (g.l.map (·.1.tok))[j]? = some x.tok := by rw [List.getElem?_map, hj]; simp [et]
      obtain ⟨hi', e1⟩ := List.getElem?_eq_some_iff.1 h1
      obtain ⟨hj', e2⟩ := List.getElem?_eq_some_iff.1 h2
      rcases Nat.lt_or_gt_of_ne e with hl | hl
      · exact List.pairwise_iff_getElem.1 hnd i j hi' hj' hl (e1.trans e2.symm)
      · exact List.pairwise_iff_getElem.1 hnd j i hj' hi' hl (e2.trans e1.symm)
  refine ⟨⟨?_, ?_, ?_, fun y hy => ?_, by rw [htoks]; exact h.nod, fun y hy => ?_, fun k t hk' => ?_, by rw [List.length_set]; exact hrow, fun k e => ?_, ?_, fun k e => ?_, ?_, fun k e => ?_, ?_, fun k e => ?_, fun k hk' => ?_⟩, ?_, fun k hk' => ?_⟩
  · exact (hk.block p (hR p (by rw [h.rol]; simp) (by rw [h.rol]; simp) (by rw [h.rol]; simp) (by rw [h.rol]; simp) (by rw [h.rol]; simp))).trans h.blk
  · exact (k3 p (by rw [h.rol]; simp)).trans h.rol
  · show d.files.set i f' = (g.l.set i (x', f')).map (·.2)
    rw [h.fl, List.map_set]
  · rcases hmemset y hy with rfl | ⟨hy', ht⟩
    · refine ⟨hvs, hvn, hvl, fun k e => ?_, fun k e => ?_, fun k e => ?_⟩
      · show claim3 g.o x' k = _
        unfold claim3
        exact claim_at e
      · show claim3 g.o x' k = _
        unfold claim3
        rw [claim_old (fun e' => dsn k e' e)]
        exact claim_at e
      · show claim3 g.o x' k = _
        unfold claim3
        rw [claim_old (fun e' => dsl k e' e), claim_old (fun e' => dnl k e' e)]
        exact claim_at e
    · refine FileAt.role ((h.fa y hy').kept hk fun k e => hR k ?_ ?_ ?_ ?_ ?_) fun k e => k3 k ?_
      all_goals (rcases e with e | e | e <;> rw [e] <;> simp [ht])
  · rcases hmemset y hy with rfl | ⟨hy', _⟩
    · show x'.tok < g.top
      rw [htok]
      exact h.lt _ hmem
    · exact h.lt y hy'
  · have hlt := h.lt _ hmem
    rcases hk' with e | e | e
    · rcases inv k _ e (by simp) with h1 | h1 | h1 | h1
      · exact h.otop k t (.inl h1)
      · simp only [Role.fs.injEq] at h1; rw [h1, htok]; exact hlt
      · cases h1
      · cases h1
    · rcases inv k _ e (by simp) with h1 | h1 | h1 | h1
      · exact h.otop k t (.inr (.inl h1))
      · cases h1
      · simp only [Role.fn.injEq] at h1; rw [h1, htok]; exact hlt
      · cases h1
    · rcases inv k _ e (by simp) with h1 | h1 | h1 | h1
      · exact h.otop k t (.inr (.inr h1))
      · cases h1
      · cases h1
      · simp only [Role.fl.injEq] at h1; rw [h1, htok]; exact hlt
  · have := h.of k e
    exact (k3 k (by rw [this]; simp)).trans this
  · exact h.nr.kept hk fun k e => by have := h.onm k e; exact hR k (by rw [this]; simp) (by rw [this]; simp) (by rw [this]; simp) (by rw [this]; simp) (by rw [this]; simp)
  · have := h.onm k e
    exact (k3 k (by rw [this]; simp)).trans this
  · exact h.sr.kept hk fun k e => by have := h.osf k e; exact hR k (by rw [this]; simp) (by rw [this]; simp) (by rw [this]; simp) (by rw [this]; simp) (by rw [this]; simp)
  · have := h.osf k e
    exact (k3 k (by rw [this]; simp)).trans this
  · exact own_kept h.lr hk fun k e => by have := h.ol k e; exact hR k (by rw [this]; simp) (by rw [this]; simp) (by rw [this]; simp) (by rw [this]; simp) (by rw [this]; simp)
  · have := h.ol k e
    exact (k3 k (by rw [this]; simp)).trans this
  · have : claim3 g.o x' k ≠ .out := hk'
    unfold claim3 at this
    rcases claim_F this with h1 | h1
    · rcases claim_F h1 with h1 | h1
      · rcases claim_F h1 with h1 | h1
        · exact Nat.lt_of_lt_of_le (h.olt k h1) hk.size
        · exact own_lt hvl k h1
      · exact own_lt hvn k h1
    · exact own_lt hvs k h1
  · exact Kept.mono hk fun k hk' => ⟨hk'.1, fun e => hk'.2 (by unfold Gh.F; rw [h.of k e]; simp), fun e => hk'.2 (by unfold Gh.F; rw [hfx.os k e]; simp), fun e => hk'.2 (by unfold Gh.F; rw [hfx.on k e]; simp), fun e => hk'.2 (by unfold Gh.F; rw [hfx.ol k e]; simp)⟩
  · have : claim3 g.o x' k ≠ .out := hk'
    unfold claim3 at this
    rcases claim_F this with h1 | h1
    · rcases claim_F h1 with h1 | h1
      · rcases claim_F h1 with h1 | h1
        · exact .inl h1
        · rcases al k h1 with h2 | h2
          · exact .inl (by unfold Gh.F; rw [hfx.ol k h2]; simp)
          · exact .inr h2
      · rcases an k h1 with h2 | h2
        · exact .inl (by unfold Gh.F; rw [hfx.on k h2]; simp)
        · exact .inr h2
    · rcases ats k h1 with h2 | h2
      · exact .inl (by unfold Gh.F; rw [hfx.os k h2]; simp)
      · exact .inr h2

/-- A file of nothing. -/
def PF.new : PF := ⟨[], [], []⟩
def Gh.newF (g : Gh) : GF × PF := (⟨g.top, .slice none 0 0, .slice none 0 0, .slice none 0 0⟩, PF.new)

/-- A file is added. -/
theorem DiskAt.add_file (h : DiskAt g w p d) (fv' : Value) (hk : Kept (fun k => k < w.heap.size ∧ k ≠ p ∧ g.fv.ownBlock ≠ some k) w w') (hb : w'.heap[p]? = some (.cells (dCells { g with fv := fv' } d) 60 (0, 0)))
    (hf : w'.ownsRow 0 93 3 fv' (g.l ++ [g.newF]).length (gfCells (g.l ++ [g.newF]))) (hat : ∀ k, fv'.ownBlock = some k → g.fv.ownBlock = some k ∨ (w.heap.size ≤ k ∧ k < w'.heap.size)) :
    DiskAt { g with fv := fv', l := g.l ++ [g.newF], top := g.top + 1, o := claim g.o fv'.ownBlock .files } w' p { d with files := d.files ++ [PF.new] } ∧ Step g { g with fv := fv', l := g.l ++ [g.newF], top := g.top + 1, o := claim g.o fv'.ownBlock .files } w w' := by
  have hout : ∀ k, fv'.ownBlock = some k → g.o k = .files ∨ g.o k = .out := by
    intro k e
    rcases hat k e with h1 | h1
    · exact .inl (h.of k h1)
    · right
      cases ho : g.o k with
      | out => rfl
      | _ => exact absurd (h.olt k (by rw [ho]; simp)) (by omega)
  have hkp : ∀ k, g.o k ≠ .out → claim g.o fv'.ownBlock .files k = g.o k := fun k => claim_keep hout
  have hR : ∀ k, g.o k ≠ .out → g.o k ≠ .disk → g.o k ≠ .files → k < w.heap.size ∧ k ≠ p ∧ g.fv.ownBlock ≠ some k := fun k h1 h2 h3 => ⟨h.olt k h1, fun e => by subst e; exact h2 h.rol, fun e => h3 (h.of k e)⟩
  refine ⟨⟨hb, ?_, ?_, fun x hx => ?_, ?_, fun x hx => ?_, fun k t hk' => ?_, hf, fun k e => claim_at e, ?_, fun k e => ?_, ?_, fun k e => ?_, ?_, fun k e => ?_, fun k hk' => ?_⟩, ?_, fun k hk' => ?_⟩
  · exact (hkp p (by rw [h.rol]; simp)).trans h.rol
  · show d.files ++ [PF.new] = (g.l ++ [g.newF]).map (·.2)
    rw [List.map_append, h.fl]
    rfl
  · rcases List.mem_append.1 hx with hx | hx
    · have hfx := h.fa x hx
      refine FileAt.role (hfx.kept hk fun k e => hR k ?_ ?_ ?_) fun k e => hkp k ?_
      all_goals (rcases e with e | e | e <;> rw [e] <;> simp)
    · obtain rfl := List.mem_singleton.1 hx
      exact ⟨World.ownsRow_nil _ _ _ _, World.ownsRow_nil _ _ _ _, World.ownsRow_nil _ _ _ _, (fun k e => (by cases e)), (fun k e => (by cases e)), (fun k e => (by cases e))⟩
  · rw [List.map_append]
    refine List.nodup_append.2 ⟨h.nod, by simp, fun a ha b hb => ?_⟩
    obtain ⟨y, hy, rfl⟩ := List.mem_map.1 ha
    have := h.lt y hy
    simp only [List.map_cons, List.map_nil, List.mem_singleton] at hb
    subst hb
    show y.1.tok ≠ g.top
    omega
  · rcases List.mem_append.1 hx with hx | hx
    · have := h.lt x hx
      show x.1.tok < g.top + 1
      omega
    · obtain rfl := List.mem_singleton.1 hx
      show g.top < g.top + 1
      omega
  · show t < g.top + 1
    have : t < g.top := by
      refine h.otop k t ?_
      rcases hk' with e | e | e
      · exact .inl (claim_role e (by simp))
      · exact .inr (.inl (claim_role e (by simp)))
      · exact .inr (.inr (claim_role e (by simp)))
    omega
  · exact h.nr.kept hk fun k e => by have := h.onm k e; exact hR k (by rw [this]; simp) (by rw [this]; simp) (by rw [this]; simp)
  · have := h.onm k e
    exact (hkp k (by rw [this]; simp)).trans this
  · exact h.sr.kept hk fun k e => by have := h.osf k e; exact hR k (by rw [this]; simp) (by rw [this]; simp) (by rw [this]; simp)
  · have := h.osf k e
    exact (hkp k (by rw [this]; simp)).trans this
  · exact own_kept h.lr hk fun k e => by have := h.ol k e; exact hR k (by rw [this]; simp) (by rw [this]; simp) (by rw [this]; simp)
  · have := h.ol k e
    exact (hkp k (by rw [this]; simp)).trans this
  · rcases claim_F hk' with h1 | h1
    · exact Nat.lt_of_lt_of_le (h.olt k h1) hk.size
    · exact own_lt hf k h1
  · exact Kept.mono hk fun k hk' => ⟨hk'.1, fun e => by subst e; exact hk'.2 (by unfold Gh.F; rw [h.rol]; simp), fun e => hk'.2 (by unfold Gh.F; rw [h.of k e]; simp)⟩
  · rcases claim_F hk' with h1 | h1
    · exact .inl h1
    · rcases hat k h1 with h2 | h2
      · exact .inl (by unfold Gh.F; rw [h.of k h2]; simp)
      · exact .inr h2.1
end Go.Proofs.Ytmlijnekidihbaa
