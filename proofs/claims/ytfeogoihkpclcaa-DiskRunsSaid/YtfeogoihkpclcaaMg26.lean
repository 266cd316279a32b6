import Derived.Test.YtfeogoihkpclcaaMg24
import Derived.Test.YtfeogoihkpclcaaMg23
import Derived.Test.YtfeogoihkpclcaaMg22
import Derived.Test.YtfeogoihkpclcaaMg25
import Derived.Test.YtfeogoihkpclcaaMg15

/-
  The program's disk and the document's side by side, a block beside them: what each call of either leaves.
-/
namespace Go.Proofs.Ytfeogoihkpclcaa
open Go.RowKit

structure Cd (W w : World) (p q : Nat) (d : PD) (m : DM) (g : Gh) (o : Nat → DR) : Prop where
  da : DiskAt g w p d
  ra : ∃ v gs, DocAt o v gs w q m
  ap : ∀ k, g.F k → ¬ DF_ o k
  be : Below W.heap.size W w
  gw : ∀ k, g.F k → W.heap.size ≤ k
  ow : ∀ k, DF_ o k → W.heap.size ≤ k

/-- Both, and a block beside them. -/
def Bn (W w : World) (p q : Nat) (d : PD) (m : DM) (n : Nat) (x : Obj) : Prop := ∃ g o, Cd W w p q d m g o ∧ w.heap[n]? = some x ∧ ¬ g.F n ∧ ¬ DF_ o n
def Bb (W w : World) (p q : Nat) (d : PD) (m : DM) : Prop := ∃ g o, Cd W w p q d m g o

section
variable {W w w' : World} {p q : Nat} {d d' : PD} {m m' : DM} {n : Nat} {x : Obj} {g g' : Gh} {o : Nat → DR}

theorem Cd.olt (h : Cd W w p q d m g o) : ∀ k, DF_ o k → k < w.heap.size := by
  obtain ⟨v, gs, hr⟩ := h.ra
  exact hr.lt

theorem Cd.below (h : Cd W w p q d m g o) (hb : Below w.heap.size w w') : Cd W w' p q d m g o := by
  obtain ⟨v, gs, hr⟩ := h.ra
  exact ⟨h.da.below hb, ⟨v, gs, hr.below hb⟩, h.ap, h.be.trans (hb.mono h.be.size), h.gw, h.ow⟩

theorem Cd.prog (h : Cd W w p q d m g o) (h1 : DiskAt g' w' p d') (hs : Step g g' w w') : Cd W w' p q d' m g' o := by
  obtain ⟨v, gs, hr⟩ := h.ra
  refine ⟨h1, ⟨v, gs, hr.kept (hs.touch.kept (G := DF_ o) fun k hk => ⟨hr.lt k hk, fun e => h.ap k e hk⟩) fun _ e => e⟩, ?_, h.be.trans (hs.touch.below h.gw h.be.size), ?_, h.ow⟩
  · intro k hk hd
    rcases hs.new k hk with e | e
    · exact h.ap k e hd
    · have := hr.lt k hd; omega
  · intro k hk
    rcases hs.new k hk with e | e
    · exact h.gw k e
    · exact Nat.le_trans h.be.size e

theorem Cd.doc (h : Cd W w p q d m g o) (ht : DocTo o w w' q m') : ∃ o', Cd W w' p q d m' g o' ∧ Touch (DF_ o) w w' ∧ Grows (DF_ o) (DF_ o') w w' := by
  obtain ⟨o', v', gs', h1, h2, h3⟩ := ht
  refine ⟨o', ⟨h.da.kept (h2.kept (G := g.F) fun k hk => ⟨h.da.olt k hk, fun e => h.ap k hk e⟩) fun _ e => e, ⟨v', gs', h1⟩, ?_, h.be.trans (h2.below h.ow h.be.size), h.gw, ?_⟩, h2, h3⟩
  · intro k hk hd
    rcases h3 k hd with e | e
    · exact h.ap k hk e
    · have := h.da.olt k hk; omega
  · intro k hd
    rcases h3 k hd with e | e
    · exact h.ow k e
    · exact Nat.le_trans h.be.size e.1

theorem Bb.below (h : Bb W w p q d m) (hb : Below w.heap.size w w') : Bb W w' p q d m := by
  obtain ⟨g, o, h⟩ := h
  exact ⟨g, o, h.below hb⟩
theorem Bb.be (h : Bb W w p q d m) : Below W.heap.size W w := by
  obtain ⟨g, o, h⟩ := h
  exact h.be
theorem Bb.alloc (h : Bb W w p q d m) (x : Obj) (hw : (w.alloc x).heap[w.heap.size]? = some x) : Bn W (w.alloc x) p q d m w.heap.size x := by
  obtain ⟨g, o, h⟩ := h
  exact ⟨g, o, h.below ((Below.refl _ _).alloc (Nat.le_refl _) _), hw, fun e => Nat.lt_irrefl _ (h.da.olt _ e), fun e => Nat.lt_irrefl _ (h.olt _ e)⟩
theorem Bn.bb (h : Bn W w p q d m n x) : Bb W w p q d m := by
  obtain ⟨g, o, h, _⟩ := h
  exact ⟨g, o, h⟩
theorem Bn.box (h : Bn W w p q d m n x) : w.heap[n]? = some x := by
  obtain ⟨g, o, _, h, _⟩ := h
  exact h
theorem heap_lt (h : w.heap[n]? = some x) : n < w.heap.size := by
  rcases Nat.lt_or_ge n w.heap.size with h1 | h1
  · exact h1
  · rw [Array.getElem?_eq_none h1] at h
    cases h
theorem Bn.below (h : Bn W w p q d m n x) (hb : Below w.heap.size w w') : Bn W w' p q d m n x := by
  obtain ⟨g, o, h, hx, h1, h2⟩ := h
  exact ⟨g, o, h.below hb, (hb.block n (heap_lt hx)).trans hx, h1, h2⟩
theorem Bn.drew (h : Bn W w p q d m n x) : Bn W w.drew p q d m n x := h.below (Below.refl w.heap.size w).drew

theorem bn_prog (h : Cd W w p q d m g o) (hx : w.heap[n]? = some x) (hg : ¬ g.F n) (ho : ¬ DF_ o n) (h1 : DiskAt g' w' p d') (hs : Step g g' w w') : Bn W w' p q d' m n x := by
  refine ⟨g', o, h.prog h1 hs, (hs.touch.block n ⟨heap_lt hx, hg⟩).trans hx, fun e => ?_, ho⟩
  rcases hs.new n e with e1 | e1
  · exact hg e1
  · have := heap_lt hx; omega
theorem bn_doc (h : Cd W w p q d m g o) (hx : w.heap[n]? = some x) (hg : ¬ g.F n) (ho : ¬ DF_ o n) (ht : DocTo o w w' q m') : Bn W w' p q d m' n x := by
  obtain ⟨o', h1, h2, h3⟩ := h.doc ht
  refine ⟨g, o', h1, (h2.block n ⟨heap_lt hx, ho⟩).trans hx, hg, fun e => ?_⟩
  rcases h3 n e with e1 | e1
  · exact ho e1
  · have := heap_lt hx; omega
end

theorem wf_i64 {a : Int} (h : -9223372036854775808 ≤ a ∧ a ≤ 9223372036854775807) : (Lit.int .i64 a).wf = true := by
  show (decide (-9223372036854775808 ≤ a) && decide (a ≤ 9223372036854775807)) = true
  simp [h.1, h.2]

/-- Alike, and how many files the document's disk has. -/
structure Al (d : PD) (m : DM) (k : Nat) : Prop where
  inv : DInv d k
  sim : ∃ s, Sim s d m
  fl : m.files.length ≤ k

section
variable {d : PD} {m : DM} {k : Nat}
theorem Al.ak (h : Al d m k) : Alike d m k := ⟨h.inv, h.sim⟩
theorem Al.dsm (h : Al d m k) (hk : k ≤ 200) : DSm m := by
  obtain ⟨s, hs⟩ := h.sim
  exact sim_dsm hs h.inv (by omega) (by have := h.fl; omega)
theorem Al.dfo (h : Al d m k) (hk : k ≤ 200) : DFo m m.now := by
  obtain ⟨s, hs⟩ := h.sim
  exact sim_now hs h.inv (by omega)
theorem Al.dfa (h : Al d m k) (hk : k ≤ 200) (p : DP) (hkl : p.keep.length ≤ 50) (hnn : -9223372036854775808 ≤ p.names ∧ p.names ≤ 9223372036854775807) (hkn : ∀ z ∈ p.keep, -9223372036854775808 ≤ z ∧ z ≤ 9223372036854775807) : DFa m p := by
  obtain ⟨s, hs⟩ := h.sim
  exact sim_dfa hs h.inv (by omega) (by have := h.fl; omega) p hkl hnn hkn
theorem Al.small (h : Al d m k) (hk : k ≤ 200) : Small d := h.inv.small0 (by omega)
theorem Al.cl (h : Al d m k) (hk : k ≤ 200) : d.calls + 1 < 10000 := by have := h.inv.calls; omega
theorem Al.of {r r' : Nat} {d' : PD} {m' : DM} (h : Al d m k) (ha : r = r' ∧ Alike d' m' (k + 1)) (hf : m'.files.length ≤ m.files.length + 1) : r = r' ∧ Al d' m' (k + 1) := ⟨ha.1, ha.2.1, ha.2.2, by have := h.fl; omega⟩

theorem change_fl (m : DM) (c : DC) : (m.change c).2.files.length = m.files.length := by
  unfold DM.change
  dsimp only
  split <;> rfl
theorem al_make (h : Al d m k) (n : List UInt8) : (m.make n).1 = (d.make n).1 ∧ Al (d.make n).2 (m.make n).2 (k + 1) := by
  refine h.of (alike_make h.ak n) ?_
  unfold DM.make
  split
  · simp
  · split
    · simp
    · split
      · simp
      · rw [change_fl]; simp
theorem al_write (h : Al d m k) (n : List UInt8) (a : Int) (l : List UInt8) (hl : l.length ≤ 300) : (m.write n a l).1 = (d.write n a l).1 ∧ Al (d.write n a l).2 (m.write n a l).2 (k + 1) := by
  refine h.of (alike_write h.ak n a l hl) ?_
  unfold DM.write
  dsimp only
  repeat' split
  all_goals simp [DM.counted]
theorem al_safe (h : Al d m k) (n : List UInt8) : (m.safe n).1 = (d.makeSafe n).1 ∧ Al (d.makeSafe n).2 (m.safe n).2 (k + 1) := by
  refine h.of (alike_safe h.ak n) ?_
  unfold DM.safe
  dsimp only
  repeat' split
  all_goals simp [DM.counted]
theorem al_move (h : Al d m k) (a b : List UInt8) : (m.move a b).1 = (d.move a b).1 ∧ Al (d.move a b).2 (m.move a b).2 (k + 1) := by
  refine h.of (alike_move h.ak a b) ?_
  unfold DM.move
  repeat' split
  all_goals first | (rw [change_fl]; omega) | simp
theorem al_gone (h : Al d m k) (a : List UInt8) : (m.gone a).1 = (d.gone a).1 ∧ Al (d.gone a).2 (m.gone a).2 (k + 1) := by
  refine h.of (alike_gone h.ak a) ?_
  unfold DM.gone
  repeat' split
  all_goals first | (rw [change_fl]; omega) | simp
theorem al_names (h : Al d m k) : (m.names).1 = (d.nameSafe).1 ∧ Al (d.nameSafe).2 (m.names).2 (k + 1) := by
  refine h.of (alike_names h.ak) ?_
  unfold DM.names
  repeat' split
  all_goals simp [DM.counted]
theorem al_fall (h : Al d m k) (p : DP) : Al (d.fallen p) (m.fall p) (k + 1) := by
  have ha := alike_fall h.ak p
  refine ⟨ha.1, ha.2, ?_⟩
  have := h.fl
  show (fallFiles p (m.names_ p) 0 m.files).length ≤ _
  rw [fall_len]
  omega
theorem al_same (h : Al d m k) : Al d m (k + 1) := ⟨inv_mono h.inv (Nat.le_succ k), h.sim, by have := h.fl; omega⟩
theorem al_read (h : Al d m k) (n : List UInt8) (a c : Int) : m.read n a c = d.read n a c := by
  obtain ⟨s, hs⟩ := h.sim
  exact sim_read hs h.inv n a c
theorem al_size (h : Al d m k) (n : List UInt8) : m.size n = d.size n := by
  obtain ⟨s, hs⟩ := h.sim
  exact sim_size hs h.inv n
theorem al_list (h : Al d m k) : m.list = d.list := by
  obtain ⟨s, hs⟩ := h.sim
  exact sim_list hs h.inv
theorem al_calls (h : Al d m k) : m.calls = (d.calls : Int) := by
  obtain ⟨s, hs⟩ := h.sim
  exact hs.calls
theorem al_down (h : Al d m k) : m.down = d.down := by
  obtain ⟨s, hs⟩ := h.sim
  exact hs.down
theorem al_new (p : DP) : Al (PD.new p.room p.crash p.done) (DM.new p) 0 := ⟨(alike_new p).1, (alike_new p).2, Nat.le_refl 0⟩
end

section
variable {W w : World} {p q : Nat} {d d0 : PD} {m m0 : DM} {n k : Nat} {x : Obj}

set_option linter.unusedVariables false in
theorem bn_make (h : Bn W w p q d m n x) (ha : Al d m0 k) (hk : k ≤ 200) (s : ByteArray) (hs : s.size ≤ maxLen) (r : Nat) (d' : PD) (he : (d.make s.data.toList) = (r, d')) :
    Calls Try.prog 17 #[.pointer (some ⟨p, 0, none⟩), .string s] w fun e w' => e = .returned (.int .i64 (r : Int)) ∧ Bn W w' p q d' m n x := by
  obtain ⟨g, o, hc, hx, hg, ho⟩ := h
  have hm := make_at hc.da (ha.small hk) (ha.cl hk) s hs
  rw [he] at hm
  refine hm.mono ?_
  rintro e w' ⟨rfl, g', k1, k2⟩
  exact ⟨rfl, bn_prog hc hx hg ho k1 k2⟩

set_option linter.unusedVariables false in
theorem bd_make (h : Bn W w p q d m n x) (ha : Al d0 m k) (hk : k ≤ 200) (s : ByteArray) (hs : s.size ≤ maxLen) (r : Nat) (m' : DM) (he : (m.make s.data.toList) = (r, m')) :
    Calls Try.prog 27 #[.pointer (some ⟨q, 0, none⟩), .string s] w fun e w' => e = .returned (.int .i64 (r : Int)) ∧ Bn W w' p q d m' n x := by
  obtain ⟨g, o, hc, hx, hg, ho⟩ := h
  obtain ⟨v, gs, hr⟩ := hc.ra
  have hm := dmake_any hr (ha.dsm hk) (by have := ha.fl; omega) s hs
  rw [he] at hm
  refine hm.mono ?_
  rintro e w' ⟨rfl, k1⟩
  exact ⟨rfl, bn_doc hc hx hg ho k1⟩

set_option linter.unusedVariables false in
theorem bn_write (h : Bn W w p q d m n x) (ha : Al d m0 k) (hk : k ≤ 200) (s : ByteArray) (hs : s.size ≤ maxLen) (a : Int) (hia : -9223372036854775808 ≤ a ∧ a ≤ 9223372036854775807) (bv_ : Value) (b : List UInt8) (hbr : RdB W bv_ b) (hbl : b.length ≤ 300) (r : Nat) (d' : PD) (he : (d.write s.data.toList a b) = (r, d')) :
    Calls Try.prog 18 #[.pointer (some ⟨p, 0, none⟩), .string s, .int .i64 a, bv_] w fun e w' => e = .returned (.int .i64 (r : Int)) ∧ Bn W w' p q d' m n x := by
  obtain ⟨g, o, hc, hx, hg, ho⟩ := h
  have hm := write_at hc.da (ha.small hk) (ha.cl hk) s hs a bv_ b (hbr.below hc.be (Nat.le_refl _)) (by omega) (fun hne kb e => by
    have hlt := RdB.blk_lt hbr hne kb e
    cases hz : g.o kb with
    | out => rfl
    | _ => exact absurd (hc.gw kb (by unfold Gh.F; rw [hz]; simp)) (by omega))
  rw [he] at hm
  refine hm.mono ?_
  rintro e w' ⟨rfl, g', k1, k2⟩
  exact ⟨rfl, bn_prog hc hx hg ho k1 k2⟩

set_option linter.unusedVariables false in
theorem bd_write (h : Bn W w p q d m n x) (ha : Al d0 m k) (hk : k ≤ 200) (s : ByteArray) (hs : s.size ≤ maxLen) (a : Int) (hia : -9223372036854775808 ≤ a ∧ a ≤ 9223372036854775807) (bv_ : Value) (b : List UInt8) (hbr : RdB W bv_ b) (hbl : b.length ≤ 300) (r : Nat) (m' : DM) (he : (m.write s.data.toList a b) = (r, m')) :
    Calls Try.prog 28 #[.pointer (some ⟨q, 0, none⟩), .string s, .int .i64 a, bv_] w fun e w' => e = .returned (.int .i64 (r : Int)) ∧ Bn W w' p q d m' n x := by
  obtain ⟨g, o, hc, hx, hg, ho⟩ := h
  obtain ⟨v, gs, hr⟩ := hc.ra
  have hm := dwrite_any hr (ha.dsm hk) (ha.dfo hk) s a hia bv_ b (hbr.below hc.be (Nat.le_refl _)) hbl (fun hne kb e => by
    have hlt := RdB.blk_lt hbr hne kb e
    cases hz : o kb with
    | out => rfl
    | _ => exact absurd (hc.ow kb (by unfold DF_; rw [hz]; simp)) (by omega))
  rw [he] at hm
  refine hm.mono ?_
  rintro e w' ⟨rfl, k1⟩
  exact ⟨rfl, bn_doc hc hx hg ho k1⟩

set_option linter.unusedVariables false in
theorem bn_safe (h : Bn W w p q d m n x) (ha : Al d m0 k) (hk : k ≤ 200) (s : ByteArray) (hs : s.size ≤ maxLen) (r : Nat) (d' : PD) (he : (d.makeSafe s.data.toList) = (r, d')) :
    Calls Try.prog 19 #[.pointer (some ⟨p, 0, none⟩), .string s] w fun e w' => e = .returned (.int .i64 (r : Int)) ∧ Bn W w' p q d' m n x := by
  obtain ⟨g, o, hc, hx, hg, ho⟩ := h
  have hm := safe_at hc.da (ha.small hk) (ha.cl hk) s hs
  rw [he] at hm
  refine hm.mono ?_
  rintro e w' ⟨rfl, g', k1, k2⟩
  exact ⟨rfl, bn_prog hc hx hg ho k1 k2⟩

set_option linter.unusedVariables false in
theorem bd_safe (h : Bn W w p q d m n x) (ha : Al d0 m k) (hk : k ≤ 200) (s : ByteArray) (hs : s.size ≤ maxLen) (r : Nat) (m' : DM) (he : (m.safe s.data.toList) = (r, m')) :
    Calls Try.prog 29 #[.pointer (some ⟨q, 0, none⟩), .string s] w fun e w' => e = .returned (.int .i64 (r : Int)) ∧ Bn W w' p q d m' n x := by
  obtain ⟨g, o, hc, hx, hg, ho⟩ := h
  obtain ⟨v, gs, hr⟩ := hc.ra
  have hm := dsafe_any hr (ha.dsm hk) (ha.dfo hk) s
  rw [he] at hm
  refine hm.mono ?_
  rintro e w' ⟨rfl, k1⟩
  exact ⟨rfl, bn_doc hc hx hg ho k1⟩

set_option linter.unusedVariables false in
theorem bn_move (h : Bn W w p q d m n x) (ha : Al d m0 k) (hk : k ≤ 200) (s : ByteArray) (hs : s.size ≤ maxLen) (t : ByteArray) (ht : t.size ≤ maxLen) (r : Nat) (d' : PD) (he : (d.move s.data.toList t.data.toList) = (r, d')) :
    Calls Try.prog 30 #[.pointer (some ⟨p, 0, none⟩), .string s, .string t] w fun e w' => e = .returned (.int .i64 (r : Int)) ∧ Bn W w' p q d' m n x := by
  obtain ⟨g, o, hc, hx, hg, ho⟩ := h
  have hm := move_at hc.da (ha.small hk) (ha.cl hk) s t hs ht
  rw [he] at hm
  refine hm.mono ?_
  rintro e w' ⟨rfl, g', k1, k2⟩
  exact ⟨rfl, bn_prog hc hx hg ho k1 k2⟩

set_option linter.unusedVariables false in
theorem bd_move (h : Bn W w p q d m n x) (ha : Al d0 m k) (hk : k ≤ 200) (s : ByteArray) (hs : s.size ≤ maxLen) (t : ByteArray) (ht : t.size ≤ maxLen) (r : Nat) (m' : DM) (he : (m.move s.data.toList t.data.toList) = (r, m')) :
    Calls Try.prog 31 #[.pointer (some ⟨q, 0, none⟩), .string s, .string t] w fun e w' => e = .returned (.int .i64 (r : Int)) ∧ Bn W w' p q d m' n x := by
  obtain ⟨g, o, hc, hx, hg, ho⟩ := h
  obtain ⟨v, gs, hr⟩ := hc.ra
  have hm := dmove_any hr (ha.dsm hk) s t ht
  rw [he] at hm
  refine hm.mono ?_
  rintro e w' ⟨rfl, k1⟩
  exact ⟨rfl, bn_doc hc hx hg ho k1⟩

set_option linter.unusedVariables false in
theorem bn_gone (h : Bn W w p q d m n x) (ha : Al d m0 k) (hk : k ≤ 200) (s : ByteArray) (hs : s.size ≤ maxLen) (r : Nat) (d' : PD) (he : (d.gone s.data.toList) = (r, d')) :
    Calls Try.prog 32 #[.pointer (some ⟨p, 0, none⟩), .string s] w fun e w' => e = .returned (.int .i64 (r : Int)) ∧ Bn W w' p q d' m n x := by
  obtain ⟨g, o, hc, hx, hg, ho⟩ := h
  have hm := gone_at hc.da (ha.small hk) (ha.cl hk) s hs
  rw [he] at hm
  refine hm.mono ?_
  rintro e w' ⟨rfl, g', k1, k2⟩
  exact ⟨rfl, bn_prog hc hx hg ho k1 k2⟩

set_option linter.unusedVariables false in
theorem bd_gone (h : Bn W w p q d m n x) (ha : Al d0 m k) (hk : k ≤ 200) (s : ByteArray) (hs : s.size ≤ maxLen) (r : Nat) (m' : DM) (he : (m.gone s.data.toList) = (r, m')) :
    Calls Try.prog 33 #[.pointer (some ⟨q, 0, none⟩), .string s] w fun e w' => e = .returned (.int .i64 (r : Int)) ∧ Bn W w' p q d m' n x := by
  obtain ⟨g, o, hc, hx, hg, ho⟩ := h
  obtain ⟨v, gs, hr⟩ := hc.ra
  have hm := dgone_any hr (ha.dsm hk) s
  rw [he] at hm
  refine hm.mono ?_
  rintro e w' ⟨rfl, k1⟩
  exact ⟨rfl, bn_doc hc hx hg ho k1⟩

theorem bn_names (h : Bn W w p q d m n x) (ha : Al d m0 k) (hk : k ≤ 200) (r : Nat) (d' : PD) (he : d.nameSafe = (r, d')) :
    Calls Try.prog 34 #[.pointer (some ⟨p, 0, none⟩)] w fun e w' => e = .returned (.int .i64 (r : Int)) ∧ Bn W w' p q d' m n x := by
  obtain ⟨g, o, hc, hx, hg, ho⟩ := h
  have hm := names_at hc.da (ha.small hk) ha.inv.nok.nod (ha.cl hk)
  rw [he] at hm
  refine hm.mono ?_
  rintro e w' ⟨rfl, g', k1, k2⟩
  exact ⟨rfl, bn_prog hc hx hg ho k1 k2⟩

theorem bd_names (h : Bn W w p q d m n x) (ha : Al d0 m k) (hk : k ≤ 200) (r : Nat) (m' : DM) (he : m.names = (r, m')) :
    Calls Try.prog 35 #[.pointer (some ⟨q, 0, none⟩)] w fun e w' => e = .returned (.int .i64 (r : Int)) ∧ Bn W w' p q d m' n x := by
  obtain ⟨g, o, hc, hx, hg, ho⟩ := h
  obtain ⟨v, gs, hr⟩ := hc.ra
  have hm := dnames_any hr (ha.dsm hk)
  rw [he] at hm
  refine hm.mono ?_
  rintro e w' ⟨rfl, k1⟩
  exact ⟨rfl, bn_doc hc hx hg ho k1⟩

set_option linter.unusedVariables false in
theorem bn_read (h : Bn W w p q d m n x) (ha : Al d m0 k) (hk : k ≤ 200) (s : ByteArray) (hs : s.size ≤ maxLen) (a c : Int) (l : List UInt8) (r : Nat) (he : d.read s.data.toList a c = (l, r)) :
    Calls Try.prog 36 #[.pointer (some ⟨p, 0, none⟩), .string s, .int .i64 a, .int .i64 c] w fun e w' => ∃ va vc, e = .returned (.tuple #[.slice va l.length vc, .int .i64 (r : Int)]) ∧ Bn W w' p q d m n x ∧ RdB w' (.slice va l.length vc) l := by
  have hh := h
  obtain ⟨g, o, hc, hx, hg, ho⟩ := h
  have hm := read_at hc.da (ha.small hk) s hs a c
  rw [he] at hm
  refine hm.mono ?_
  rintro e w' ⟨v, rfl, hb, hr, _⟩
  obtain ⟨va, vc, rfl, _⟩ := hr.form
  exact ⟨va, vc, rfl, hh.below hb, hr⟩

set_option linter.unusedVariables false in
theorem bd_read (h : Bn W w p q d m n x) (ha : Al d0 m k) (hk : k ≤ 200) (s : ByteArray) (hs : s.size ≤ maxLen) (a c : Int) (hia : -9223372036854775808 ≤ a ∧ a ≤ 9223372036854775807) (hic : -9223372036854775808 ≤ c ∧ c ≤ 9223372036854775807) {u : Value} {lu : List UInt8} (hu : RdB w u lu) (l : List UInt8) (r : Nat) (he : m.read s.data.toList a c = (l, r)) :
    Calls Try.prog 37 #[.pointer (some ⟨q, 0, none⟩), .string s, .int .i64 a, .int .i64 c] w fun e w' => ∃ va vc, e = .returned (.tuple #[.slice va l.length vc, .int .i64 (r : Int)]) ∧ Bn W w' p q d m n x ∧ RdB w' (.slice va l.length vc) l ∧ RdB w' u lu := by
  have hh := h
  obtain ⟨g, o, hc, hx, hg, ho⟩ := h
  obtain ⟨v, gs, hr⟩ := hc.ra
  have hm := dread_any hr (ha.dsm hk) (ha.dfo hk) s a c hia hic
  rw [he] at hm
  refine hm.mono ?_
  rintro e w' ⟨v, rfl, hrd, hb⟩
  obtain ⟨va, vc, rfl, _⟩ := hrd.form
  exact ⟨va, vc, rfl, hh.below hb, hrd, hu.below hb (Nat.le_refl _)⟩

set_option linter.unusedVariables false in
theorem bn_size (h : Bn W w p q d m n x) (ha : Al d m0 k) (hk : k ≤ 200) (s : ByteArray) (hs : s.size ≤ maxLen) (c : Nat) (ok : Bool) (he : d.size s.data.toList = (c, ok)) :
    Calls Try.prog 38 #[.pointer (some ⟨p, 0, none⟩), .string s] w fun e w' => e = .returned (.tuple #[.int .i64 (c : Int), .bool ok]) ∧ w = w' := by
  obtain ⟨g, o, hc, hx, hg, ho⟩ := h
  have hm := size_at hc.da (ha.small hk) s hs
  rw [he] at hm
  exact hm
set_option linter.unusedVariables false in
theorem bd_size (h : Bn W w p q d m n x) (ha : Al d0 m k) (hk : k ≤ 200) (s : ByteArray) (hs : s.size ≤ maxLen) (c : Nat) (ok : Bool) (he : m.size s.data.toList = (c, ok)) :
    Calls Try.prog 39 #[.pointer (some ⟨q, 0, none⟩), .string s] w fun e w' => e = .returned (.tuple #[.int .i64 (c : Int), .bool ok]) ∧ Bn W w' p q d m n x := by
  have hh := h
  obtain ⟨g, o, hc, hx, hg, ho⟩ := h
  obtain ⟨v, gs, hr⟩ := hc.ra
  have hm := dsize_any hr (ha.dsm hk) (ha.dfo hk) s
  rw [he] at hm
  refine hm.mono ?_
  rintro e w' ⟨rfl, hb⟩
  exact ⟨rfl, hh.below hb⟩

theorem bn_fall (h : Bn W w p q d m n x) (ha : Al d m0 k) (hk : k ≤ 200) (z : DP) (hkl : z.keep.length ≤ 50) (hnn : -9223372036854775808 ≤ z.names ∧ z.names ≤ 9223372036854775807) (hkn : ∀ y ∈ z.keep, -9223372036854775808 ≤ y ∧ y ≤ 9223372036854775807) (ka : Option Addr) (kc : Nat) (hr : Rd W 1 (.slice ka z.keep.length kc) z.keep.length (z.keep.map (Value.int .i64))) :
    Calls Try.prog 20 #[.pointer (some ⟨p, 0, none⟩), .agg #[.int .i64 z.room, .int .i64 z.crash, .bool z.done, .slice ka z.keep.length kc, .int .i64 z.names]] w fun e w' => e = .returned (.tuple #[]) ∧ Bn W w' p q (d.fallen z) m n x := by
  obtain ⟨g, o, hc, hx, hg, ho⟩ := h
  have hi : IntsAt g w (.slice ka z.keep.length kc) z.keep := by
    obtain ⟨a, cap, e, h1, h2, h3, h4⟩ := hr.below hc.be (Nat.le_refl _)
    cases e
    by_cases h0 : z.keep = []
    · exact .inl ⟨ka, kc, by rw [h0]; rfl, h0⟩
    · have hpos : 0 < z.keep.length := List.length_pos_iff.2 h0
      rcases h4 with ⟨h5, _⟩ | ⟨b, off, rfl, h5, h6⟩
      · omega
      · have hbl : b < W.heap.size := by
          obtain ⟨a', cap', e', _, _, _, h4'⟩ := hr
          cases e'
          rcases h4' with ⟨h5', _⟩ | ⟨b', off', e', h5', _⟩
          · omega
          · cases e'; exact h5'
        exact .inr ⟨b, off, kc, rfl, hpos, Nat.lt_of_lt_of_le hbl hc.be.size, fun e => by have := hc.gw b e; omega, fun i y hy => h6 i _ (by rw [List.getElem?_map, hy]; rfl)⟩
  have hsm := fun j => ha.inv.small (by omega) j
  refine (fall_at hc.da z.room z.crash z.names z.done _ z.keep (wf_i64 hnn) (fun y hy => wf_i64 (hkn y hy)) (by omega) hi hsm (fun j => small_fell (hsm _) z.keep j) (ha.inv.pre _).nod).mono ?_
  rintro e w' ⟨rfl, g', k1, k2⟩
  exact ⟨rfl, bn_prog hc hx hg ho k1 k2⟩

theorem bb_new (W w : World) (hb : Below W.heap.size W w) (z : DP) (kv : Value) :
    Calls Try.prog 6 #[.agg #[.int .i64 z.room, .int .i64 z.crash, .bool z.done, kv, .int .i64 z.names]] w fun e w' => ∃ p, e = .returned (.pointer (some ⟨p, 0, none⟩)) ∧ On W w' p (PD.new z.room z.crash z.done) ∧ Below w.heap.size w w' := by
  refine (new_any w z.room z.crash z.names z.done kv).mono ?_
  rintro e w' ⟨p, rfl, hp, hd, hb2⟩
  refine ⟨p, rfl, ⟨Gh.new p, hd, hb.trans (hb2.mono hb.size), fun k hk => ?_⟩, hb2⟩
  by_cases e : k = p
  · have := hb.size; omega
  · exact absurd (show (if k = p then Role.disk else .out) = .out by rw [if_neg e]) hk
theorem bb_make (h : On W w p d) (z : DP) (ka : Option Addr) (kn kc : Nat) :
    Calls Try.prog 7 #[.agg #[.int .i64 z.room, .int .i64 z.crash, .bool z.done, .slice ka kn kc, .int .i64 z.names]] w fun e w' => ∃ q, e = .returned (.pointer (some ⟨q, 0, none⟩)) ∧ Bb W w' p q d (DM.new z) ∧ Below w.heap.size w w' := by
  obtain ⟨g, h1, h2, h3⟩ := h
  refine (newDisk_any w z ka kn kc).mono ?_
  rintro e w' ⟨q, o, v, rfl, k1, k2, k3⟩
  exact ⟨q, rfl, ⟨g, o, h1.below k2, ⟨v, [], k1⟩, fun k e1 e2 => by have := h1.olt k e1; have := k3 k e2; omega, h2.trans (k2.mono h2.size), h3, fun k e => Nat.le_trans h2.size (k3 k e)⟩, k2⟩
theorem bb_copy (h : Bb W w p q d m) (ha : Al d m0 k) (hk : k ≤ 200) :
    Calls Try.prog 8 #[.pointer (some ⟨p, 0, none⟩)] w fun e w' => ∃ p', e = .returned (.pointer (some ⟨p', 0, none⟩)) ∧ Bb W w' p' q d m := by
  obtain ⟨g, o, hc⟩ := h
  refine (copy_at hc.da (ha.small hk)).mono ?_
  rintro e w' ⟨p', g', rfl, k1, k2, k3⟩
  have h1 := hc.below k3
  have hl := hc.olt
  exact ⟨p', rfl, g', o, k1, h1.ra, fun k e1 e2 => by have := k2 k e1; have := hl k e2; omega, h1.be, fun k e => Nat.le_trans hc.be.size (k2 k e), hc.ow⟩
theorem bb_files (h : Bb W w p q d m) (ha : Al d m0 k) (hk : k ≤ 200) :
    Calls Try.prog 11 #[.pointer (some ⟨p, 0, none⟩)] w fun e w' => ∃ u, e = .returned u ∧ Bb W w' p q d m ∧ Rd w' 3 u d.list.length (fiCells d.list) := by
  have hh := h
  obtain ⟨g, o, hc⟩ := h
  refine (files_at hc.da (ha.small hk)).mono ?_
  rintro e w' ⟨u, rfl, k1, k2⟩
  exact ⟨u, rfl, hh.below k2, rd_of_own k1⟩
theorem bb_dfiles (h : Bb W w p q d m) (ha : Al d0 m k) (hk : k ≤ 200) {u : Value} {c : Nat} {cs : List Value} (hu : Rd w 3 u c cs) :
    Calls Try.prog 12 #[.pointer (some ⟨q, 0, none⟩)] w fun e w' => ∃ v, e = .returned v ∧ Bb W w' p q d m ∧ Rd w' 3 v m.list.length (fiCells m.list) ∧ Rd w' 3 u c cs := by
  have hh := h
  obtain ⟨g, o, hc⟩ := h
  obtain ⟨v, gs, hd⟩ := hc.ra
  refine (dfiles_any hd (ha.dsm hk) (ha.dfo hk)).mono ?_
  rintro e w' ⟨u, rfl, k1, k2⟩
  exact ⟨u, rfl, hh.below k2, rd_of_own k1, hu.below k2 (Nat.le_refl _)⟩
theorem bb_down (h : Bb W w p q d m) : Calls Try.prog 13 #[.pointer (some ⟨p, 0, none⟩)] w fun e w' => e = .returned (.bool d.down) ∧ w = w' := by
  obtain ⟨g, o, hc⟩ := h
  exact down_any w p d.down (blk_cell hc.da.blk)
theorem bb_ddown (h : Bb W w p q d m) : Calls Try.prog 14 #[.pointer (some ⟨q, 0, none⟩)] w fun e w' => e = .returned (.bool m.down) ∧ w = w' := by
  obtain ⟨g, o, hc⟩ := h
  obtain ⟨v, gs, hd⟩ := hc.ra
  exact ddown_any w q m.down (blk_cell hd.blk)
theorem bb_calls (h : Bb W w p q d m) : Calls Try.prog 15 #[.pointer (some ⟨p, 0, none⟩)] w fun e w' => e = .returned (.int .i64 (d.calls : Int)) ∧ w = w' := by
  obtain ⟨g, o, hc⟩ := h
  exact calls_any w p (d.calls : Int) (blk_cell hc.da.blk)
theorem bb_dcalls (h : Bb W w p q d m) : Calls Try.prog 16 #[.pointer (some ⟨q, 0, none⟩)] w fun e w' => e = .returned (.int .i64 m.calls) ∧ w = w' := by
  obtain ⟨g, o, hc⟩ := h
  obtain ⟨v, gs, hd⟩ := hc.ra
  exact dcalls_any w q m.calls (blk_cell hd.blk)
end
end Go.Proofs.Ytfeogoihkpclcaa
