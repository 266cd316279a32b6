/-
  Two disks side by side, and bytes of their own beside them: DiskApart.
-/
import Derived.Test.YtkobjbjakgfhcaaDiskCopy
import Derived.Test.YtkobjbjakgfhcaaDiskLaw2
import Derived.Test.YtkobjbjakgfhcaaSumBits
namespace Go.Proofs.Ytkobjbjakgfhcaa
open Go.RowKit

/-- A disk, and the bytes 'l', which can be written, beside it. -/
def Db (W w : World) (p : Nat) (d : PD) (v : Value) (l : List UInt8) : Prop := ∃ g, DiskAt g w p d ∧ Below W.heap.size W w ∧ (∀ k, g.F k → W.heap.size ≤ k) ∧ OwnB w 0 5 v l ∧ ∀ k, v.ownBlock = some k → W.heap.size ≤ k ∧ k < w.heap.size ∧ ¬ g.F k

/-- Two disks, such bytes, and what is held besides. -/
def Dc (W w : World) (p q : Nat) (d e : PD) (v : Value) (l : List UInt8) (P : World → Prop) : Prop := ∃ (g h : Gh) (S : Nat → Prop), DiskAt g w p d ∧ DiskAt h w q e ∧ (∀ k, g.F k → ¬ h.F k) ∧ Below W.heap.size W w ∧ (∀ k, g.F k → W.heap.size ≤ k) ∧ (∀ k, h.F k → W.heap.size ≤ k) ∧
  OwnB w 0 5 v l ∧ (∀ k, v.ownBlock = some k → W.heap.size ≤ k ∧ k < w.heap.size ∧ ¬ g.F k ∧ ¬ h.F k ∧ ¬ S k) ∧ (∀ k, S k → k < w.heap.size ∧ ¬ g.F k ∧ ¬ h.F k) ∧ ∀ w', Kept S w w' → P w'

theorem touch_le {F : Nat → Prop} {W w w' : World} (h : Below W.heap.size W w) (ht : Touch F w w') (hF : ∀ k, F k → W.heap.size ≤ k) : Below W.heap.size W w' := h.trans (Touch.below ht hF h.size)

section
variable {W w : World} {p q : Nat} {d e : PD} {v : Value} {l : List UInt8} {P : World → Prop}

/-- 'append' made the bytes. -/
theorem Db.of_on {w' : World} (h : On W w p d) (hb : Below w.heap.size w w') (ho : OwnB w' 0 5 v l) (hn : ∀ k, v.ownBlock = some k → w.heap.size ≤ k ∧ k < w'.heap.size) : Db W w' p d v l := by
  obtain ⟨g, h1, h2, h3⟩ := h
  exact ⟨g, h1.below hb, h2.trans (hb.mono h2.size), h3, ho, fun k e => ⟨Nat.le_trans h2.size (hn k e).1, (hn k e).2, fun hg => by have := h1.olt k hg; have := (hn k e).1; omega⟩⟩

theorem Db.own (h : Db W w p d v l) : OwnB w 0 5 v l := by
  obtain ⟨g, _, _, _, h, _⟩ := h
  exact h
theorem Db.be (h : Db W w p d v l) : Below W.heap.size W w := by
  obtain ⟨g, _, h, _⟩ := h
  exact h

theorem db_step {w' : World} {d' : PD} {g g' : Gh} (h2 : Below W.heap.size W w) (h3 : ∀ k, g.F k → W.heap.size ≤ k) (h4 : OwnB w 0 5 v l) (h5 : ∀ k, v.ownBlock = some k → W.heap.size ≤ k ∧ k < w.heap.size ∧ ¬ g.F k) (k1 : DiskAt g' w' p d') (k2 : Step g g' w w') : Db W w' p d' v l := by
  refine ⟨g', k1, touch_le h2 k2.touch h3, fun k hk => ?_, own_kept h4 k2.touch fun k e => ⟨(h5 k e).2.1, (h5 k e).2.2⟩, fun k e => ⟨(h5 k e).1, Nat.lt_of_lt_of_le (h5 k e).2.1 k2.touch.size, fun hg => ?_⟩⟩
  · rcases k2.new k hk with e | e
    · exact h3 k e
    · exact Nat.le_trans h2.size e
  · rcases k2.new k hg with e1 | e1
    · exact (h5 k e).2.2 e1
    · have := (h5 k e).2.1; omega

theorem db_make (h : Db W w p d v l) (hsm : Small d) (hcl : d.calls + 1 < 10000) (s : ByteArray) (hs : s.size ≤ maxLen) (r : Nat) (d' : PD) (he : d.make s.data.toList = (r, d')) :
    Calls Try.prog 18 #[.pointer (some ⟨p, 0, none⟩), .string s] w fun e w' => e = .returned (.int .i64 (r : Int)) ∧ Db W w' p d' v l := by
  obtain ⟨g, h1, h2, h3, h4, h5⟩ := h
  have hm := make_at h1 hsm hcl s hs
  rw [he] at hm
  refine hm.mono ?_
  rintro e w' ⟨rfl, g', k1, k2⟩
  exact ⟨rfl, db_step h2 h3 h4 h5 k1 k2⟩

theorem db_write (h : Db W w p d v l) (hsm : Small d) (hcl : d.calls + 1 < 10000) (s : ByteArray) (hs : s.size ≤ maxLen) (a : Int) (hll : l.length < 1000000000000) (r : Nat) (d' : PD) (he : d.write s.data.toList a l = (r, d')) :
    Calls Try.prog 19 #[.pointer (some ⟨p, 0, none⟩), .string s, .int .i64 a, v] w fun e w' => e = .returned (.int .i64 (r : Int)) ∧ Db W w' p d' v l := by
  obtain ⟨g, h1, h2, h3, h4, h5⟩ := h
  have hm := write_at h1 hsm hcl s hs a v l h4.read hll fun _ k e => by
    cases ho : g.o k with
    | out => rfl
    | _ => exact absurd (show g.F k by unfold Gh.F; rw [ho]; simp) (h5 k e).2.2
  rw [he] at hm
  refine hm.mono ?_
  rintro e w' ⟨rfl, g', k1, k2⟩
  exact ⟨rfl, db_step h2 h3 h4 h5 k1 k2⟩

/-- A byte of the bytes is written: the disk does not know of it. -/
theorem Db.spoil {kb n cap : Nat} (h : Db W w p d (.slice (some ⟨kb, 0, none⟩) n cap) l) (j : Nat) (u : Value) : On W (w.setCell ⟨kb, j, none⟩ u) p d := by
  obtain ⟨g, h1, h2, h3, _, h5⟩ := h
  have hk := h5 kb rfl
  have hkt := (Kept.refl (fun k => k ≠ kb) w).setCell (p := ⟨kb, j, none⟩) (fun h => h rfl) u
  exact ⟨g, h1.kept hkt fun k hg e => by subst e; exact hk.2.2 hg, h2.trans (Kept.below hkt fun k hk' e => by omega), h3⟩

theorem dc_copy (h : On W w p d) (hsm : Small d) :
    Calls Try.prog 9 #[.pointer (some ⟨p, 0, none⟩)] w fun e w' => ∃ q, e = .returned (.pointer (some ⟨q, 0, none⟩)) ∧ Dc W w' p q d d (.slice none 0 0) [] (fun _ => True) := by
  obtain ⟨g, h1, h2, h3⟩ := h
  refine (copy_at h1 hsm).mono ?_
  rintro e w' ⟨q, g', rfl, k1, k2, k3⟩
  exact ⟨q, rfl, g, g', fun _ => False, h1.below k3, k1, fun k hg hh => by have := h1.olt k hg; have := k2 k hh; omega, h2.trans (k3.mono h2.size), h3, fun k hk => Nat.le_trans h2.size (k2 k hk), OwnB.nil _ _ _, (fun k e => by cases e), fun k e => e.elim, fun _ _ => trivial⟩

/-- Read of the first disk: what it tells is the bytes that can be written. -/
theorem dc_read0 (h : Dc W w p q d e (.slice none 0 0) [] (fun _ => True)) (hsm : Small d) (s : ByteArray) (hs : s.size ≤ maxLen) (a n : Int) (l' : List UInt8) (r : Nat) (he : d.read s.data.toList a n = (l', r)) (hne : l' ≠ []) :
    Calls Try.prog 20 #[.pointer (some ⟨p, 0, none⟩), .string s, .int .i64 a, .int .i64 n] w fun y w' => ∃ kx cap, y = .returned (.tuple #[.slice (some ⟨kx, 0, none⟩) l'.length cap, .int .i64 (r : Int)]) ∧ Dc W w' p q d e (.slice (some ⟨kx, 0, none⟩) l'.length cap) l' (fun _ => True) := by
  obtain ⟨g, h, S, h1, h2, h3, h4, h5, h6, _, _, _, _⟩ := h
  have hm := read_at2 h1 hsm s hs a n
  rw [he] at hm
  refine hm.mono ?_
  rintro y w' ⟨v, rfl, k1, k2, k3⟩
  obtain ⟨kx, cap, cur, hv, _⟩ := own_form k2 (List.length_pos_iff.2 hne)
  subst hv
  have hx := World.ownsRow.lt k2 kx rfl
  have hx2 := k3 kx rfl
  refine ⟨kx, cap, rfl, g, h, fun _ => False, h1.below k1, h2.below k1, h3, h4.trans (k1.mono h4.size), h5, h6, k2, fun k e => ?_, fun k e => e.elim, fun _ _ => trivial⟩
  cases e
  exact ⟨Nat.le_trans h4.size hx2, hx.2, fun hg => by have := h1.olt kx hg; omega, fun hg => by have := h2.olt kx hg; omega, fun h => h⟩

theorem Dc.own (h : Dc W w p q d e v l P) : OwnB w 0 5 v l := by
  obtain ⟨g, h, S, _, _, _, _, _, _, h, _⟩ := h
  exact h
theorem Dc.be (h : Dc W w p q d e v l P) : Below W.heap.size W w := by
  obtain ⟨g, h, S, _, _, _, h, _⟩ := h
  exact h
theorem Dc.held (h : Dc W w p q d e v l P) : P w := by
  obtain ⟨g, h, S, _, _, _, _, _, _, _, _, _, h⟩ := h
  exact h w (Kept.refl _ _)

theorem Dc.store {kb n cap : Nat} (h : Dc W w p q d e (.slice (some ⟨kb, 0, none⟩) n cap) l P) (j : Nat) (c : UInt8) : Dc W (w.setCell ⟨kb, j, none⟩ (bv c)) p q d e (.slice (some ⟨kb, 0, none⟩) n cap) (l.set j c) P := by
  obtain ⟨g, h, S, h1, h2, h3, h4, h5, h6, h7, h8, h9, h10⟩ := h
  have hk := h8 kb rfl
  have hkt := (Kept.refl (fun k => k ≠ kb) w).setCell (p := ⟨kb, j, none⟩) (fun h => h rfl) (bv c)
  have hsz : (w.setCell ⟨kb, j, none⟩ (bv c)).heap.size = w.heap.size := by simp [World.setCell]
  refine ⟨g, h, S, h1.kept hkt fun k hg e => by subst e; exact hk.2.2.1 hg, h2.kept hkt fun k hg e => by subst e; exact hk.2.2.2.1 hg, h3, h4.trans (Kept.below hkt fun k hk' e => by omega), h5, h6, h7.stored j c, fun k e => by rw [hsz]; exact h8 k e, fun k e => by rw [hsz]; exact h9 k e, fun w' hw => h10 w' ((Kept.mono hkt fun k hS e => by subst e; exact hk.2.2.2.2 hS).trans hw)⟩

/-- A Write of the bytes into the second disk. -/
theorem dc_write2 (h : Dc W w p q d e v l P) (hsm : Small e) (hcl : e.calls + 1 < 10000) (s : ByteArray) (hs : s.size ≤ maxLen) (a : Int) (hll : l.length < 1000000000000) (r : Nat) (e' : PD) (he : e.write s.data.toList a l = (r, e')) :
    Calls Try.prog 19 #[.pointer (some ⟨q, 0, none⟩), .string s, .int .i64 a, v] w fun y w' => y = .returned (.int .i64 (r : Int)) ∧ Dc W w' p q d e' v l P := by
  obtain ⟨g, h, S, h1, h2, h3, h4, h5, h6, h7, h8, h9, h10⟩ := h
  have hm := write_at h2 hsm hcl s hs a v l h7.read hll fun _ k e => by
    cases ho : h.o k with
    | out => rfl
    | _ => exact absurd (show h.F k by unfold Gh.F; rw [ho]; simp) (h8 k e).2.2.2.1
  rw [he] at hm
  refine hm.mono ?_
  rintro y w' ⟨rfl, h', k1, k2⟩
  have hnew : ∀ k, k < w.heap.size → ¬ h.F k → ¬ h'.F k := fun k hk hn hF => by
    rcases k2.new k hF with e1 | e1
    · exact hn e1
    · omega
  refine ⟨rfl, g, h', S, h1.kept (R := g.F) (Kept.mono k2.touch fun k hk => ⟨h1.olt k hk, h3 k hk⟩) fun _ h => h, k1, fun k hg => hnew k (h1.olt k hg) (h3 k hg), touch_le h4 k2.touch h6, h5, fun k hk => ?_, own_kept h7 k2.touch fun k e => ⟨(h8 k e).2.1, (h8 k e).2.2.2.1⟩, fun k e => ?_, fun k hS => ?_, fun w'' hw => h10 w'' ((Kept.mono k2.touch fun k hS => ⟨(h9 k hS).1, (h9 k hS).2.2⟩).trans hw)⟩
  · rcases k2.new k hk with e1 | e1
    · exact h6 k e1
    · exact Nat.le_trans h4.size e1
  · obtain ⟨j1, j2, j3, j4, j5⟩ := h8 k e
    exact ⟨j1, Nat.lt_of_lt_of_le j2 k2.touch.size, j3, hnew k j2 j4, j5⟩
  · obtain ⟨j1, j2, j3⟩ := h9 k hS
    exact ⟨Nat.lt_of_lt_of_le j1 k2.touch.size, j2, hnew k j1 j3⟩

theorem Dc.below {w' : World} (h : Dc W w p q d e v l P) (hb : Below w.heap.size w w') : Dc W w' p q d e v l P := by
  obtain ⟨g, h, S, h1, h2, h3, h4, h5, h6, h7, h8, h9, h10⟩ := h
  exact ⟨g, h, S, h1.below hb, h2.below hb, h3, h4.trans (hb.mono h4.size), h5, h6, own_kept h7 (Kept.of hb (R := fun k => k < w.heap.size) fun _ h => h) fun k e => (h8 k e).2.1, fun k e => ⟨(h8 k e).1, Nat.lt_of_lt_of_le (h8 k e).2.1 hb.size, (h8 k e).2.2⟩, fun k e => ⟨Nat.lt_of_lt_of_le (h9 k e).1 hb.size, (h9 k e).2⟩, fun w'' hw => h10 w'' ((Kept.of hb fun k hS => (h9 k hS).1).trans hw)⟩

/-- A Read of either disk: nothing changes, what it tells can be read as long as nobody writes below. -/
theorem dc_read1 (h : Dc W w p q d e v l P) (hsm : Small d) (s : ByteArray) (hs : s.size ≤ maxLen) (a n : Int) (l' : List UInt8) (r : Nat) (he : d.read s.data.toList a n = (l', r)) :
    Calls Try.prog 20 #[.pointer (some ⟨p, 0, none⟩), .string s, .int .i64 a, .int .i64 n] w fun y w' => ∃ xa xc, y = .returned (.tuple #[.slice xa l'.length xc, .int .i64 (r : Int)]) ∧ Dc W w' p q d e v l P ∧ RdB w' (.slice xa l'.length xc) l' := by
  have hh := h
  obtain ⟨g, h, S, h1, _⟩ := h
  have hm := read_at h1 hsm s hs a n
  rw [he] at hm
  refine hm.mono ?_
  rintro y w' ⟨v, rfl, k1, k2, k3⟩
  obtain ⟨xa, xc, rfl, _, _⟩ := RdB.form k2
  exact ⟨xa, xc, rfl, hh.below k1, k2⟩
theorem dc_read2 (h : Dc W w p q d e v l P) (hsm : Small e) (s : ByteArray) (hs : s.size ≤ maxLen) (a n : Int) (l' : List UInt8) (r : Nat) (he : e.read s.data.toList a n = (l', r)) {x : Value} {lx : List UInt8} (hx : RdB w x lx) :
    Calls Try.prog 20 #[.pointer (some ⟨q, 0, none⟩), .string s, .int .i64 a, .int .i64 n] w fun y w' => ∃ xa xc, y = .returned (.tuple #[.slice xa l'.length xc, .int .i64 (r : Int)]) ∧ Dc W w' p q d e v l P ∧ RdB w' x lx ∧ RdB w' (.slice xa l'.length xc) l' := by
  have hh := h
  obtain ⟨g, h, S, h1, h2, _⟩ := h
  have hm := read_at h2 hsm s hs a n
  rw [he] at hm
  refine hm.mono ?_
  rintro y w' ⟨v, rfl, k1, k2, k3⟩
  obtain ⟨xa, xc, rfl, _, _⟩ := RdB.form k2
  exact ⟨xa, xc, rfl, hh.below k1, hx.below k1 (Nat.le_refl _), k2⟩
end
end Go.Proofs.Ytkobjbjakgfhcaa
