/-
  The program's client: Piece, Down, Names.
-/
import Derived.Test.YtljjgpjaleekdaaGreatDoorClientUp
namespace Go.Proofs.YtljjgpjaleekdaaGreatDoor
open Go.RowKit

theorem enters_piece1 : Enters Tryz.prog 35 := enters_of Tryz.func35 (by kernel_rfl) rfl
theorem enters_names1 : Enters Tryz.prog 38 := enters_of Tryz.func38 (by kernel_rfl) rfl

set_option maxRecDepth 100000 in
set_option maxHeartbeats 1000000 in
/-- Piece's closure: any call of Get behind it; what it told lies in the box. -/
theorem piece1_any (w : World) (bf bn ba bc bx : Nat) (fv : Value) (s : ByteArray) (a c : Int) (hbf : w.cell? ⟨bf, 0, none⟩ = some fv) (hbn : w.cell? ⟨bn, 0, none⟩ = some (.string s)) (hba : w.cell? ⟨ba, 0, none⟩ = some (.int .i64 a)) (hbc : w.cell? ⟨bc, 0, none⟩ = some (.int .i64 c)) {R : List UInt8 → Nat → Value → World → Prop}
    (hc : Calls Tryz.prog 36 #[fv, .string s, .int .i64 a, .int .i64 c] w fun e w' => ∃ (l : List UInt8) (r : Nat) (va : Option Addr) (vc : Nat) (v0 : Value), e = .returned (.tuple #[.slice va l.length vc, .int .i64 (r : Int)]) ∧ w'.heap[bx]? = some (.cells #[v0] 31 (0, 0)) ∧ R l r (.slice va l.length vc) (w'.setCell ⟨bx, 0, none⟩ (.slice va l.length vc))) :
    Calls Tryz.prog 35 #[.pointer (some ⟨bf, 0, none⟩), .pointer (some ⟨bn, 0, none⟩), .pointer (some ⟨ba, 0, none⟩), .pointer (some ⟨bc, 0, none⟩), .pointer (some ⟨bx, 0, none⟩)] w fun e w' => ∃ (l : List UInt8) (r : Nat) (va : Option Addr) (vc : Nat), e = .returned (.int .i64 (r : Int)) ∧ R l r (.slice va l.length vc) w' := by
  have HC := Lib.hid hc
  clear hc
  go_enter Tryz.func35, Tryz.ntmps35
  go_wp2_with (go_at_call 36; (with_reducible refine HC.out.mono ?_); rintro e w1 ⟨l, r, va, vc, v0, rfl, hb, hr⟩; have HR := Lib.hid hr; have c0 : w1.cell? ⟨bx, 0, none⟩ = some v0 := blk_cell hb; have f0 : w1.frozen? ⟨bx, 0, none⟩ = false := blk_free hb; clear hb hr)
  go_ret
  exact ⟨l, r, va, vc, rfl, HR.out⟩

set_option maxRecDepth 100000 in
set_option maxHeartbeats 1000000 in
/-- Names' closure. -/
theorem names1_any (w : World) (bf bx : Nat) (fv : Value) (hbf : w.cell? ⟨bf, 0, none⟩ = some fv) {R : List (List UInt8) → Nat → Value → World → Prop}
    (hc : Calls Tryz.prog 39 #[fv] w fun e w' => ∃ (l : List (List UInt8)) (r : Nat) (va : Option Addr) (vc : Nat) (v0 : Value), e = .returned (.tuple #[.slice va l.length vc, .int .i64 (r : Int)]) ∧ w'.heap[bx]? = some (.cells #[v0] 53 (0, 0)) ∧ R l r (.slice va l.length vc) (w'.setCell ⟨bx, 0, none⟩ (.slice va l.length vc))) :
    Calls Tryz.prog 38 #[.pointer (some ⟨bf, 0, none⟩), .pointer (some ⟨bx, 0, none⟩)] w fun e w' => ∃ (l : List (List UInt8)) (r : Nat) (va : Option Addr) (vc : Nat), e = .returned (.int .i64 (r : Int)) ∧ R l r (.slice va l.length vc) w' := by
  have HC := Lib.hid hc
  clear hc
  go_enter Tryz.func38, Tryz.ntmps38
  go_wp2_with (go_at_call 39; (with_reducible refine HC.out.mono ?_); rintro e w1 ⟨l, r, va, vc, v0, rfl, hb, hr⟩; have HR := Lib.hid hr; have c0 : w1.cell? ⟨bx, 0, none⟩ = some v0 := blk_cell hb; have f0 : w1.frozen? ⟨bx, 0, none⟩ = false := blk_free hb; clear hb hr)
  go_ret
  exact ⟨l, r, va, vc, rfl, HR.out⟩

theorem get_eight {f : FR} {n : List UInt8} {a c : Int} (h : (f.get n a c).2 = 8) : (f.get n a c).1 = [] := by
  unfold FR.get at h ⊢
  dsimp only at h ⊢
  rw [if_neg (by rw [h]; decide)]
theorem list_eight {f : FR} (h : f.list.2 = 8) : f.list.1 = [] := by
  unfold FR.list at h ⊢
  dsimp only at h ⊢
  rw [if_neg (by rw [h]; decide)]

/-- A call that only takes an outcome, and leaves what it tells in the box 'bx', tried. -/
theorem tried_box {α : Type} (rdv : World → Value → α → Prop) (a0 : α) (g : FR → α × Nat) (hg8 : ∀ f, (g f).2 = 8 → (g f).1 = a0) {G : Nat → Prop} {w : World} {p bx : Nat} {t : TypeId} {f : FR} {m : Nat} (hf : FarAt G w p f) (hz : Fz f m) (k : Nat) (caps : Array Value) (hen : Enters Tryz.prog k)
    (v0 : Value) (hb0 : w.heap[bx]? = some (.cells #[v0] t (0, 0))) (hr0 : rdv w v0 a0) (ho0 : v0.ownBlock = none)
    (hdo : ∀ G' w' f' v', FarAt G' w' p f' → Touch (fun k => G k ∨ k = bx) w w' → Grows G G' w w' → w'.heap[bx]? = some (.cells #[v'] t (0, 0)) → Fz f' (m + 4) → Calls Tryz.prog k caps w' fun e w'' => ∃ v G'', e = .returned (.int .i64 ((g f').2 : Int)) ∧ FarAt G'' w'' p f'.took ∧ Touch (fun k => G' k ∨ k = bx) w' w'' ∧ Grows G' G'' w' w'' ∧ w''.heap[bx]? = some (.cells #[v] t (0, 0)) ∧ rdv w'' v (g f').1 ∧ ∀ k, v.ownBlock = some k → w'.heap.size ≤ k ∧ ¬ G'' k) :
    Calls Tryz.prog 32 #[.func (.func k) #[] caps] w fun e w' => e = .returned (.int .i64 ((FR.tries2 g a0 4 f).1.2 : Int)) ∧ ∃ v G', FarAt G' w' p (FR.tries2 g a0 4 f).2 ∧ Touch (fun k => G k ∨ k = bx) w w' ∧ Grows G G' w w' ∧ w'.heap[bx]? = some (.cells #[v] t (0, 0)) ∧ rdv w' v (FR.tries2 g a0 4 f).1.1 ∧ (∀ k, v.ownBlock = some k → w.heap.size ≤ k ∧ ¬ G' k) ∧ Fz (FR.tries2 g a0 4 f).2 (m + 4) := by
  refine (tried_any k caps hen w (fun i w' => ∃ f' v G', FarAt G' w' p f' ∧ Touch (fun k => G k ∨ k = bx) w w' ∧ Grows G G' w w' ∧ w'.heap[bx]? = some (.cells #[v] t (0, 0)) ∧ rdv w' v a0 ∧ (∀ k, v.ownBlock = some k → w.heap.size ≤ k ∧ ¬ G' k) ∧ Fz f' (m + i) ∧ FR.tries2 g a0 (4 - i) f' = FR.tries2 g a0 4 f)
    (fun r w' => ∃ f' v G' l, FarAt G' w' p f' ∧ Touch (fun k => G k ∨ k = bx) w w' ∧ Grows G G' w w' ∧ w'.heap[bx]? = some (.cells #[v] t (0, 0)) ∧ rdv w' v l ∧ (∀ k, v.ownBlock = some k → w.heap.size ≤ k ∧ ¬ G' k) ∧ Fz f' (m + 4) ∧ FR.tries2 g a0 4 f = ((l, r), f'))
    ⟨f, v0, G, hf, Touch.refl _ _, Grows.refl _ _ _, hb0, hr0, (fun k e => by rw [ho0] at e; cases e), hz, rfl⟩ ?_).mono ?_
  · rintro i w' hi ⟨f', v', G', h1, h2, h3, h4, h5, h6, h7, h8⟩
    refine (hdo G' w' f' v' h1 h2 h3 h4 (h7.mono (by omega))).mono ?_
    rintro e w'' ⟨v, G'', rfl, k1, k2, k3, k4, k5, k6⟩
    have e1 : FR.tries2 g a0 (4 - i) f' = if (g f').2 = 8 then FR.tries2 g a0 (4 - (i + 1)) f'.took else (g f', f'.took) := by
      rw [show 4 - i = (4 - (i + 1)) + 1 by omega]; rfl
    have t2 : Touch (fun k => G k ∨ k = bx) w w'' := h2.trans k2 fun k hk => by
      rcases hk with hk | hk
      · exact (h3 k hk).imp .inl id
      · exact .inl (.inr hk)
    have g2 : Grows G G'' w w'' := h3.trans k3 h2.size k2.size
    have o2 : ∀ k, v.ownBlock = some k → w.heap.size ≤ k ∧ ¬ G'' k := fun k e => ⟨Nat.le_trans h2.size (k6 k e).1, (k6 k e).2⟩
    refine ⟨(g f').2, rfl, fun he => ⟨f'.took, v, G'', k1, t2, g2, k4, ?_, o2, h7.took, ?_⟩, fun hne => ⟨f'.took, v, G'', (g f').1, k1, t2, g2, k4, k5, o2, h7.took.mono (by omega), ?_⟩⟩
    · rw [← hg8 f' he]; exact k5
    · rw [← h8, e1, if_pos he]
    · rw [← h8, e1, if_neg hne]
  · rintro e w' ⟨r, rfl, ⟨rfl, f', v, G', h1, h2, h3, h4, h5, h6, h7, h8⟩ | ⟨hr, f', v, G', l, h1, h2, h3, h4, h5, h6, h7, h8⟩⟩
    · have h9 : FR.tries2 g a0 4 f = ((a0, 8), f') := h8.symm
      rw [h9]
      exact ⟨rfl, v, G', h1, h2, h3, h4, h5, h6, h7⟩
    · rw [h8]
      exact ⟨rfl, v, G', h1, h2, h3, h4, h5, h6, h7⟩

theorem Touch.unbox {G : Nat → Prop} {w w1 w' : World} {bx : Nat} (hb : Below w.heap.size w w1) (hbx : w.heap.size ≤ bx) (h : Touch (fun k => G k ∨ k = bx) w1 w') : Touch G w w' :=
  (Kept.of hb fun _ hk => hk.1).trans (Kept.mono h fun k hk => ⟨Nat.lt_of_lt_of_le hk.1 hb.size, fun e => e.elim hk.2 fun e => by subst e; exact absurd hk.1 (by omega)⟩)
theorem Grows.unbox {G G' : Nat → Prop} {w w1 w' : World} (hb : Below w.heap.size w w1) (h : Grows G G' w1 w') : Grows G G' w w' := fun k hk => (h k hk).imp id fun h => ⟨Nat.le_trans hb.size h.1, h.2⟩

theorem heap_new5 (w : World) (o1 o2 o3 o4 o5 : Obj) : (((((w.alloc o1).alloc o2).alloc o3).alloc o4).alloc o5).heap[w.heap.size + 4]? = some o5 := by simpa using heap_alloc_new ((((w.alloc o1).alloc o2).alloc o3).alloc o4) o5

set_option maxRecDepth 100000 in
set_option maxHeartbeats 2000000 in
theorem piece_at {G : Nat → Prop} {w : World} {p : Nat} {f : FR} {m : Nat} (h : FarAt G w p f) (hz : Fz f m) (hm : m ≤ 100000) (s : ByteArray) (hs : s.size ≤ maxLen) (a c : Int) :
    Calls Tryz.prog 21 #[.pointer (some ⟨p, 0, none⟩), .string s, .int .i64 a, .int .i64 c] w fun e w' => ∃ va vc G', e = .returned (.tuple #[.slice va (f.gets s.data.toList a c).1.1.length vc, .int .i64 ((f.gets s.data.toList a c).1.2 : Int)]) ∧ FarAt G' w' p (f.gets s.data.toList a c).2 ∧ Touch G w w' ∧ Grows G G' w w' ∧ RdB w' (.slice va (f.gets s.data.toList a c).1.1.length vc) (f.gets s.data.toList a c).1.1 ∧ (∀ k, (Value.slice va (f.gets s.data.toList a c).1.1.length vc).ownBlock = some k → w.heap.size ≤ k ∧ ¬ G' k) ∧ Fz (f.gets s.data.toList a c).2 (m + 4) := by
  obtain ⟨w1, hw1⟩ : ∃ w1, w1 = ((((w.alloc (.cells #[.pointer (some ⟨p, 0, none⟩)] 24)).alloc (.cells #[.string s] 9)).alloc (.cells #[.int .i64 a] 3)).alloc (.cells #[.int .i64 c] 3)).alloc (.cells #[.slice none 0 0] 31) := ⟨_, rfl⟩
  have hbel : Below w.heap.size w w1 := by subst hw1; exact (((((Below.refl _ _).alloc (Nat.le_refl _) _).alloc (by simp) _).alloc (by simp <;> omega) _).alloc (by simp <;> omega) _).alloc (by simp <;> omega) _
  have hwd : w1.heap.size = w.heap.size + 5 := by subst hw1; simp
  have hbx : w1.heap[w.heap.size + 4]? = some (.cells #[.slice none 0 0] 31 (0, 0)) := by subst hw1; exact heap_new5 w _ _ _ _ _
  have hold : ∀ k, k ≤ w.heap.size + 3 → w1.heap[k]? = ((((w.alloc (.cells #[.pointer (some ⟨p, 0, none⟩)] 24)).alloc (.cells #[.string s] 9)).alloc (.cells #[.int .i64 a] 3)).alloc (.cells #[.int .i64 c] 3)).heap[k]? := fun k hk => by subst hw1; exact Below.heap_alloc _ _ _ (by simp; omega)
  have hb3 : w1.heap[w.heap.size + 3]? = some (.cells #[.int .i64 c] 3 (0, 0)) := (hold _ (by omega)).trans (heap_new4 w _ _ _ _)
  have hb2 : w1.heap[w.heap.size + 2]? = some (.cells #[.int .i64 a] 3 (0, 0)) := (hold _ (by omega)).trans ((Below.heap_alloc _ _ _ (by simp)).trans (heap_new3 w _ _ _))
  have hb1 : w1.heap[w.heap.size + 1]? = some (.cells #[.string s] 9 (0, 0)) := (hold _ (by omega)).trans ((Below.heap_alloc _ _ _ (by simp)).trans ((Below.heap_alloc _ _ _ (by simp)).trans (heap_new2 w _ _)))
  have hb0 : w1.heap[w.heap.size]? = some (.cells #[.pointer (some ⟨p, 0, none⟩)] 24 (0, 0)) := (hold _ (by omega)).trans ((Below.heap_alloc _ _ _ (by simp; omega)).trans ((Below.heap_alloc _ _ _ (by simp; omega)).trans ((Below.heap_alloc _ _ _ (by simp)).trans (heap_alloc_new w _))))
  have h1 : FarAt G w1 p f := h.below hbel
  have hout : ∀ k, w.heap.size ≤ k → ¬ G k := fun k hk e => by have := h.lt k e; omega
  have ht := tried_box (fun w v l => RdB w v l) [] (fun f => f.get s.data.toList a c) (fun f hh => get_eight hh) (bx := w.heap.size + 4) (t := 31) h1 hz 35 #[.pointer (some ⟨w.heap.size, 0, none⟩), .pointer (some ⟨w.heap.size + 1, 0, none⟩), .pointer (some ⟨w.heap.size + 2, 0, none⟩), .pointer (some ⟨w.heap.size + 3, 0, none⟩), .pointer (some ⟨w.heap.size + 4, 0, none⟩)] enters_piece1
    (.slice none 0 0) hbx (Rd.nil _ _) rfl (fun G' w2 f' v' k1 k2 k3 k4 k5 => by
      have q0 : ∀ k, k < w.heap.size + 4 → w.heap.size ≤ k → w2.heap[k]? = w1.heap[k]? := fun k hk hk2 => k2.block k ⟨by omega, fun e => e.elim (hout k hk2) (by omega)⟩
      refine (piece1_any w2 w.heap.size (w.heap.size + 1) (w.heap.size + 2) (w.heap.size + 3) (w.heap.size + 4) (.pointer (some ⟨p, 0, none⟩)) s a c (blk_cell ((q0 _ (by omega) (by omega)).trans hb0)) (blk_cell ((q0 _ (by omega) (by omega)).trans hb1)) (blk_cell ((q0 _ (by omega) (by omega)).trans hb2)) (blk_cell ((q0 _ (by omega) (by omega)).trans hb3))
        (R := fun l r v w'' => l = (f'.get s.data.toList a c).1 ∧ r = (f'.get s.data.toList a c).2 ∧ FarAt G' w'' p f'.took ∧ Touch (fun k => G' k ∨ k = w.heap.size + 4) w2 w'' ∧ w''.heap[w.heap.size + 4]? = some (.cells #[v] 31 (0, 0)) ∧ RdB w'' v (f'.get s.data.toList a c).1 ∧ ∀ k, v.ownBlock = some k → w2.heap.size ≤ k ∧ ¬ G' k) ?_).mono ?_
      · refine (farGet_at k1 (by have := k5.calls; omega) s hs a c).mono ?_
        rintro e w3 ⟨v, rfl, j1, j2, j3, j4⟩
        have j3' := j3
        obtain ⟨va, vc, rfl, _, _⟩ := RdB.form j3
        have hgb : ¬ G' (w.heap.size + 4) := fun e => (k3 _ e).elim (hout _ (by omega)) (by omega)
        have j5 := (j2.block (w.heap.size + 4) ⟨blk_lt k4, hgb⟩).trans k4
        have hlt := blk_lt k4
        refine ⟨(f'.get s.data.toList a c).1, (f'.get s.data.toList a c).2, va, vc, v', rfl, j5, rfl, rfl, ?_, ?_, ?_, ?_, fun k e => ⟨j4 k e, fun hg => ?_⟩⟩
        · exact j1.kept (R := G') ((Kept.refl _ _).setCell hgb _) fun _ h => h
        · exact (Kept.mono j2 fun k hk => ⟨hk.1, fun hg => hk.2 (.inl hg)⟩).setCell (fun hk => hk.2 (.inr rfl)) _
        · exact (blk_set (i := 0) j5 _).trans (by simp)
        · exact RdB.kept (R := fun k => k ≠ w.heap.size + 4) j3' ((Kept.refl _ _).setCell (fun h => h rfl) _) fun k e he => by have := j4 k e; omega
        · have := k1.lt k hg; have := j4 k e; omega
      · rintro e w3 ⟨l, r, va, vc, rfl, rfl, rfl, j1, j2, j3, j4, j5⟩
        exact ⟨_, G', rfl, j1, j2, Grows.refl _ _ _, j3, j4, j5⟩)
  rw [show FR.tries2 (fun f => f.get s.data.toList a c) [] 4 f = f.gets s.data.toList a c from rfl] at ht
  have HT := Lib.hid ht
  have HBEL := Lib.hid hbel
  have Hw1 := Lib.hid hw1
  have HWD := Lib.hid hwd
  clear ht hbel hw1 hwd hbx hold hb0 hb1 hb2 hb3 h1 hout
  obtain ⟨⟨⟨l, r⟩, f2⟩, he⟩ : ∃ y, f.gets s.data.toList a c = y := ⟨_, rfl⟩
  rw [he] at HT ⊢
  dsimp only at HT ⊢
  clear he
  go_enter Tryz.func21, Tryz.ntmps21
  go_wp2_with (go_at_call 32; rw [← Hw1.out]; (with_reducible refine HT.out.mono ?_); rintro e w2 ⟨rfl, v, G', k1, k2, k3, k4, k5, k6, k7⟩; have HR := Lib.hid k5; obtain ⟨va, vc, hv, _, _⟩ := RdB.form k5; subst hv; have c0 : w2.cell? ⟨w.heap.size + 4, 0, none⟩ = some (.slice va l.length vc) := blk_cell k4; have H1 := Lib.hid k1; have H2 := Lib.hid k2; have H3 := Lib.hid k3; have H6 := Lib.hid k6; have H7 := Lib.hid k7; clear k1 k2 k3 k4 k5 k6 k7)
  go_ret2
  exact ⟨va, vc, G', rfl, H1.out, Touch.unbox HBEL.out (by omega) H2.out, Grows.unbox HBEL.out H3.out, HR.out, fun k e => ⟨by have := (H6.out k e).1; have := HWD.out; omega, (H6.out k e).2⟩, H7.out⟩
end Go.Proofs.YtljjgpjaleekdaaGreatDoor
