/-
  The client's calls, told of the world that a statement began in, while things that were told are held; the document's example of layer 6.
-/
import Derived.Test.YtljjgpjaleekdaaGreatDoorClientDrop
namespace Go.Proofs.YtljjgpjaleekdaaGreatDoor
open Go.RowKit

/-- The far store 'f' lies behind all that 'W' has; what 'P' says of the world holds, and goes on holding whatever is done to the far store. -/
def FOnH (W w : World) (p : Nat) (f : FR) (P : World → Prop) : Prop := ∃ (G S : Nat → Prop), FarAt G w p f ∧ Below W.heap.size W w ∧ (∀ k, G k → W.heap.size ≤ k) ∧ (∀ k, S k → k < w.heap.size ∧ ¬ G k) ∧ ∀ w', Kept S w w' → P w'

section
variable {W w w' : World} {p : Nat} {f f' : FR} {P : World → Prop}

theorem FOnH.held (h : FOnH W w p f P) : P w := by
  obtain ⟨G, S, _, _, _, _, h⟩ := h
  exact h w (Kept.refl _ _)
theorem FOnH.be (h : FOnH W w p f P) : Below W.heap.size W w := by
  obtain ⟨G, S, _, h, _⟩ := h
  exact h
theorem FOn.h (h : FOn W w p f) : FOnH W w p f fun _ => True := by
  obtain ⟨G, h1, h2, h3⟩ := h
  exact ⟨G, fun _ => False, h1, h2, h3, fun _ h => h.elim, fun _ _ => trivial⟩
theorem FOnH.below (h : FOnH W w p f P) (hb : Below w.heap.size w w') : FOnH W w' p f P := by
  obtain ⟨G, S, h1, h2, h3, h4, h5⟩ := h
  exact ⟨G, S, h1.below hb, h2.trans (hb.mono h2.size), h3, fun k hk => ⟨Nat.lt_of_lt_of_le (h4 k hk).1 hb.size, (h4 k hk).2⟩, fun w'' hk => h5 w'' ((Kept.of hb fun k hk => (h4 k hk).1).trans hk)⟩

theorem fonh_to {G S : Nat → Prop} (h2 : Below W.heap.size W w) (h3 : ∀ k, G k → W.heap.size ≤ k) (h4 : ∀ k, S k → k < w.heap.size ∧ ¬ G k) (h5 : ∀ w', Kept S w w' → P w') (t : FarTo G w w' p f') : FOnH W w' p f' P := by
  obtain ⟨G', k1, k2, k3⟩ := t
  refine ⟨G', S, k1, h2.trans (Touch.below k2 h3 h2.size), fun k hk => ?_, fun k hk => ⟨Nat.lt_of_lt_of_le (h4 k hk).1 k2.size, fun hg => ?_⟩, fun w'' hk => h5 w'' ((Touch.kept k2 h4).trans hk)⟩
  · rcases k3 k hk with q | q
    · exact h3 k q
    · have := h2.size; omega
  · rcases k3 k hg with q | q
    · exact (h4 k hk).2 q
    · have := (h4 k hk).1; omega

/-- .. and something more is held. -/
theorem fonh_more {G S G' : Nat → Prop} (h2 : Below W.heap.size W w) (h3 : ∀ k, G k → W.heap.size ≤ k) (h4 : ∀ k, S k → k < w.heap.size ∧ ¬ G k) (h5 : ∀ w', Kept S w w' → P w') (k1 : FarAt G' w' p f') (k2 : Touch G w w') (k3 : Grows G G' w w') (v : Value) (Q : World → Prop) (hlt : ∀ k, v.ownBlock = some k → k < w'.heap.size ∧ ¬ G' k) (hQ : ∀ w'', Kept (fun k => v.ownBlock = some k) w' w'' → Q w'') : FOnH W w' p f' fun w => P w ∧ Q w := by
  obtain ⟨G2, S2, j1, j2, j3, j4, j5⟩ := fonh_to (P := P) h2 h3 h4 h5 ⟨G', k1, k2, k3⟩
  refine ⟨G', fun k => S k ∨ v.ownBlock = some k, k1, j2, fun k hk => ?_, ?_, fun w'' hk => ⟨h5 w'' ((Touch.kept k2 h4).trans (Kept.mono hk fun k h => .inl h)), hQ w'' (Kept.mono hk fun k h => .inr h)⟩⟩
  · rcases k3 k hk with q | q
    · exact h3 k q
    · have := h2.size; omega
  · rintro k (hk | hk)
    · refine ⟨Nat.lt_of_lt_of_le (h4 k hk).1 k2.size, fun hg => ?_⟩
      rcases k3 k hg with q | q
      · exact (h4 k hk).2 q
      · have := (h4 k hk).1; omega
    · exact hlt k hk

theorem fh_next (h : FOnH W w p f P) (v : Value) (l : List Int) (hv : Rd w 1 v l.length (l.map (Value.int .i64))) (hl : l.length < 1000000) :
    Calls Tryz.prog 14 #[.pointer (some ⟨p, 0, none⟩), v] w fun e w' => e = .returned (.tuple #[]) ∧ FOnH W w' p (f.next l) P := by
  obtain ⟨G, S, h1, h2, h3, h4, h5⟩ := h
  refine (farNext_at h1 v l hv (by omega)).mono ?_
  rintro e w' ⟨rfl, k1⟩
  exact ⟨rfl, fonh_to h2 h3 h4 h5 k1⟩

theorem fh_up {w2 : World} {m : Nat} (h : FOnH W w p f P) (hb : Below w.heap.size w w2) (hz : Fz f m) (hm : m ≤ 10000) (s : ByteArray) (hs : s.size ≤ maxLen) (v : Value) (b : List UInt8) (hv : RdB w2 v b) (hbl : b.length ≤ maxLen) (ov : b ≠ [] → ∀ k, v.ownBlock = some k → k < W.heap.size ∨ w.heap.size ≤ k) (r : Nat) (f' : FR) (he : f.up s.data.toList b = (r, f')) :
    Calls Tryz.prog 16 #[.pointer (some ⟨p, 0, none⟩), .string s, v] w2 fun e w' => e = .returned (.int .i64 (r : Int)) ∧ FOnH W w' p f' P := by
  obtain ⟨G, S, h1, h2, h3, h4, h5⟩ := h
  have hm := up_at (h1.below hb) hz hm s hs v b hv hbl fun hne k e hg => by
    rcases ov hne k e with q | q
    · have := h3 k hg; omega
    · have := h1.lt k hg; omega
  rw [he] at hm
  refine hm.mono ?_
  rintro e w' ⟨rfl, k1, _⟩
  exact ⟨rfl, fonh_to (h2.trans (hb.mono h2.size)) h3 (fun k hk => ⟨Nat.lt_of_lt_of_le (h4 k hk).1 hb.size, (h4 k hk).2⟩) (fun w'' hk => h5 w'' ((Kept.of hb fun k hk => (h4 k hk).1).trans hk)) k1⟩

theorem fh_cdrop {m : Nat} (h : FOnH W w p f P) (hz : Fz f m) (hm : m ≤ 10000) (s : ByteArray) (hs : s.size ≤ maxLen) (r : Nat) (f' : FR) (he : f.cdrop s.data.toList = (r, f')) :
    Calls Tryz.prog 26 #[.pointer (some ⟨p, 0, none⟩), .string s] w fun e w' => e = .returned (.int .i64 (r : Int)) ∧ FOnH W w' p f' P := by
  obtain ⟨G, S, h1, h2, h3, h4, h5⟩ := h
  have hm := cdrop_at h1 hz hm s hs
  rw [he] at hm
  refine hm.mono ?_
  rintro e w' ⟨rfl, k1, _⟩
  exact ⟨rfl, fonh_to h2 h3 h4 h5 k1⟩

theorem own_lt {n : Nat} {v : Value} {cs : List Value} {sz : Nat} (h : Rd w sz v n cs) (hn : 0 < n) : ∀ k, v.ownBlock = some k → k < w.heap.size := by
  obtain ⟨a, cap, rfl, _, _, _, h4⟩ := h
  intro k e
  rcases h4 with ⟨h0, _⟩ | ⟨b, off, rfl, h1, _⟩
  · omega
  · cases e; exact h1

/-- What is held of a slice that can be read: if it is empty nothing. -/
theorem held_row {G' : Nat → Prop} {sz n : Nat} {v : Value} {cs : List Value} (h : Rd w' sz v n cs) (ho : ∀ k, v.ownBlock = some k → ¬ G' k) : ∃ v2 : Value, (∀ k, v2.ownBlock = some k → k < w'.heap.size ∧ ¬ G' k) ∧ ∀ w'', Kept (fun k => v2.ownBlock = some k) w' w'' → Rd w'' sz v n cs := by
  by_cases h0 : n = 0
  · subst h0
    refine ⟨.slice none 0 0, (fun k e => by cases e), fun w'' _ => ?_⟩
    obtain ⟨a, cap, rfl, h1, h2, h3, h4⟩ := h
    refine ⟨a, cap, rfl, h1, h2, h3, ?_⟩
    rcases h4 with ⟨h5, h6⟩ | ⟨b, off, rfl, h5, h6⟩
    · exact .inl ⟨h5, h6⟩
    · exact .inl ⟨rfl, fun h => by cases h⟩
  · exact ⟨v, fun k e => ⟨own_lt h (Nat.pos_of_ne_zero h0) k e, ho k e⟩, fun w'' hk => Rd.kept h hk fun k e => e⟩

theorem fh_piece {m : Nat} (h : FOnH W w p f P) (hz : Fz f m) (hm : m ≤ 10000) (s : ByteArray) (hs : s.size ≤ maxLen) (a c : Int) (l : List UInt8) (r : Nat) (f' : FR) (he : f.gets s.data.toList a c = ((l, r), f')) :
    Calls Tryz.prog 21 #[.pointer (some ⟨p, 0, none⟩), .string s, .int .i64 a, .int .i64 c] w fun e w' => ∃ va vc, e = .returned (.tuple #[.slice va l.length vc, .int .i64 (r : Int)]) ∧ FOnH W w' p f' fun w => P w ∧ RdB w (.slice va l.length vc) l := by
  obtain ⟨G, S, h1, h2, h3, h4, h5⟩ := h
  have hm := piece_at h1 hz (by omega) s hs a c
  rw [he] at hm
  refine hm.mono ?_
  rintro e w' ⟨va, vc, G', rfl, k1, k2, k3, k4, k5, _⟩
  obtain ⟨v2, q1, q2⟩ := held_row (G' := G') k4 fun k e => (k5 k e).2
  exact ⟨va, vc, rfl, fonh_more h2 h3 h4 h5 k1 k2 k3 v2 _ q1 q2⟩

theorem fh_down {m : Nat} (h : FOnH W w p f P) (hz : Fz f m) (hm : m ≤ 10000) (s : ByteArray) (hs : s.size ≤ maxLen) (l : List UInt8) (r : Nat) (f' : FR) (he : f.gets s.data.toList 0 1048576 = ((l, r), f')) :
    Calls Tryz.prog 19 #[.pointer (some ⟨p, 0, none⟩), .string s] w fun e w' => ∃ va vc, e = .returned (.tuple #[.slice va l.length vc, .int .i64 (r : Int)]) ∧ FOnH W w' p f' fun w => P w ∧ RdB w (.slice va l.length vc) l := by
  obtain ⟨G, S, h1, h2, h3, h4, h5⟩ := h
  have hm := down_at h1 hz (by omega) s hs
  rw [he] at hm
  refine hm.mono ?_
  rintro e w' ⟨va, vc, G', rfl, k1, k2, k3, k4, k5, _⟩
  obtain ⟨v2, q1, q2⟩ := held_row (G' := G') k4 fun k e => (k5 k e).2
  exact ⟨va, vc, rfl, fonh_more h2 h3 h4 h5 k1 k2 k3 v2 _ q1 q2⟩

theorem fh_names {m : Nat} (h : FOnH W w p f P) (hz : Fz f m) (hm : m ≤ 10000) (l : List (List UInt8)) (r : Nat) (f' : FR) (he : f.lists = ((l, r), f')) :
    Calls Tryz.prog 23 #[.pointer (some ⟨p, 0, none⟩)] w fun e w' => ∃ va vc, e = .returned (.tuple #[.slice va l.length vc, .int .i64 (r : Int)]) ∧ FOnH W w' p f' fun w => P w ∧ RdN w (.slice va l.length vc) l := by
  obtain ⟨G, S, h1, h2, h3, h4, h5⟩ := h
  have hm := names_at h1 hz (by omega)
  rw [he] at hm
  refine hm.mono ?_
  rintro e w' ⟨va, vc, G', rfl, k1, k2, k3, k4, k5, _⟩
  obtain ⟨v2, q1, q2⟩ := held_row (G' := G') k4 fun k e => (k5 k e).2
  exact ⟨va, vc, rfl, fonh_more h2 h3 h4 h5 k1 k2 k3 v2 _ q1 q2⟩

theorem fh_objs (h : FOnH W w p f P) (ho : f.objs.length < 1000000) (hn : NmS f.objs) (n : Nat) (hl : f.objs.length = n) :
    Calls Tryz.prog 8 #[.pointer (some ⟨p, 0, none⟩)] w fun e w' => ∃ va vc, e = .returned (.slice va n vc) ∧ Rd w' 3 (.slice va n vc) n (fileCells f.objs) ∧ FOnH W w' p f P := by
  obtain ⟨G, S, h1, h2, h3, h4, h5⟩ := h
  refine (farObjs_at h1 ho hn).mono ?_
  rintro e w' ⟨v, rfl, k1, k2⟩
  have k3 := rd_of_own k1
  obtain ⟨va, vc, rfl, _, _⟩ := rd_of_own k1
  rw [hl] at k3 ⊢
  exact ⟨va, vc, rfl, k3, FOnH.below ⟨G, S, h1, h2, h3, h4, h5⟩ k2⟩

theorem fh_calls (h : FOnH W w p f P) (n : Nat) (hn : f.calls = n) : Calls Tryz.prog 10 #[.pointer (some ⟨p, 0, none⟩)] w fun e w' => e = .returned (.int .i64 (n : Int)) ∧ w = w' := by
  obtain ⟨G, S, ⟨⟨mv, lv, h1, _⟩, _⟩, _⟩ := h
  rw [← hn]
  exact farCalls_any w p _ (blk_cell h1)

theorem fh_left (h : FOnH W w p f P) (n : Nat) (hn : f.left.length = n) : Calls Tryz.prog 12 #[.pointer (some ⟨p, 0, none⟩)] w fun e w' => e = .returned (.int .i64 (n : Int)) ∧ w = w' := by
  obtain ⟨G, S, ⟨⟨mv, lv, h1, _, h3, _⟩, _⟩, _⟩ := h
  obtain ⟨a, cap, rfl, _, _⟩ := h3.form
  rw [hn] at h1
  exact farLeft_any w p a n cap (blk_cell h1)
end

/-! ### The document's example. -/

theorem rd_row (w : World) (l : List Int) (hl : l.length ≤ maxLen) : Rd (w.alloc (.cells (l.map (Value.int .i64)).toArray 3)) 1 (.slice (some ⟨w.heap.size, 0, none⟩) l.length l.length) l.length (l.map (Value.int .i64)) :=
  ⟨_, _, rfl, Nat.le_refl _, hl, by simp, .inr ⟨w.heap.size, 0, rfl, by simp, fun j u hj => by rw [Nat.zero_add, blk_cell (heap_alloc_new w _)]; simpa using hj⟩⟩

theorem aw6_up : (⟨[], [2, 2, 2], 0⟩ : FR).up [97] [120] = (0, ⟨[([97], [120])], [], 5⟩) := by kernel_rfl

theorem aw6_next {W w : World} {p : Nat} {P : World → Prop} (h : FOnH W w p FR.new P) : Calls Tryz.prog 14 #[.pointer (some ⟨p, 0, none⟩), .slice (some ⟨w.heap.size, 0, none⟩) 3 3] (w.alloc (.cells #[.int .i64 2, .int .i64 2, .int .i64 2] 3)) fun e w' => e = .returned (.tuple #[]) ∧ FOnH W w' p ⟨[], [2, 2, 2], 0⟩ P :=
  fh_next (h.below ((Below.refl _ _).alloc (Nat.le_refl _) _)) _ [2, 2, 2] (rd_row w [2, 2, 2] (by decide)) (by decide)

set_option maxRecDepth 100000 in
set_option maxHeartbeats 4000000 in
set_option linter.unusedSimpArgs false in
theorem awake6_any (w : World) : Calls Tryz.prog 4 #[] w fun e w' => e = .returned (.bool true) ∧ Below w.heap.size w w' := by
  have HN := Lib.hid (fon_new w w (Below.refl _ _))
  have HU := Lib.hid (fun (w2 : World) (p : Nat) (h : FOnH w w2 p ⟨[], [2, 2, 2], 0⟩ fun _ => True) => fh_up h (w2 := w2.alloc (.cells #[.int .u8 120] 5 (1, 2))) ((Below.refl _ _).alloc (Nat.le_refl _) _) (m := 10) ⟨by simp, by simp⟩ (by decide) ⟨#[97]⟩ (by decide) _ [120] (rd_x w2) (by decide) (fun _ k e => by cases e; exact .inr (Nat.le_refl _)) 0 _ aw6_up)
  have HO := Lib.hid (fun (w2 : World) (p : Nat) (h : FOnH w w2 p ⟨[([97], [120])], [], 5⟩ fun _ => True) => fh_objs h (by simp) (fun x hx => by simp at hx; subst hx; simp) 1 rfl)
  have hq : ∀ (w : World) (a : Addr), (binOp .eql 24 (.pointer (some a)) (.pointer none)).run Tryz.prog w = .ok (.bool false) w := fun w a => by kernel_rfl
  have hcv := fun (w : World) (C : Array Value) (n c : Nat) => Lib.run_convert_bytes_const (P := Tryz.prog) w 31 5 C n c Tryz.underlying31 Tryz.underlying5
  go_enter Tryz.func4, Tryz.ntmps4
  go_wp2_with (first | (go_at_call 5; (with_reducible refine HN.out.mono ?_); rintro e w1 ⟨p, rfl, h1⟩; have H1 := Lib.hid h1.h; clear h1) | (go_at_call 14; (with_reducible refine (aw6_next H1.out).mono ?_); rintro e w2 ⟨rfl, h2⟩; have H2 := Lib.hid h2; clear h2) | (go_at_call 16; (with_reducible refine (HU.out _ _ H2.out).mono ?_); rintro e w3 ⟨rfl, h3⟩; have H3 := Lib.hid h3; clear h3) | (go_at_call 15; (with_reducible refine (num1_any _ _).mono ?_); rintro e w4 ⟨rfl, rfl⟩) | (go_at_call 8; (with_reducible refine (HO.out _ _ H3.out).mono ?_); rintro e w5 ⟨va, vc, rfl, _, h5⟩; have H5 := Lib.hid h5; clear h5))
  go_ret
  exact ⟨rfl, H5.out.be⟩

end Go.Proofs.YtljjgpjaleekdaaGreatDoor
