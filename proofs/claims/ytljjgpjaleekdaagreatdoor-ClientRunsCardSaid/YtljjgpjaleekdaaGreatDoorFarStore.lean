/-
  A far store of a statement's own: what the calls do, told of the world that the statement began in; the document's example.
-/
import Derived.Test.YtljjgpjaleekdaaGreatDoorFarNext
import Derived.Test.YtljjgpjaleekdaaGreatDoorNum1
import Derived.Lib.SlBytesConst
namespace Go.Proofs.YtljjgpjaleekdaaGreatDoor
open Go.RowKit

/-- The far store 'f' lies behind all that 'W' has, and what 'W' has is as it was. -/
def FOn (W w : World) (p : Nat) (f : FR) : Prop := ∃ G, FarAt G w p f ∧ Below W.heap.size W w ∧ ∀ k, G k → W.heap.size ≤ k

structure FSm (f : FR) : Prop where
  objs : f.objs.length < 100000
  calls : f.calls < 100000
  names : NmS f.objs
  left : f.left.length < 1000000

theorem FOn.below {W w : World} {p : Nat} {f : FR} (h : FOn W w p f) : Below W.heap.size W w := by obtain ⟨g, _, h2, _⟩ := h; exact h2

theorem FOn.on {W w w' : World} {p : Nat} {f : FR} (h : FOn W w p f) (hb : Below w.heap.size w w') : FOn W w' p f := by
  obtain ⟨G, h1, h2, h3⟩ := h
  exact ⟨G, h1.below hb, h2.trans (hb.mono h2.size), h3⟩

theorem fon_to {W w w' : World} {p : Nat} {f' : FR} {G : Nat → Prop} (hb : Below W.heap.size W w) (hG : ∀ k, G k → W.heap.size ≤ k) (h : FarTo G w w' p f') : FOn W w' p f' := by
  obtain ⟨G', h1, h2, h3⟩ := h
  refine ⟨G', h1, hb.trans (Touch.below h2 hG hb.size), fun k hk => ?_⟩
  rcases h3 k hk with h | h
  · exact hG k h
  · have := hb.size; omega

theorem fon_new (W w : World) (hb : Below W.heap.size W w) : Calls Tryz.prog 5 #[] w fun e w' => ∃ p, e = .returned (.pointer (some ⟨p, 0, none⟩)) ∧ FOn W w' p FR.new := by
  refine (farNew_any w).mono ?_
  rintro e w' ⟨p, rfl, hp, h1, h2⟩
  exact ⟨p, rfl, _, h1, hb.trans (h2.mono hb.size), fun k hk => by subst hk; exact Nat.le_trans hb.size hp⟩

theorem fon_next {W w w2 : World} {p : Nat} {f : FR} (h : FOn W w p f) (hb : Below w.heap.size w w2) (v : Value) (l : List Int) (hv : Rd w2 1 v l.length (l.map (Value.int .i64))) (hl : l.length < 1000000) :
    Calls Tryz.prog 14 #[.pointer (some ⟨p, 0, none⟩), v] w2 fun e w' => e = .returned (.tuple #[]) ∧ FOn W w' p (f.next l) := by
  obtain ⟨G, h1, h2, h3⟩ := h.on hb
  refine (farNext_at h1 v l hv (by omega)).mono ?_
  rintro e w' ⟨rfl, k1⟩
  exact ⟨rfl, fon_to h2 h3 k1⟩

theorem fon_put {W w w2 : World} {p : Nat} {f : FR} (h : FOn W w p f) (hb : Below w.heap.size w w2) (hs : FSm f) (s : ByteArray) (hsz : s.size ≤ maxLen) (v : Value) (b : List UInt8) (hv : RdB w2 v b) (hbl : b.length ≤ maxLen) (ov : b ≠ [] → ∀ k, v.ownBlock = some k → k < W.heap.size ∨ w.heap.size ≤ k) (r : Nat) (f' : FR) (he : f.put s.data.toList b = (r, f')) :
    Calls Tryz.prog 28 #[.pointer (some ⟨p, 0, none⟩), .string s, v] w2 fun e w' => e = .returned (.int .i64 (r : Int)) ∧ FOn W w' p f' := by
  obtain ⟨G, g1, g2, g3⟩ := h
  have h1 := g1.below hb
  have h2 := g2.trans (hb.mono g2.size)
  have hm := farPut_at h1 (by have := hs.objs; omega) (by have := hs.calls; omega) s hsz v b hv hbl fun hne k e hG => by
    rcases ov hne k e with h | h
    · have := g3 k hG; omega
    · have := g1.lt k hG; omega
  rw [he] at hm
  refine hm.mono ?_
  rintro e w' ⟨rfl, k1⟩
  exact ⟨rfl, fon_to h2 g3 k1⟩

theorem fon_drop {W w : World} {p : Nat} {f : FR} (h : FOn W w p f) (hs : FSm f) (s : ByteArray) (hsz : s.size ≤ maxLen) (r : Nat) (f' : FR) (he : f.drop s.data.toList = (r, f')) :
    Calls Tryz.prog 42 #[.pointer (some ⟨p, 0, none⟩), .string s] w fun e w' => e = .returned (.int .i64 (r : Int)) ∧ FOn W w' p f' := by
  obtain ⟨G, h1, h2, h3⟩ := h
  have hm := farDrop_at h1 (by have := hs.calls; omega) s hsz
  rw [he] at hm
  refine hm.mono ?_
  rintro e w' ⟨rfl, k1⟩
  exact ⟨rfl, fon_to h2 h3 k1⟩

/-- .. and the bytes 'l', that were told, can be read. -/
def FOnR (W w : World) (p : Nat) (f : FR) (v : Value) (l : List UInt8) : Prop := ∃ G, FarAt G w p f ∧ Below W.heap.size W w ∧ (∀ k, G k → W.heap.size ≤ k) ∧ RdB w v l ∧ (l ≠ [] → ∀ k, v.ownBlock = some k → ¬ G k)

theorem FOnR.on {W w : World} {p : Nat} {f : FR} {v : Value} {l : List UInt8} (h : FOnR W w p f v l) : FOn W w p f := by
  obtain ⟨G, h1, h2, h3, _⟩ := h
  exact ⟨G, h1, h2, h3⟩

theorem rd_touch {G : Nat → Prop} {w w' : World} {v : Value} {l : List UInt8} (h : RdB w v l) (ht : Touch G w w') (hG : l ≠ [] → ∀ k, v.ownBlock = some k → ¬ G k) : RdB w' v l :=
  rdB_kept h ht fun hne k e hk => ⟨hk, hG hne k e⟩

theorem fonr_to {W w w' : World} {p : Nat} {f' : FR} {G : Nat → Prop} {v : Value} {l : List UInt8} (hb : Below W.heap.size W w) (hG : ∀ k, G k → W.heap.size ≤ k) (hr : RdB w v l) (hv : l ≠ [] → ∀ k, v.ownBlock = some k → ¬ G k) (h : FarTo G w w' p f') : FOnR W w' p f' v l := by
  obtain ⟨G', h1, h2, h3⟩ := h
  refine ⟨G', h1, hb.trans (Touch.below h2 hG hb.size), fun k hk => ?_, rd_touch hr h2 hv, fun hne k e hk => ?_⟩
  · rcases h3 k hk with h | h
    · exact hG k h
    · have := hb.size; omega
  · rcases h3 k hk with h | h
    · exact hv hne k e h
    · have := hr.blk_lt hne k e; omega

theorem fon_get {W w : World} {p : Nat} {f : FR} (h : FOn W w p f) (hs : FSm f) (s : ByteArray) (hsz : s.size ≤ maxLen) (a n : Int) (r : Nat) (l : List UInt8) (he : f.get s.data.toList a n = (l, r)) :
    Calls Tryz.prog 36 #[.pointer (some ⟨p, 0, none⟩), .string s, .int .i64 a, .int .i64 n] w fun e w' => ∃ va vc, e = .returned (.tuple #[.slice va l.length vc, .int .i64 (r : Int)]) ∧ FOnR W w' p f.took (.slice va l.length vc) l := by
  obtain ⟨G, h1, h2, h3⟩ := h
  have hm := farGet_at h1 (by have := hs.calls; omega) s hsz a n
  rw [he] at hm
  refine hm.mono ?_
  rintro e w' ⟨v, rfl, k1, k2, k3, k4⟩
  obtain ⟨va, vc, rfl, _, _⟩ := RdB.form k3
  exact ⟨va, vc, rfl, G, k1, h2.trans (Touch.below k2 h3 h2.size), h3, k3, fun _ k e hG => by have := k4 k e; have := h1.lt k hG; omega⟩

/-- A Get while other bytes are held. -/
theorem fonr_get {W w : World} {p : Nat} {f : FR} {vh : Value} {lh : List UInt8} (h : FOnR W w p f vh lh) (hs : FSm f) (s : ByteArray) (hsz : s.size ≤ maxLen) (a n : Int) (r : Nat) (l : List UInt8) (he : f.get s.data.toList a n = (l, r)) :
    Calls Tryz.prog 36 #[.pointer (some ⟨p, 0, none⟩), .string s, .int .i64 a, .int .i64 n] w fun e w' => ∃ va vc, e = .returned (.tuple #[.slice va l.length vc, .int .i64 (r : Int)]) ∧ FOnR W w' p f.took vh lh := by
  obtain ⟨G, h1, h2, h3, hr, hv⟩ := h
  have hm := farGet_at h1 (by have := hs.calls; omega) s hsz a n
  rw [he] at hm
  refine hm.mono ?_
  rintro e w' ⟨v, rfl, k1, k2, k3, k4⟩
  obtain ⟨va, vc, rfl, _, _⟩ := RdB.form k3
  exact ⟨va, vc, rfl, fonr_to h2 h3 hr hv ⟨G, k1, k2, Grows.refl _ _ _⟩⟩

theorem fonr_drop {W w : World} {p : Nat} {f : FR} {vh : Value} {lh : List UInt8} (h : FOnR W w p f vh lh) (hs : FSm f) (s : ByteArray) (hsz : s.size ≤ maxLen) (r : Nat) (f' : FR) (he : f.drop s.data.toList = (r, f')) :
    Calls Tryz.prog 42 #[.pointer (some ⟨p, 0, none⟩), .string s] w fun e w' => e = .returned (.int .i64 (r : Int)) ∧ FOnR W w' p f' vh lh := by
  obtain ⟨G, h1, h2, h3, hr, hv⟩ := h
  have hm := farDrop_at h1 (by have := hs.calls; omega) s hsz
  rw [he] at hm
  refine hm.mono ?_
  rintro e w' ⟨rfl, k1⟩
  exact ⟨rfl, fonr_to h2 h3 hr hv k1⟩

theorem fon_objs {W w : World} {p : Nat} {f : FR} (h : FOn W w p f) (hs : FSm f) (n : Nat) (hn : f.objs.length = n) :
    Calls Tryz.prog 8 #[.pointer (some ⟨p, 0, none⟩)] w fun e w' => ∃ va vc, e = .returned (.slice va n vc) ∧ FOn W w' p f := by
  obtain ⟨G, h1, h2, h3⟩ := h
  refine (farObjs_at h1 (by have := hs.objs; omega) hs.names).mono ?_
  rintro e w' ⟨v, rfl, k1, k2⟩
  obtain ⟨va, vc, rfl, _, _⟩ := rd_of_own k1
  rw [hn]
  exact ⟨va, vc, rfl, G, h1.below k2, h2.trans (k2.mono h2.size), h3⟩

theorem fon_left {W w : World} {p : Nat} {f : FR} (h : FOn W w p f) (n : Nat) (hn : f.left.length = n) :
    Calls Tryz.prog 12 #[.pointer (some ⟨p, 0, none⟩)] w fun e w' => e = .returned (.int .i64 (n : Int)) ∧ w = w' := by
  obtain ⟨G, ⟨⟨mv, lv, h1, _, h3, _⟩, _⟩, _⟩ := h
  obtain ⟨a, cap, rfl, _, _⟩ := h3.form
  rw [hn] at h1
  exact farLeft_any w p a n cap (blk_cell h1)

/-! ### The document's example. -/

theorem fsm_new (l : List Int) (hl : l.length < 1000000) : FSm ⟨[], l, 0⟩ := ⟨by simp, by simp, fun x hx => (nomatch hx), hl⟩

theorem rd_lies (w : World) : Rd (w.alloc (.cells #[.int .i64 2] 3)) 1 (.slice (some ⟨w.heap.size, 0, none⟩) 1 1) [(2 : Int)].length ([(2 : Int)].map (Value.int .i64)) :=
  ⟨_, 1, rfl, Nat.le_refl _, by unfold maxLen; omega, rfl, .inr ⟨w.heap.size, 0, rfl, by simp, fun j u hj => by rw [Nat.zero_add, blk_cell (heap_alloc_new w _)]; simpa using hj⟩⟩

theorem rd_x (w : World) : RdB (w.alloc (.cells #[.int .u8 120] 5 (1, 2))) (.slice (some ⟨w.heap.size, 0, none⟩) 1 1) [120] :=
  ⟨_, 1, rfl, Nat.le_refl _, by unfold maxLen; omega, rfl, .inr ⟨w.heap.size, 0, rfl, by simp, fun j u hj => by rw [Nat.zero_add, World.cell?_alloc_mark]; simpa [bv] using hj⟩⟩

theorem aw_put : (⟨[], [2], 0⟩ : FR).put [97] [120] = (8, ⟨[([97], [120])], [], 1⟩) := by kernel_rfl

theorem aw_next {W w : World} {p : Nat} (h : FOn W w p FR.new) : Calls Tryz.prog 14 #[.pointer (some ⟨p, 0, none⟩), .slice (some ⟨w.heap.size, 0, none⟩) 1 1] (w.alloc (.cells #[.int .i64 2] 3)) fun e w' => e = .returned (.tuple #[]) ∧ FOn W w' p ⟨[], [2], 0⟩ :=
  fon_next h ((Below.refl _ _).alloc (Nat.le_refl _) _) _ [2] (rd_lies w) (by decide)

theorem aw_put1 {W w : World} {p : Nat} (h : FOn W w p ⟨[], [2], 0⟩) : Calls Tryz.prog 28 #[.pointer (some ⟨p, 0, none⟩), .string ⟨#[97]⟩, .slice (some ⟨w.heap.size, 0, none⟩) 1 1] (w.alloc (.cells #[.int .u8 120] 5 (1, 2))) fun e w' => e = .returned (.int .i64 8) ∧ FOn W w' p ⟨[([97], [120])], [], 1⟩ :=
  fon_put h ((Below.refl _ _).alloc (Nat.le_refl _) _) (fsm_new [2] (by decide)) ⟨#[97]⟩ (by decide) _ [120] (rd_x w) (by decide) (fun _ k e => by cases e; exact .inr (Nat.le_refl _)) 8 _ aw_put

theorem fsm_aw : FSm ⟨[([97], [120])], [], 1⟩ := ⟨by simp, by simp, fun x hx => by simp at hx; subst hx; simp, by simp⟩

end Go.Proofs.YtljjgpjaleekdaaGreatDoor
