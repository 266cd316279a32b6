/-
  The program's client and the document's, side by side.
-/
import Derived.Test.YtljjgpjaleekdaaGreatDoorClientRef
import Derived.Test.YtljjgpjaleekdaaGreatDoorClientOn
namespace Go.Proofs.YtljjgpjaleekdaaGreatDoor
open Go.RowKit

theorem BoN.drew {W w : World} {p q : Nat} {f g : FR} {n : Nat} {o : Obj} (h : BoN W w p q f g n o) : BoN W w.drew p q f g n o := by
  obtain ⟨G, H, hc, hb, hg, hh⟩ := h
  exact ⟨G, H, hc.below ((Kept.refl (fun k => k < w.heap.size) w).drew.below fun _ h => h), hb, hg, hh⟩

theorem RSm.fz {f : FR} {k : Nat} (h : RSm f k) : Fz f k := ⟨h.objs, h.calls⟩

theorem rd_touch_any {H : Nat → Prop} {w w' : World} {sz n : Nat} {v : Value} {cs : List Value} (h : Rd w sz v n cs) (ht : Touch H w w') (ho : ∀ k, v.ownBlock = some k → ¬ H k) : Rd w' sz v n cs := by
  by_cases h0 : n = 0
  · subst h0
    obtain ⟨a, cap, rfl, h1, h2, h3, h4⟩ := h
    refine ⟨a, cap, rfl, h1, h2, h3, ?_⟩
    rcases h4 with ⟨h5, h6⟩ | ⟨b, off, rfl, h5, h6⟩
    · exact .inl ⟨h5, h6⟩
    · exact .inl ⟨rfl, fun h => by cases h⟩
  · exact Rd.kept h ht fun k e => ⟨own_lt h (Nat.pos_of_ne_zero h0) k e, ho k e⟩

section
variable {W w : World} {p q : Nat} {f g : FR} {n : Nat} {o : Obj}

theorem bc_up1 {k : Nat} (h : BoN W w p q f g n o) (hs : RSm f k) (hk : k ≤ 1000) (s : ByteArray) (hsz : s.size ≤ maxLen) (v : Value) (b : List UInt8) (hv : RdB W v b) (hbl : b.length ≤ 300) (r : Nat) (f' : FR) (he : f.up s.data.toList b = (r, f')) :
    Calls Tryz.prog 16 #[.pointer (some ⟨p, 0, none⟩), .string s, v] w fun e w' => e = .returned (.int .i64 (r : Int)) ∧ BoN W w' p q f' g n o := by
  obtain ⟨G, H, hc, hb, hg, hh⟩ := h
  have hm := up_at hc.fa hs.fz (by omega) s hsz v b (hv.below hc.be (Nat.le_refl _)) (by unfold maxLen; omega) fun hne k e hG => by have := hv.blk_lt hne k e; have := hc.gw k hG; omega
  rw [he] at hm
  refine hm.mono ?_
  rintro e w' ⟨rfl, k1, _⟩
  exact ⟨rfl, hc.far_n hb hg hh k1⟩

theorem bc_up2 {k : Nat} (h : BoN W w p q f g n o) (hs : RSm g k) (hk : k ≤ 1000) (s : ByteArray) (hsz : s.size ≤ maxLen) (v : Value) (b : List UInt8) (hv : RdB W v b) (hbl : b.length ≤ 300) (r : Nat) (f' : FR) (he : g.up s.data.toList b = (r, f')) :
    Calls Tryz.prog 18 #[.pointer (some ⟨q, 0, none⟩), .string s, v] w fun e w' => e = .returned (.int .i64 (r : Int)) ∧ BoN W w' p q f f' n o := by
  obtain ⟨G, H, hc, hb, hg, hh⟩ := h
  have hm := rup_at hc.ra hs hk s hsz v b (hv.below hc.be (Nat.le_refl _)) hbl fun hne k e hG => by have := hv.blk_lt hne k e; have := hc.hw k hG; omega
  rw [he] at hm
  refine hm.mono ?_
  rintro e w' ⟨rfl, k1⟩
  exact ⟨rfl, hc.ref_n hb hg hh k1⟩

theorem bc_drop1 {k : Nat} (h : BoN W w p q f g n o) (hs : RSm f k) (hk : k ≤ 1000) (s : ByteArray) (hsz : s.size ≤ maxLen) (r : Nat) (f' : FR) (he : f.cdrop s.data.toList = (r, f')) :
    Calls Tryz.prog 26 #[.pointer (some ⟨p, 0, none⟩), .string s] w fun e w' => e = .returned (.int .i64 (r : Int)) ∧ BoN W w' p q f' g n o := by
  obtain ⟨G, H, hc, hb, hg, hh⟩ := h
  have hm := cdrop_at hc.fa hs.fz (by omega) s hsz
  rw [he] at hm
  refine hm.mono ?_
  rintro e w' ⟨rfl, k1, _⟩
  exact ⟨rfl, hc.far_n hb hg hh k1⟩

theorem bc_drop2 {k : Nat} (h : BoN W w p q f g n o) (hs : RSm g k) (hk : k ≤ 1000) (hsr : Srt g.objs) (s : ByteArray) (r : Nat) (f' : FR) (he : g.cdrop s.data.toList = (r, f')) :
    Calls Tryz.prog 27 #[.pointer (some ⟨q, 0, none⟩), .string s] w fun e w' => e = .returned (.int .i64 (r : Int)) ∧ BoN W w' p q f f' n o := by
  obtain ⟨G, H, hc, hb, hg, hh⟩ := h
  have hm := rcdrop_at hc.ra hs (by omega) hsr s
  rw [he] at hm
  refine hm.mono ?_
  rintro e w' ⟨rfl, k1⟩
  exact ⟨rfl, hc.ref_n hb hg hh k1⟩

theorem bc_told {w' : World} {f' : FR} {G H G' : Nat → Prop} (hc : Co W w p q f g G H) (hb : w.heap[n]? = some o) (hg : ¬ G n) (hh : ¬ H n) (k1 : FarAt G' w' p f') (k2 : Touch G w w') (k3 : Grows G G' w w') (v : Value) (l : List UInt8) (hr : RdB w' v l) (ho : ∀ k, v.ownBlock = some k → w.heap.size ≤ k) : BoB W w' p q f' g n o v l := by
  obtain ⟨G2, c', t, gr⟩ := hc.far ⟨G', k1, k2, k3⟩
  have hl := blk_lt hb
  exact ⟨G2, H, c', (t.block n ⟨hl, hg⟩).trans hb, fun hk => (gr n hk).elim hg (by omega), hh, hr, fun _ k e hH => by have := ho k e; have := hc.ra.lt k hH; omega⟩

theorem bc_piece1 {k : Nat} (h : BoN W w p q f g n o) (hs : RSm f k) (hk : k ≤ 1000) (s : ByteArray) (hsz : s.size ≤ maxLen) (a c : Int) (l : List UInt8) (r : Nat) (f' : FR) (he : f.gets s.data.toList a c = ((l, r), f')) :
    Calls Tryz.prog 21 #[.pointer (some ⟨p, 0, none⟩), .string s, .int .i64 a, .int .i64 c] w fun e w' => ∃ va vc, e = .returned (.tuple #[.slice va l.length vc, .int .i64 (r : Int)]) ∧ BoB W w' p q f' g n o (.slice va l.length vc) l := by
  obtain ⟨G, H, hc, hb, hg, hh⟩ := h
  have hm := piece_at hc.fa hs.fz (by omega) s hsz a c
  rw [he] at hm
  refine hm.mono ?_
  rintro e w' ⟨va, vc, G', rfl, k1, k2, k3, k4, k5, _⟩
  exact ⟨va, vc, rfl, bc_told hc hb hg hh k1 k2 k3 _ _ k4 fun k e => (k5 k e).1⟩

theorem bc_down1 {k : Nat} (h : BoN W w p q f g n o) (hs : RSm f k) (hk : k ≤ 1000) (s : ByteArray) (hsz : s.size ≤ maxLen) (l : List UInt8) (r : Nat) (f' : FR) (he : f.gets s.data.toList 0 1048576 = ((l, r), f')) :
    Calls Tryz.prog 19 #[.pointer (some ⟨p, 0, none⟩), .string s] w fun e w' => ∃ va vc, e = .returned (.tuple #[.slice va l.length vc, .int .i64 (r : Int)]) ∧ BoB W w' p q f' g n o (.slice va l.length vc) l := by
  obtain ⟨G, H, hc, hb, hg, hh⟩ := h
  have hm := down_at hc.fa hs.fz (by omega) s hsz
  rw [he] at hm
  refine hm.mono ?_
  rintro e w' ⟨va, vc, G', rfl, k1, k2, k3, k4, k5, _⟩
  exact ⟨va, vc, rfl, bc_told hc hb hg hh k1 k2 k3 _ _ k4 fun k e => (k5 k e).1⟩

theorem bc_piece2 {k : Nat} {v : Value} {lh : List UInt8} (h : BoB W w p q f g n o v lh) (hs : RSm g k) (hk : k ≤ 1000) (s : ByteArray) (a c : Int) (l : List UInt8) (r : Nat) (f' : FR) (he : g.gets s.data.toList a c = ((l, r), f')) :
    Calls Tryz.prog 22 #[.pointer (some ⟨q, 0, none⟩), .string s, .int .i64 a, .int .i64 c] w fun e w' => ∃ va vc, e = .returned (.tuple #[.slice va l.length vc, .int .i64 (r : Int)]) ∧ BoN W w' p q f f' n o ∧ RdB w' v lh ∧ RdB w' (.slice va l.length vc) l := by
  obtain ⟨G, H, hc, hb, hg, hh, hr, hv⟩ := h
  have hm := rpiece_at hc.ra hs (by omega) s a c
  rw [he] at hm
  refine hm.mono ?_
  rintro e w' ⟨va, vc, rfl, k1, k3⟩
  refine ⟨va, vc, rfl, hc.ref_n hb hg hh k1, ?_, k3⟩
  obtain ⟨_, _, t, _⟩ := k1
  exact rd_touch hr t hv

theorem bc_down2 {k : Nat} {v : Value} {lh : List UInt8} (h : BoB W w p q f g n o v lh) (hs : RSm g k) (hk : k ≤ 1000) (s : ByteArray) (l : List UInt8) (r : Nat) (f' : FR) (he : g.gets s.data.toList 0 1048576 = ((l, r), f')) :
    Calls Tryz.prog 20 #[.pointer (some ⟨q, 0, none⟩), .string s] w fun e w' => ∃ va vc, e = .returned (.tuple #[.slice va l.length vc, .int .i64 (r : Int)]) ∧ BoN W w' p q f f' n o ∧ RdB w' v lh ∧ RdB w' (.slice va l.length vc) l := by
  obtain ⟨G, H, hc, hb, hg, hh, hr, hv⟩ := h
  have hm := rdown_at hc.ra hs (by omega) s
  rw [he] at hm
  refine hm.mono ?_
  rintro e w' ⟨va, vc, rfl, k1, k3⟩
  refine ⟨va, vc, rfl, hc.ref_n hb hg hh k1, ?_, k3⟩
  obtain ⟨_, _, t, _⟩ := k1
  exact rd_touch hr t hv

/-- .. and names that were told. -/
def BoM (W w : World) (p q : Nat) (f g : FR) (n : Nat) (o : Obj) (v : Value) (l : List (List UInt8)) : Prop := ∃ G H, Co W w p q f g G H ∧ w.heap[n]? = some o ∧ ¬ G n ∧ ¬ H n ∧ Rd w 1 v l.length (l.map fun n => .string (strB n)) ∧ ∀ k, v.ownBlock = some k → ¬ H k

theorem bc_names1 {k : Nat} (h : BoN W w p q f g n o) (hs : RSm f k) (hk : k ≤ 1000) (l : List (List UInt8)) (r : Nat) (f' : FR) (he : f.lists = ((l, r), f')) :
    Calls Tryz.prog 23 #[.pointer (some ⟨p, 0, none⟩)] w fun e w' => ∃ va vc, e = .returned (.tuple #[.slice va l.length vc, .int .i64 (r : Int)]) ∧ BoM W w' p q f' g n o (.slice va l.length vc) l := by
  obtain ⟨G, H, hc, hb, hg, hh⟩ := h
  have hm := names_at hc.fa hs.fz (by omega)
  rw [he] at hm
  refine hm.mono ?_
  rintro e w' ⟨va, vc, G', rfl, k1, k2, k3, k4, k5, _⟩
  obtain ⟨G2, c', t, gr⟩ := hc.far ⟨G', k1, k2, k3⟩
  have hl := blk_lt hb
  exact ⟨va, vc, rfl, G2, H, c', (t.block n ⟨hl, hg⟩).trans hb, fun hk => (gr n hk).elim hg (by omega), hh, k4, fun k e hH => by have := (k5 k e).1; have := hc.ra.lt k hH; omega⟩

theorem bc_names2 {k : Nat} {v : Value} {lh : List (List UInt8)} (h : BoM W w p q f g n o v lh) (hs : RSm g k) (hk : k ≤ 1000) (l : List (List UInt8)) (r : Nat) (f' : FR) (he : g.lists = ((l, r), f')) :
    Calls Tryz.prog 24 #[.pointer (some ⟨q, 0, none⟩)] w fun e w' => ∃ va vc, e = .returned (.tuple #[.slice va l.length vc, .int .i64 (r : Int)]) ∧ BoN W w' p q f f' n o ∧ Rd w' 1 v lh.length (lh.map fun n => .string (strB n)) ∧ Rd w' 1 (.slice va l.length vc) l.length (l.map fun n => .string (strB n)) := by
  obtain ⟨G, H, hc, hb, hg, hh, hr, hv⟩ := h
  have hm := rnames_at hc.ra hs (by omega)
  rw [he] at hm
  refine hm.mono ?_
  rintro e w' ⟨va, vc, rfl, k1, k3⟩
  refine ⟨va, vc, rfl, hc.ref_n hb hg hh k1, ?_, k3⟩
  obtain ⟨_, _, t, _⟩ := k1
  exact rd_touch_any hr t hv
end

theorem lists_len {f : FR} {k : Nat} (h : RSm f k) {l : List (List UInt8)} {r : Nat} {f' : FR} (he : f.lists = ((l, r), f')) : l.length ≤ k + 4 := by
  have key : ∀ (m : Nat) (f : FR) (k : Nat), RSm f k → (FR.tries2 FR.list [] m f).1.1.length ≤ k + m := by
    intro m
    induction m with
    | zero => intro f k _; simp [FR.tries2]
    | succ m ih =>
      intro f k h
      unfold FR.tries2
      split
      · have := ih f.took (k + 1) h.took; omega
      · dsimp only
        unfold FR.list
        dsimp only
        split
        · rw [List.length_map]; have := h.objs; omega
        · simp
  have := key 4 f k h
  rw [show FR.tries2 FR.list [] 4 f = f.lists from rfl, he] at this
  exact this
end Go.Proofs.YtljjgpjaleekdaaGreatDoor
