/-
  A far store of the program's and one of the document's, side by side.
-/
import Derived.Test.YtljjgpjaleekdaaGreatDoorFarPlain
import Derived.Test.YtljjgpjaleekdaaGreatDoorRefTexts
namespace Go.Proofs.YtljjgpjaleekdaaGreatDoor
open Go.RowKit

structure Co (W w : World) (p q : Nat) (f g : FR) (G H : Nat → Prop) : Prop where
  fa : FarAt G w p f
  ra : RefAt H w q g
  ap : ∀ k, G k → ¬ H k
  gw : ∀ k, G k → W.heap.size ≤ k
  hw : ∀ k, H k → W.heap.size ≤ k
  be : Below W.heap.size W w

theorem Co.far {W w w' : World} {p q : Nat} {f f' g : FR} {G H : Nat → Prop} (h : Co W w p q f g G H) (t : FarTo G w w' p f') : ∃ G', Co W w' p q f' g G' H ∧ Touch G w w' ∧ Grows G G' w w' := by
  obtain ⟨G', h1, h2, h3⟩ := t
  refine ⟨G', ⟨h1, h.ra.kept (R := H) (Touch.kept h2 fun k hk => ⟨h.ra.lt k hk, fun g => h.ap k g hk⟩) fun _ h => h, ?_, ?_, h.hw, h.be.trans (Touch.below h2 h.gw h.be.size)⟩, h2, h3⟩
  · intro k hk hH
    rcases h3 k hk with e | e
    · exact h.ap k e hH
    · have := h.ra.lt k hH; omega
  · intro k hk
    rcases h3 k hk with e | e
    · exact h.gw k e
    · have := h.be.size; omega

theorem Co.ref {W w w' : World} {p q : Nat} {f g g' : FR} {G H : Nat → Prop} (h : Co W w p q f g G H) (t : RefTo H w w' q g') : ∃ H', Co W w' p q f g' G H' ∧ Touch H w w' ∧ Grows H H' w w' := by
  obtain ⟨H', h1, h2, h3⟩ := t
  refine ⟨H', ⟨h.fa.kept (R := G) (Touch.kept h2 fun k hk => ⟨h.fa.lt k hk, fun g => h.ap k hk g⟩) fun _ h => h, h1, ?_, h.gw, ?_, h.be.trans (Touch.below h2 h.hw h.be.size)⟩, h2, h3⟩
  · intro k hG hk
    rcases h3 k hk with e | e
    · exact h.ap k hG e
    · have := h.fa.lt k hG; omega
  · intro k hk
    rcases h3 k hk with e | e
    · exact h.hw k e
    · have := h.be.size; omega

theorem Co.below {W w w' : World} {p q : Nat} {f g : FR} {G H : Nat → Prop} (h : Co W w p q f g G H) (hb : Below w.heap.size w w') : Co W w' p q f g G H :=
  ⟨h.fa.below hb, h.ra.below hb, h.ap, h.gw, h.hw, h.be.trans (hb.mono h.be.size)⟩

/-- .. and a block beside them. -/
def BoN (W w : World) (p q : Nat) (f g : FR) (n : Nat) (o : Obj) : Prop := ∃ G H, Co W w p q f g G H ∧ w.heap[n]? = some o ∧ ¬ G n ∧ ¬ H n
/-- Both. -/
def Bo (W w : World) (p q : Nat) (f g : FR) : Prop := ∃ G H, Co W w p q f g G H

theorem BoN.bo {W w : World} {p q : Nat} {f g : FR} {n : Nat} {o : Obj} (h : BoN W w p q f g n o) : Bo W w p q f g := by
  obtain ⟨G, H, h, _⟩ := h
  exact ⟨G, H, h⟩
theorem Bo.be {W w : World} {p q : Nat} {f g : FR} (h : Bo W w p q f g) : Below W.heap.size W w := by
  obtain ⟨G, H, h⟩ := h
  exact h.be
theorem Bo.below {W w w' : World} {p q : Nat} {f g : FR} (h : Bo W w p q f g) (hb : Below w.heap.size w w') : Bo W w' p q f g := by
  obtain ⟨G, H, h⟩ := h
  exact ⟨G, H, h.below hb⟩
theorem Bo.alloc {W w : World} {p q : Nat} {f g : FR} (h : Bo W w p q f g) (o : Obj) (hw : (w.alloc o).heap[w.heap.size]? = some o) : BoN W (w.alloc o) p q f g w.heap.size o := by
  obtain ⟨G, H, h⟩ := h
  exact ⟨G, H, h.below ((Below.refl _ _).alloc (Nat.le_refl _) _), hw, fun hk => Nat.lt_irrefl _ (h.fa.lt _ hk), fun hk => Nat.lt_irrefl _ (h.ra.lt _ hk)⟩
theorem BoN.box {W w : World} {p q : Nat} {f g : FR} {n : Nat} {o : Obj} (h : BoN W w p q f g n o) : w.heap[n]? = some o := by
  obtain ⟨G, H, _, h, _⟩ := h
  exact h
theorem BoN.srt {W w : World} {p q : Nat} {f g : FR} {n : Nat} {o : Obj} (h : BoN W w p q f g n o) : Srt f.objs := by
  obtain ⟨G, H, h, _⟩ := h
  obtain ⟨⟨mv, lv, _, h2, _⟩, _⟩ := h.fa
  exact h2.srt

theorem Co.far_n {W w w' : World} {p q : Nat} {f f' g : FR} {G H : Nat → Prop} {n : Nat} {o : Obj} (h : Co W w p q f g G H) (hb : w.heap[n]? = some o) (hg : ¬ G n) (hh : ¬ H n) (t : FarTo G w w' p f') : BoN W w' p q f' g n o := by
  obtain ⟨G', c, t, gr⟩ := h.far t
  have hl := blk_lt hb
  refine ⟨G', H, c, (t.block n ⟨hl, hg⟩).trans hb, fun hk => ?_, hh⟩
  rcases gr n hk with e | e
  · exact hg e
  · omega
theorem Co.ref_n {W w w' : World} {p q : Nat} {f g g' : FR} {G H : Nat → Prop} {n : Nat} {o : Obj} (h : Co W w p q f g G H) (hb : w.heap[n]? = some o) (hg : ¬ G n) (hh : ¬ H n) (t : RefTo H w w' q g') : BoN W w' p q f g' n o := by
  obtain ⟨H', c, t, gr⟩ := h.ref t
  have hl := blk_lt hb
  refine ⟨G, H', c, (t.block n ⟨hl, hh⟩).trans hb, hg, fun hk => ?_⟩
  rcases gr n hk with e | e
  · exact hh e
  · omega

structure RSm (f : FR) (k : Nat) : Prop where
  objs : f.objs.length ≤ k
  calls : f.calls ≤ k
  names : NmS f.objs
  left : f.left.length ≤ 100
  data : ∀ x ∈ f.objs, x.2.length ≤ 300

theorem nput_len {β : Type} : ∀ (l : List (List UInt8 × β)) (n : List UInt8) (b : β), (nput l n b).length = l.length + 1
  | [], _, _ => rfl
  | x :: r, n, b => by
    unfold nput
    split
    · rfl
    · simp [nput_len r n b]
theorem nput_mem {β : Type} {x : List UInt8 × β} : ∀ {l : List (List UInt8 × β)} {n : List UInt8} {b : β}, x ∈ nput l n b → x = (n, b) ∨ x ∈ l
  | [], n, b, h => by simp [nput] at h; exact .inl h
  | y :: r, n, b, h => by
    unfold nput at h
    split at h
    · simpa using h
    · rcases List.mem_cons.1 h with h | h
      · exact .inr (by simp [h])
      · rcases nput_mem h with h | h
        · exact .inl h
        · exact .inr (by simp [h])

theorem RSm.next {f : FR} {k : Nat} (h : RSm f k) (l : List Int) (hl : l.length ≤ 100) : RSm (f.next l) (k + 1) := ⟨Nat.le_succ_of_le h.objs, Nat.le_succ_of_le h.calls, h.names, hl, h.data⟩
theorem RSm.took {f : FR} {k : Nat} (h : RSm f k) : RSm f.took (k + 1) := ⟨Nat.le_succ_of_le h.objs, Nat.succ_le_succ h.calls, h.names, by have := h.left; show f.left.tail.length ≤ 100; rw [List.length_tail]; omega, h.data⟩
theorem RSm.same {f : FR} {k : Nat} (h : RSm f k) : RSm f (k + 1) := ⟨Nat.le_succ_of_le h.objs, Nat.le_succ_of_le h.calls, h.names, h.left, h.data⟩

theorem nmOk_len {n : List UInt8} (h : nmOk n = true) : n.length ≤ 40 := by
  unfold nmOk at h
  simp at h
  exact h.2

theorem RSm.put {f : FR} {k : Nat} (h : RSm f k) (n b : List UInt8) (hb : b.length ≤ 300) : RSm (f.put n b).2 (k + 1) := by
  show RSm (f.does (·.putD n b)) (k + 1)
  unfold FR.does
  split
  · exact h.took
  · unfold FR.putD
    dsimp only
    split
    · rename_i hp
      have hok : nmOk n = true := by
        cases hok : nmOk n with
        | true => rfl
        | false => simp [FR.putE, hok] at hp
      have hlt : (nwithout f.objs n).length ≤ k := Nat.le_trans (List.length_filter_le _ _) h.objs
      have ht := h.took
      refine ⟨?_, ht.calls, ?_, ht.left, ?_⟩
      · show (nput (nwithout f.objs n) n b).length ≤ k + 1
        rw [nput_len]; omega
      · intro x hx
        rcases nput_mem hx with e | e
        · subst e; exact Nat.le_trans (nmOk_len hok) (by decide)
        · exact h.names x ((List.mem_filter.1 e).1)
      · intro x hx
        rcases nput_mem hx with e | e
        · subst e; exact hb
        · exact h.data x ((List.mem_filter.1 e).1)
    · exact h.took

theorem RSm.drop {f : FR} {k : Nat} (h : RSm f k) (n : List UInt8) : RSm (f.drop n).2 (k + 1) := by
  show RSm (f.does (·.dropD n)) (k + 1)
  unfold FR.does
  split
  · exact h.took
  · have ht := h.took
    refine ⟨Nat.le_trans (List.length_filter_le _ _) ht.objs, ht.calls, fun x hx => h.names x ((List.mem_filter.1 hx).1), ht.left, fun x hx => h.data x ((List.mem_filter.1 hx).1)⟩

section
variable {W w : World} {p q : Nat} {f g : FR} {n : Nat} {o : Obj}

theorem bn_next1 (h : BoN W w p q f g n o) (v : Value) (l : List Int) (hv : Rd W 1 v l.length (l.map (Value.int .i64))) (hl : l.length ≤ 100) :
    Calls Tryz.prog 14 #[.pointer (some ⟨p, 0, none⟩), v] w fun e w' => e = .returned (.tuple #[]) ∧ BoN W w' p q (f.next l) g n o := by
  obtain ⟨G, H, hc, hb, hg, hh⟩ := h
  refine (farNext_at hc.fa v l (hv.below hc.be (Nat.le_refl _)) (by omega)).mono ?_
  rintro e w' ⟨rfl, k1⟩
  exact ⟨rfl, hc.far_n hb hg hh k1⟩

theorem bn_next2 (h : BoN W w p q f g n o) (v : Value) (l : List Int) (hv : Rd W 1 v l.length (l.map (Value.int .i64))) (hl : l.length ≤ 100) :
    Calls Tryz.prog 17 #[.pointer (some ⟨q, 0, none⟩), v] w fun e w' => e = .returned (.tuple #[]) ∧ BoN W w' p q f (g.next l) n o := by
  obtain ⟨G, H, hc, hb, hg, hh⟩ := h
  refine (rnext_at hc.ra v l (hv.below hc.be (Nat.le_refl _)) (by omega)).mono ?_
  rintro e w' ⟨rfl, k1⟩
  exact ⟨rfl, hc.ref_n hb hg hh k1⟩

theorem bn_put1 {k : Nat} (h : BoN W w p q f g n o) (hs : RSm f k) (hk : k ≤ 1000) (s : ByteArray) (hsz : s.size ≤ maxLen) (v : Value) (b : List UInt8) (hv : RdB W v b) (hbl : b.length ≤ 300) (r : Nat) (f' : FR) (he : f.put s.data.toList b = (r, f')) :
    Calls Tryz.prog 28 #[.pointer (some ⟨p, 0, none⟩), .string s, v] w fun e w' => e = .returned (.int .i64 (r : Int)) ∧ BoN W w' p q f' g n o := by
  obtain ⟨G, H, hc, hb, hg, hh⟩ := h
  have hm := farPut_at hc.fa (by have := hs.objs; omega) (by have := hs.calls; omega) s hsz v b (hv.below hc.be (Nat.le_refl _)) (by unfold maxLen; omega) fun hne k e hG => by have := hv.blk_lt hne k e; have := hc.gw k hG; omega
  rw [he] at hm
  refine hm.mono ?_
  rintro e w' ⟨rfl, k1⟩
  exact ⟨rfl, hc.far_n hb hg hh k1⟩

theorem bn_put2 {k : Nat} (h : BoN W w p q f g n o) (hs : RSm g k) (hk : k ≤ 1000) (s : ByteArray) (hsz : s.size ≤ maxLen) (v : Value) (b : List UInt8) (hv : RdB W v b) (hbl : b.length ≤ 300) (r : Nat) (f' : FR) (he : g.put s.data.toList b = (r, f')) :
    Calls Tryz.prog 29 #[.pointer (some ⟨q, 0, none⟩), .string s, v] w fun e w' => e = .returned (.int .i64 (r : Int)) ∧ BoN W w' p q f f' n o := by
  obtain ⟨G, H, hc, hb, hg, hh⟩ := h
  have hm := rput_at hc.ra (by have := hs.objs; omega) (by have := hs.calls; omega) s hsz v b (hv.below hc.be (Nat.le_refl _)) (by unfold maxLen; omega) fun hne k e hG => by have := hv.blk_lt hne k e; have := hc.hw k hG; omega
  rw [he] at hm
  refine hm.mono ?_
  rintro e w' ⟨rfl, k1⟩
  exact ⟨rfl, hc.ref_n hb hg hh k1⟩

theorem bn_drop1 {k : Nat} (h : BoN W w p q f g n o) (hs : RSm f k) (hk : k ≤ 1000) (s : ByteArray) (hsz : s.size ≤ maxLen) (r : Nat) (f' : FR) (he : f.drop s.data.toList = (r, f')) :
    Calls Tryz.prog 42 #[.pointer (some ⟨p, 0, none⟩), .string s] w fun e w' => e = .returned (.int .i64 (r : Int)) ∧ BoN W w' p q f' g n o := by
  obtain ⟨G, H, hc, hb, hg, hh⟩ := h
  have hm := farDrop_at hc.fa (by have := hs.calls; omega) s hsz
  rw [he] at hm
  refine hm.mono ?_
  rintro e w' ⟨rfl, k1⟩
  exact ⟨rfl, hc.far_n hb hg hh k1⟩

theorem bn_drop2 {k : Nat} (h : BoN W w p q f g n o) (hs : RSm g k) (hk : k ≤ 1000) (hsr : Srt g.objs) (s : ByteArray) (r : Nat) (f' : FR) (he : g.drop s.data.toList = (r, f')) :
    Calls Tryz.prog 43 #[.pointer (some ⟨q, 0, none⟩), .string s] w fun e w' => e = .returned (.int .i64 (r : Int)) ∧ BoN W w' p q f f' n o := by
  obtain ⟨G, H, hc, hb, hg, hh⟩ := h
  have hm := rdrop_at hc.ra hsr (by have := hs.objs; omega) (by have := hs.calls; omega) s
  rw [he] at hm
  refine hm.mono ?_
  rintro e w' ⟨rfl, k1⟩
  exact ⟨rfl, hc.ref_n hb hg hh k1⟩

/-- .. and bytes that were told. -/
def BoB (W w : World) (p q : Nat) (f g : FR) (n : Nat) (o : Obj) (v : Value) (l : List UInt8) : Prop := ∃ G H, Co W w p q f g G H ∧ w.heap[n]? = some o ∧ ¬ G n ∧ ¬ H n ∧ RdB w v l ∧ (l ≠ [] → ∀ k, v.ownBlock = some k → ¬ H k)

theorem BoB.bn {v : Value} {l : List UInt8} (h : BoB W w p q f g n o v l) : BoN W w p q f g n o := by
  obtain ⟨G, H, hc, hb, hg, hh, _⟩ := h
  exact ⟨G, H, hc, hb, hg, hh⟩

theorem bn_get1 {k : Nat} (h : BoN W w p q f g n o) (hs : RSm f k) (hk : k ≤ 1000) (s : ByteArray) (hsz : s.size ≤ maxLen) (a c : Int) (r : Nat) (l : List UInt8) (he : f.get s.data.toList a c = (l, r)) :
    Calls Tryz.prog 36 #[.pointer (some ⟨p, 0, none⟩), .string s, .int .i64 a, .int .i64 c] w fun e w' => ∃ va vc, e = .returned (.tuple #[.slice va l.length vc, .int .i64 (r : Int)]) ∧ BoB W w' p q f.took g n o (.slice va l.length vc) l := by
  obtain ⟨G, H, hc, hb, hg, hh⟩ := h
  have hm := farGet_at hc.fa (by have := hs.calls; omega) s hsz a c
  rw [he] at hm
  refine hm.mono ?_
  rintro e w' ⟨v, rfl, k1, k2, k3, k4⟩
  obtain ⟨va, vc, rfl, _, _⟩ := RdB.form k3
  obtain ⟨G', c', t, gr⟩ := hc.far ⟨G, k1, k2, Grows.refl _ _ _⟩
  have hl := blk_lt hb
  exact ⟨va, vc, rfl, G', H, c', (t.block n ⟨hl, hg⟩).trans hb, fun hk => (gr n hk).elim hg (by omega), hh, k3, fun _ k e hH => by have := k4 k e; have := hc.ra.lt k hH; omega⟩

theorem bn_get2 {k : Nat} {v : Value} {lh : List UInt8} (h : BoB W w p q f g n o v lh) (hs : RSm g k) (hk : k ≤ 1000) (s : ByteArray) (a c : Int) (r : Nat) (l : List UInt8) (he : g.get s.data.toList a c = (l, r)) :
    Calls Tryz.prog 37 #[.pointer (some ⟨q, 0, none⟩), .string s, .int .i64 a, .int .i64 c] w fun e w' => ∃ va vc, e = .returned (.tuple #[.slice va l.length vc, .int .i64 (r : Int)]) ∧ BoN W w' p q f g.took n o ∧ RdB w' v lh ∧ RdB w' (.slice va l.length vc) l := by
  obtain ⟨G, H, hc, hb, hg, hh, hr, hv⟩ := h
  have hm := rget_at hc.ra (by have := hs.objs; omega) (by have := hs.calls; omega) s a c fun x hx => by have := hs.data x hx; omega
  rw [he] at hm
  refine hm.mono ?_
  rintro e w' ⟨v2, rfl, k1, k3, _⟩
  obtain ⟨va, vc, rfl, _, _⟩ := RdB.form k3
  refine ⟨va, vc, rfl, hc.ref_n hb hg hh k1, ?_, k3⟩
  obtain ⟨_, _, t, _⟩ := k1
  exact rd_touch hr t hv

/-- .. and names that were told. -/
def BoT (W w : World) (p q : Nat) (f g : FR) (n : Nat) (o : Obj) (v : Value) (l : List (List UInt8)) : Prop := ∃ G H, Co W w p q f g G H ∧ w.heap[n]? = some o ∧ ¬ G n ∧ ¬ H n ∧ Rd w 1 v l.length (l.map fun n => .string (strB n)) ∧ ∀ k, v.ownBlock = some k → k < w.heap.size ∧ ¬ H k

theorem bn_list1 {k : Nat} (h : BoN W w p q f g n o) (hs : RSm f k) (hk : k ≤ 1000) (r : Nat) (l : List (List UInt8)) (he : f.list = (l, r)) :
    Calls Tryz.prog 39 #[.pointer (some ⟨p, 0, none⟩)] w fun e w' => ∃ va vc, e = .returned (.tuple #[.slice va l.length vc, .int .i64 (r : Int)]) ∧ BoT W w' p q f.took g n o (.slice va l.length vc) l := by
  obtain ⟨G, H, hc, hb, hg, hh⟩ := h
  have hm := farList_at hc.fa (by have := hs.objs; omega) (by have := hs.calls; omega)
  rw [he] at hm
  refine hm.mono ?_
  rintro e w' ⟨v, rfl, k1, k2⟩
  have k3 := rd_of_own k2
  obtain ⟨va, vc, rfl, _, _⟩ := rd_of_own k2
  obtain ⟨G', c', t, gr⟩ := hc.far k1
  have hl := blk_lt hb
  refine ⟨va, vc, rfl, G', H, c', (t.block n ⟨hl, hg⟩).trans hb, fun hk => (gr n hk).elim hg (by omega), hh, k3, fun k e => ?_⟩
  have := World.ownsRow.lt k2 k e
  exact ⟨this.2, fun hH => by have := hc.ra.lt k hH; omega⟩

theorem bn_list2 {k : Nat} {v : Value} {lh : List (List UInt8)} (h : BoT W w p q f g n o v lh) (hs : RSm g k) (hk : k ≤ 1000) (r : Nat) (l : List (List UInt8)) (he : g.list = (l, r)) :
    Calls Tryz.prog 40 #[.pointer (some ⟨q, 0, none⟩)] w fun e w' => ∃ va vc, e = .returned (.tuple #[.slice va l.length vc, .int .i64 (r : Int)]) ∧ BoN W w' p q f g.took n o ∧ Rd w' 1 v lh.length (lh.map fun n => .string (strB n)) ∧ Rd w' 1 (.slice va l.length vc) l.length (l.map fun n => .string (strB n)) := by
  obtain ⟨G, H, hc, hb, hg, hh, hr, hv⟩ := h
  have hm := rlist_at hc.ra (by have := hs.objs; omega) (by have := hs.calls; omega)
  rw [he] at hm
  refine hm.mono ?_
  rintro e w' ⟨v2, rfl, k1, k2⟩
  have k3 := rd_of_own k2
  obtain ⟨va, vc, rfl, _, _⟩ := rd_of_own k2
  refine ⟨va, vc, rfl, hc.ref_n hb hg hh k1, ?_, k3⟩
  obtain ⟨_, _, t, _⟩ := k1
  exact Rd.kept hr t hv

theorem bo_objs1 {k : Nat} (h : Bo W w p q f g) (hs : RSm f k) (hk : k ≤ 1000) :
    Calls Tryz.prog 8 #[.pointer (some ⟨p, 0, none⟩)] w fun e w' => ∃ v, e = .returned v ∧ Rd w' 3 v f.objs.length (fileCells f.objs) ∧ Bo W w' p q f g := by
  obtain ⟨G, H, hc⟩ := h
  refine (farObjs_at hc.fa (by have := hs.objs; omega) hs.names).mono ?_
  rintro e w' ⟨v, rfl, k1, k2⟩
  exact ⟨v, rfl, rd_of_own k1, G, H, hc.below k2⟩

theorem bo_objs2 {k : Nat} (h : Bo W w p q f g) (hs : RSm g k) (hk : k ≤ 1000) (v : Value) (m : Nat) (cs : List Value) (hv : Rd w 3 v m cs) :
    Calls Tryz.prog 9 #[.pointer (some ⟨q, 0, none⟩)] w fun e w' => ∃ v2, e = .returned v2 ∧ Rd w' 3 v2 g.objs.length (fileCells g.objs) ∧ Rd w' 3 v m cs ∧ Bo W w' p q f g := by
  obtain ⟨G, H, hc⟩ := h
  refine (robjs_at hc.ra (by have := hs.objs; omega)).mono ?_
  rintro e w' ⟨v2, rfl, k1, k2⟩
  exact ⟨v2, rfl, rd_of_own k1, Rd.below hv k2 (Nat.le_refl _), G, H, hc.below k2⟩

theorem bo_calls1 (h : Bo W w p q f g) : Calls Tryz.prog 10 #[.pointer (some ⟨p, 0, none⟩)] w fun e w' => e = .returned (.int .i64 (f.calls : Int)) ∧ w = w' := by
  obtain ⟨G, H, hc⟩ := h
  obtain ⟨⟨mv, lv, h1, _⟩, _⟩ := hc.fa
  exact farCalls_any w p _ (blk_cell h1)
theorem bo_calls2 (h : Bo W w p q f g) : Calls Tryz.prog 11 #[.pointer (some ⟨q, 0, none⟩)] w fun e w' => e = .returned (.int .i64 (g.calls : Int)) ∧ w = w' := by
  obtain ⟨G, H, hc⟩ := h
  obtain ⟨⟨mv, lv, h1, _⟩, _⟩ := hc.ra
  exact rcalls_any w q _ (blk_cell h1)
theorem bo_left1 (h : Bo W w p q f g) : Calls Tryz.prog 12 #[.pointer (some ⟨p, 0, none⟩)] w fun e w' => e = .returned (.int .i64 (f.left.length : Int)) ∧ w = w' := by
  obtain ⟨G, H, hc⟩ := h
  obtain ⟨⟨mv, lv, h1, _, h3, _⟩, _⟩ := hc.fa
  obtain ⟨a, cap, rfl, _, _⟩ := h3.form
  exact farLeft_any w p a _ cap (blk_cell h1)
theorem bo_left2 (h : Bo W w p q f g) : Calls Tryz.prog 13 #[.pointer (some ⟨q, 0, none⟩)] w fun e w' => e = .returned (.int .i64 (g.left.length : Int)) ∧ w = w' := by
  obtain ⟨G, H, hc⟩ := h
  obtain ⟨⟨mv, lv, h1, _, h3, _⟩, _⟩ := hc.ra
  obtain ⟨a, cap, rfl, _, _⟩ := h3.form
  exact rleft_any w q a _ cap (blk_cell h1)

end
end Go.Proofs.YtljjgpjaleekdaaGreatDoor
