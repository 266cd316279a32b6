import Derived.Test.YtfeogoihkpclcaaMg11
import Derived.Test.YtfeogoihkpclcaaMg13
import Derived.Test.YtfeogoihkpclcaaMg12
import Derived.Test.YtfeogoihkpclcaaMg07

/-
  Gone.
-/
namespace Go.Proofs.Ytfeogoihkpclcaa
open Go.RowKit

def PD.takes (d : PD) (n : List UInt8) : PD := { d with names := ren d.names ⟨2, n, [], 0⟩, loose := d.loose ++ [⟨2, n, [], 0⟩] }

def PD.gone (d : PD) (n : List UInt8) : Nat × PD :=
  if d.down then (7, d) else match dfind d.names n with
  | none => (2, d)
  | some _ => (d.err, d.after (·.takes n))

theorem dfind_in {l : DB} {n : List UInt8} {id : Nat} (h : dfind l n = some id) : (n, id) ∈ l := by
  unfold dfind at h
  obtain ⟨x, hx, rfl⟩ := Option.map_eq_some_iff.1 h
  have h1 := List.mem_of_find?_eq_some hx
  have h2 := List.find?_some hx
  have h3 : x.1 = n := by simpa using h2
  rw [← h3]
  exact h1

set_option maxRecDepth 100000 in
set_option maxHeartbeats 4000000 in
set_option linter.unusedSimpArgs false in
theorem gone1_at {g : Gh} {w : World} {p : Nat} {d : PD} (h : DiskAt g w p d) (hsm : Small d) (n : List UInt8) (hn : n.length < 1000) (bd bn : Nat) (hbd : w.cell? ⟨bd, 0, none⟩ = some (.pointer (some ⟨p, 0, none⟩))) (hbn : w.cell? ⟨bn, 0, none⟩ = some (.string (strB n))) :
    Calls Try.prog 67 #[.pointer (some ⟨bd, 0, none⟩), .pointer (some ⟨bn, 0, none⟩)] w fun e w' => e = .returned (.tuple #[]) ∧ ∃ g', DiskAt g' w' p (d.takes n) ∧ Step g g' w w' := by
  have hch := change_at h ⟨2, n, [], 0⟩ ⟨by show 2 ≤ 2; omega, by show n.length < _; omega, by show 0 < 1000000000; omega, by show 0 < 1000000000000; omega⟩ hsm.nm (by have := hsm.loose; omega)
  have HCH := Lib.hid hch
  clear hch hsm h
  go_enter Try.func67, Try.ntmps67
  go_wp2_with (go_at_call 50; refine HCH.out.mono ?_; rintro e w5 ⟨rfl, g5, hd5, hst5, _⟩)
  go_end0
  exact ⟨rfl, g5, hd5, hst5⟩

theorem enters_gone1 : Enters Try.prog 67 := enters_of Try.func67 (by kernel_rfl) rfl

set_option maxRecDepth 100000 in
set_option maxHeartbeats 4000000 in
set_option linter.unusedSimpArgs false in
theorem gone_at {g : Gh} {w : World} {p : Nat} {d : PD} (h : DiskAt g w p d) (hsm : Small d) (hcl : d.calls + 1 < 10000) (s : ByteArray) (hs : s.size ≤ maxLen) :
    Calls Try.prog 32 #[.pointer (some ⟨p, 0, none⟩), .string s] w (Wrote g w p (d.gone s.data.toList)) := by
  obtain ⟨w1, hw1⟩ : ∃ w1, w1 = (w.alloc (.cells #[.pointer (some ⟨p, 0, none⟩)] 28)).alloc (.cells #[.string s] 9) := ⟨_, rfl⟩
  have hbel : Below w.heap.size w w1 := by subst hw1; exact ((Below.refl _ _).alloc (Nat.le_refl _) _).alloc (by simp) _
  have hd1 : DiskAt g w1 p d := h.below hbel
  have hst1 : Step g g w w1 := Step.below hbel
  have hbd : w1.cell? ⟨w.heap.size, 0, none⟩ = some (.pointer (some ⟨p, 0, none⟩)) := by
    subst hw1
    rw [World.cell?_of_block (a := ⟨w.heap.size, 0, none⟩) (Below.heap_alloc _ _ _ (by simp)), blk_cell (heap_alloc_new w _)]
    rfl
  have hbn : w1.cell? ⟨w.heap.size + 1, 0, none⟩ = some (.string s) := by
    subst hw1
    rw [blk_cell (heap_new2 w _ _)]
    rfl
  have hwd : w1.heap.size = w.heap.size + 2 := by subst hw1; simp
  have c4 : w1.cell? ⟨p, 4, none⟩ = some (.bool d.down) := blk_cell hd1.blk
  have Hw1 := Lib.hid hw1
  have hpw := blk_lt h.blk
  have hne : ¬ w.heap.size = p := by omega
  have hne' : ¬ w.heap.size + 1 = p := by omega
  cases hdn : d.down with
  | true =>
    rw [show d.gone s.data.toList = (7, d) by unfold PD.gone; simp [hdn]]
    rw [hdn] at c4
    have HSH := Lib.hid (shut_any w1 p true c4)
    clear hsm hdn c4 hbd hbn hwd h hw1
    go_enter Try.func32, Try.ntmps32
    go_wp2_with (go_at_call 46; rw [← Hw1.out]; refine HSH.out.mono ?_; rintro e w5 ⟨rfl, rfl⟩)
    go_ret
    exact ⟨rfl, g, hd1, hst1⟩
  | false =>
    rw [hdn] at c4
    have HSH := Lib.hid (shut_any w1 p false c4)
    rcases find_at hd1 s hs hsm.idn with ⟨hf, hcall⟩ | ⟨id, fb, cap, x, f, hf, _, _, _, _, _, _, _, _, _, _, _, hcall⟩
    · rw [show d.gone s.data.toList = (2, d) by unfold PD.gone; simp [hdn, hf]]
      have HC := Lib.hid hcall
      have hq := eqf_nil2
      clear hcall hf hsm hdn c4 hwd h hw1
      go_enter Try.func32, Try.ntmps32
      go_wp2_with (first | (go_at_call 46; rw [← Hw1.out]; refine HSH.out.mono ?_; rintro e w5 ⟨rfl, rfl⟩) | (go_at_call 42; refine HC.out.mono ?_; rintro e w5 ⟨rfl, rfl⟩))
      go_ret
      exact ⟨rfl, g, hd1, hst1⟩
    · rw [show d.gone s.data.toList = (d.err, d.after (·.takes s.data.toList)) by unfold PD.gone; simp [hdn, hf]]
      have HC := Lib.hid hcall
      have hq := eqf_nil
      have hlen : s.data.toList.length < 1000 := hsm.nml _ (dfind_in hf)
      have hcn := counted (k := 67) (fst := #[]) (caps := #[.pointer (some ⟨w.heap.size, 0, none⟩), .pointer (some ⟨w.heap.size + 1, 0, none⟩)]) hd1 (by omega) enters_gone1 (·.takes s.data.toList) rfl
        (fun _ w2 hd2 hk2 hs2 => gone1_at hd2 (hsm.cnt hcl) s.data.toList hlen w.heap.size (w.heap.size + 1) ((hk2.cell (p := ⟨w.heap.size, 0, none⟩) ⟨by simp; omega, by simpa using hne⟩).trans hbd) ((hk2.cell (p := ⟨w.heap.size + 1, 0, none⟩) ⟨by simp; omega, by simpa using hne'⟩).trans hbn))
      have HCN := Lib.hid hcn
      clear hcall hf hcn hsm hdn c4 hwd h hw1 hlen
      go_enter Try.func32, Try.ntmps32
      go_wp2_with (first | (go_at_call 46; rw [← Hw1.out]; refine HSH.out.mono ?_; rintro e w5 ⟨rfl, rfl⟩) | (go_at_call 42; refine HC.out.mono ?_; rintro e w5 ⟨rfl, rfl⟩) | (go_at_call 48; (with_reducible refine HCN.out.mono ?_); rintro e w5 ⟨rfl, g5, hd5, hst5⟩))
      go_ret
      exact ⟨rfl, g5, hd5, hst1.trans hst5⟩
end Go.Proofs.Ytfeogoihkpclcaa

/-
  A disk of a statement's own: what the calls do, told of the world that the statement began in.
-/
namespace Go.Proofs.Ytfeogoihkpclcaa
open Go.RowKit

/-- The disk 'd' lies behind all that 'W' has, and what 'W' has is as it was. -/
def On (W w : World) (p : Nat) (d : PD) : Prop := ∃ g, DiskAt g w p d ∧ Below W.heap.size W w ∧ ∀ k, g.F k → W.heap.size ≤ k

theorem On.below {W w : World} {p : Nat} {d : PD} (h : On W w p d) : Below W.heap.size W w := by obtain ⟨g, _, h2, _⟩ := h; exact h2

theorem on_step {W w w' : World} {p : Nat} {d' : PD} {g g' : Gh} (hb : Below W.heap.size W w) (hF : ∀ k, g.F k → W.heap.size ≤ k) (hd : DiskAt g' w' p d') (hs : Step g g' w w') : On W w' p d' := by
  refine ⟨g', hd, hb.trans (Kept.below hs.touch fun k hk => ⟨?_, fun e => ?_⟩), fun k hk => ?_⟩
  · exact Nat.lt_of_lt_of_le hk hb.size
  · have := hF k e; omega
  · rcases hs.new k hk with h1 | h1
    · exact hF k h1
    · have := hb.size; omega

theorem on_new (W w : World) (hb : Below W.heap.size W w) (room crash names : Int) (done : Bool) (kv : Value) :
    Calls Try.prog 6 #[.agg #[.int .i64 room, .int .i64 crash, .bool done, kv, .int .i64 names]] w fun e w' => ∃ p, e = .returned (.pointer (some ⟨p, 0, none⟩)) ∧ On W w' p (PD.new room crash done) := by
  refine (new_any w room crash names done kv).mono ?_
  rintro e w' ⟨p, rfl, hp, hd, hb2⟩
  refine ⟨p, rfl, Gh.new p, hd, hb.trans (Kept.below (Kept.of hb2 (R := fun k => k < w.heap.size) fun _ h => h) fun k hk => Nat.lt_of_lt_of_le hk hb.size), fun k hk => ?_⟩
  by_cases e : k = p
  · have := hb.size; omega
  · exact absurd (show (if k = p then Role.disk else .out) = .out by rw [if_neg e]) hk

theorem on_make {W w : World} {p : Nat} {d : PD} (h : On W w p d) (hsm : Small d) (hcl : d.calls + 1 < 10000) (s : ByteArray) (hs : s.size ≤ maxLen) (r : Nat) (d' : PD) (he : d.make s.data.toList = (r, d')) :
    Calls Try.prog 17 #[.pointer (some ⟨p, 0, none⟩), .string s] w fun e w' => e = .returned (.int .i64 (r : Int)) ∧ On W w' p d' := by
  obtain ⟨g, h1, h2, h3⟩ := h
  have hm := make_at h1 hsm hcl s hs
  rw [he] at hm
  refine hm.mono ?_
  rintro e w' ⟨rfl, g', k1, k2⟩
  exact ⟨rfl, on_step h2 h3 k1 k2⟩

theorem on_gone {W w : World} {p : Nat} {d : PD} (h : On W w p d) (hsm : Small d) (hcl : d.calls + 1 < 10000) (s : ByteArray) (hs : s.size ≤ maxLen) (r : Nat) (d' : PD) (he : d.gone s.data.toList = (r, d')) :
    Calls Try.prog 32 #[.pointer (some ⟨p, 0, none⟩), .string s] w fun e w' => e = .returned (.int .i64 (r : Int)) ∧ On W w' p d' := by
  obtain ⟨g, h1, h2, h3⟩ := h
  have hm := gone_at h1 hsm hcl s hs
  rw [he] at hm
  refine hm.mono ?_
  rintro e w' ⟨rfl, g', k1, k2⟩
  exact ⟨rfl, on_step h2 h3 k1 k2⟩

theorem on_write {W w : World} {p : Nat} {d : PD} (h : On W w p d) (hsm : Small d) (hcl : d.calls + 1 < 10000) (s : ByteArray) (hs : s.size ≤ maxLen) (a : Int) (v : Value) (l : List UInt8) (hrd : RdB W v l) (hll : l.length < 1000000000000) (r : Nat) (d' : PD) (he : d.write s.data.toList a l = (r, d')) :
    Calls Try.prog 18 #[.pointer (some ⟨p, 0, none⟩), .string s, .int .i64 a, v] w fun e w' => e = .returned (.int .i64 (r : Int)) ∧ On W w' p d' := by
  obtain ⟨g, h1, h2, h3⟩ := h
  have hm := write_at h1 hsm hcl s hs a v l (hrd.below h2 (Nat.le_refl _)) hll ?_
  · rw [he] at hm
    refine hm.mono ?_
    rintro e w' ⟨rfl, g', k1, k2⟩
    exact ⟨rfl, on_step h2 h3 k1 k2⟩
  · intro hne k e
    have hk : k < W.heap.size := by
      obtain ⟨b, off, cap, hv, _, _, hb, _⟩ := hrd.cells hne
      rw [hv] at e
      cases e
      exact hb
    cases ho : g.o k with
    | out => rfl
    | _ => exact absurd (h3 k (by unfold Gh.F; rw [ho]; simp)) (by omega)
end Go.Proofs.Ytfeogoihkpclcaa

/-
  Size.
-/
namespace Go.Proofs.Ytfeogoihkpclcaa
open Go.RowKit

def PD.size (d : PD) (n : List UInt8) : Nat × Bool := match dfind d.names n with
  | none => (0, false)
  | some id => ((d.file id).now.length, true)

set_option maxRecDepth 100000 in
set_option maxHeartbeats 4000000 in
set_option linter.unusedSimpArgs false in
theorem size_at {g : Gh} {w : World} {p : Nat} {d : PD} (h : DiskAt g w p d) (hsm : Small d) (s : ByteArray) (hs : s.size ≤ maxLen) :
    Calls Try.prog 38 #[.pointer (some ⟨p, 0, none⟩), .string s] w fun e w' => e = .returned (.tuple #[.int .i64 ((d.size s.data.toList).1 : Int), .bool (d.size s.data.toList).2]) ∧ w = w' := by
  rcases find_at h s hs hsm.idn with ⟨hf, hcall⟩ | ⟨id, fb, cap, x, f, hf, _, _, _, hff, _, _, hfa, _, c1, _, _, hcall⟩
  · rw [show d.size s.data.toList = (0, false) by unfold PD.size; simp [hf]]
    dsimp only
    have HC := Lib.hid hcall
    have hq := eqf_nil2
    clear hcall hf hsm h
    go_enter Try.func38, Try.ntmps38
    go_wp2_with (go_at_call 42; refine HC.out.mono ?_; rintro e w5 ⟨rfl, rfl⟩)
    go_ret2
    exact ⟨rfl, rfl⟩
  · rw [show d.size s.data.toList = (f.now.length, true) by unfold PD.size PD.file; simp [hf, List.getD_eq_getElem?_getD, hff]]
    dsimp only
    obtain ⟨na, nc, hvn, _, _⟩ := RdB.form hfa.vn.read
    rw [hvn] at c1
    have HC := Lib.hid hcall
    have hq := eqf_nil
    clear hcall hf hsm h hfa hvn hff
    go_enter Try.func38, Try.ntmps38
    go_wp2_with (go_at_call 42; refine HC.out.mono ?_; rintro e w5 ⟨rfl, rfl⟩)
    go_ret2
    exact ⟨rfl, rfl⟩
end Go.Proofs.Ytfeogoihkpclcaa

/-
  Move.
-/
namespace Go.Proofs.Ytfeogoihkpclcaa
open Go.RowKit

def PD.moves (d : PD) (n m : List UInt8) : PD := { d with names := ren d.names ⟨1, n, m, 0⟩, loose := d.loose ++ [⟨1, n, m, 0⟩] }

def PD.move (d : PD) (n m : List UInt8) : Nat × PD :=
  if d.down then (7, d) else if !nmOk m then (1, d) else match dfind d.names n with
  | none => (2, d)
  | some _ => (d.err, d.after (·.moves n m))

set_option maxRecDepth 100000 in
set_option maxHeartbeats 4000000 in
set_option linter.unusedSimpArgs false in
theorem move1_at {g : Gh} {w : World} {p : Nat} {d : PD} (h : DiskAt g w p d) (hsm : Small d) (n m : List UInt8) (hn : n.length < 1000) (hm : m.length < 1000) (bd bn bm : Nat) (hbd : w.cell? ⟨bd, 0, none⟩ = some (.pointer (some ⟨p, 0, none⟩))) (hbn : w.cell? ⟨bn, 0, none⟩ = some (.string (strB n))) (hbm : w.cell? ⟨bm, 0, none⟩ = some (.string (strB m))) :
    Calls Try.prog 66 #[.pointer (some ⟨bd, 0, none⟩), .pointer (some ⟨bn, 0, none⟩), .pointer (some ⟨bm, 0, none⟩)] w fun e w' => e = .returned (.tuple #[]) ∧ ∃ g', DiskAt g' w' p (d.moves n m) ∧ Step g g' w w' := by
  have hch := change_at h ⟨1, n, m, 0⟩ ⟨by show 1 ≤ 2; omega, by show n.length < _; omega, by show m.length < _; omega, by show 0 < 1000000000000; omega⟩ hsm.nm (by have := hsm.loose; omega)
  have HCH := Lib.hid hch
  clear hch hsm h
  go_enter Try.func66, Try.ntmps66
  go_wp2_with (go_at_call 50; refine HCH.out.mono ?_; rintro e w5 ⟨rfl, g5, hd5, hst5, _⟩)
  go_end0
  exact ⟨rfl, g5, hd5, hst5⟩

theorem enters_move1 : Enters Try.prog 66 := enters_of Try.func66 (by kernel_rfl) rfl

set_option maxRecDepth 100000 in
set_option maxHeartbeats 4000000 in
set_option linter.unusedSimpArgs false in
theorem move_at {g : Gh} {w : World} {p : Nat} {d : PD} (h : DiskAt g w p d) (hsm : Small d) (hcl : d.calls + 1 < 10000) (s t : ByteArray) (hs : s.size ≤ maxLen) (ht : t.size ≤ maxLen) :
    Calls Try.prog 30 #[.pointer (some ⟨p, 0, none⟩), .string s, .string t] w (Wrote g w p (d.move s.data.toList t.data.toList)) := by
  obtain ⟨w1, hw1⟩ : ∃ w1, w1 = ((w.alloc (.cells #[.pointer (some ⟨p, 0, none⟩)] 28)).alloc (.cells #[.string s] 9)).alloc (.cells #[.string t] 9) := ⟨_, rfl⟩
  have hbel : Below w.heap.size w w1 := by subst hw1; exact (((Below.refl _ _).alloc (Nat.le_refl _) _).alloc (by simp) _).alloc (by simp; omega) _
  have hd1 : DiskAt g w1 p d := h.below hbel
  have hst1 : Step g g w w1 := Step.below hbel
  have hbd : w1.cell? ⟨w.heap.size, 0, none⟩ = some (.pointer (some ⟨p, 0, none⟩)) := by
    subst hw1
    rw [World.cell?_of_block (a := ⟨w.heap.size, 0, none⟩) (Below.heap_alloc _ _ _ (by simp; omega)), World.cell?_of_block (a := ⟨w.heap.size, 0, none⟩) (Below.heap_alloc _ _ _ (by simp)), blk_cell (heap_alloc_new w _)]
    rfl
  have hbn : w1.cell? ⟨w.heap.size + 1, 0, none⟩ = some (.string s) := by
    subst hw1
    rw [World.cell?_of_block (a := ⟨w.heap.size + 1, 0, none⟩) (Below.heap_alloc _ _ _ (by simp)), blk_cell (heap_new2 w _ _)]
    rfl
  have hbm : w1.cell? ⟨w.heap.size + 2, 0, none⟩ = some (.string t) := by
    subst hw1
    have := blk_cell (i := 0) (heap_alloc_new ((w.alloc (.cells #[.pointer (some ⟨p, 0, none⟩)] 28)).alloc (.cells #[.string s] 9)) (.cells #[.string t] 9))
    simpa using this
  have hwd : w1.heap.size = w.heap.size + 3 := by subst hw1; simp
  have c4 : w1.cell? ⟨p, 4, none⟩ = some (.bool d.down) := blk_cell hd1.blk
  have hnm := isName_any w1 t ht
  have Hw1 := Lib.hid hw1
  have hpw := blk_lt h.blk
  have hne : ¬ w.heap.size = p := by omega
  have hne' : ¬ w.heap.size + 1 = p := by omega
  have hne2 : ¬ w.heap.size + 2 = p := by omega
  cases hdn : d.down with
  | true =>
    rw [show d.move s.data.toList t.data.toList = (7, d) by unfold PD.move; simp [hdn]]
    rw [hdn] at c4
    have HSH := Lib.hid (shut_any w1 p true c4)
    clear hsm hdn c4 hbd hbn hbm hwd h hw1 hnm
    go_enter Try.func30, Try.ntmps30
    go_wp2_with (go_at_call 46; rw [← Hw1.out]; refine HSH.out.mono ?_; rintro e w5 ⟨rfl, rfl⟩)
    go_ret
    exact ⟨rfl, g, hd1, hst1⟩
  | false =>
    rw [hdn] at c4
    have HSH := Lib.hid (shut_any w1 p false c4)
    cases hok : nmOk t.data.toList with
    | false =>
      rw [show d.move s.data.toList t.data.toList = (1, d) by unfold PD.move; simp [hdn, hok]]
      rw [hok] at hnm
      have HNM := Lib.hid hnm
      have HOK := Lib.hid hok
      clear hnm hsm hdn c4 hwd h hw1 hok
      go_enter Try.func30, Try.ntmps30
      go_wp2_with (first | (go_at_call 46; rw [← Hw1.out]; refine HSH.out.mono ?_; rintro e w5 ⟨rfl, rfl⟩) | (go_at_call 47; refine HNM.out.mono ?_; rintro e w5 ⟨rfl, rfl⟩))
      go_ret
      exact ⟨rfl, g, hd1, hst1⟩
    | true =>
      rw [hok] at hnm
      have HNM := Lib.hid hnm
      have hlt : t.data.toList.length ≤ 40 := by
        unfold nmOk at hok
        simp only [Bool.and_eq_true, decide_eq_true_eq] at hok
        exact hok.2
      have HOK := Lib.hid hok
      clear hnm hok
      rcases find_at hd1 s hs hsm.idn with ⟨hf, hcall⟩ | ⟨id, fb, cap, x, f, hf, _, _, _, _, _, _, _, _, _, _, _, hcall⟩
      · rw [show d.move s.data.toList t.data.toList = (2, d) by unfold PD.move; simp [hdn, HOK.out, hf]]
        have HC := Lib.hid hcall
        have hq := eqf_nil2
        clear hcall hf hsm hdn c4 hwd h hw1 hlt
        go_enter Try.func30, Try.ntmps30
        go_wp2_with (first | (go_at_call 46; rw [← Hw1.out]; refine HSH.out.mono ?_; rintro e w5 ⟨rfl, rfl⟩) | (go_at_call 47; refine HNM.out.mono ?_; rintro e w5 ⟨rfl, rfl⟩) | (go_at_call 42; refine HC.out.mono ?_; rintro e w5 ⟨rfl, rfl⟩))
        go_ret
        exact ⟨rfl, g, hd1, hst1⟩
      · rw [show d.move s.data.toList t.data.toList = (d.err, d.after (·.moves s.data.toList t.data.toList)) by unfold PD.move; simp [hdn, HOK.out, hf]]
        have HC := Lib.hid hcall
        have hq := eqf_nil
        have hlen : s.data.toList.length < 1000 := hsm.nml _ (dfind_in hf)
        have hcn := counted (k := 66) (fst := #[]) (caps := #[.pointer (some ⟨w.heap.size, 0, none⟩), .pointer (some ⟨w.heap.size + 1, 0, none⟩), .pointer (some ⟨w.heap.size + 2, 0, none⟩)]) hd1 (by omega) enters_move1 (·.moves s.data.toList t.data.toList) rfl
          (fun _ w2 hd2 hk2 hs2 => move1_at hd2 (hsm.cnt hcl) s.data.toList t.data.toList hlen (by omega) w.heap.size (w.heap.size + 1) (w.heap.size + 2) ((hk2.cell (p := ⟨w.heap.size, 0, none⟩) ⟨by simp; omega, by simpa using hne⟩).trans hbd) ((hk2.cell (p := ⟨w.heap.size + 1, 0, none⟩) ⟨by simp; omega, by simpa using hne'⟩).trans hbn) ((hk2.cell (p := ⟨w.heap.size + 2, 0, none⟩) ⟨by simp; omega, by simpa using hne2⟩).trans hbm))
        have HCN := Lib.hid hcn
        clear hcall hf hcn hsm hdn c4 hwd h hw1 hlen hlt
        go_enter Try.func30, Try.ntmps30
        go_wp2_with (first | (go_at_call 46; rw [← Hw1.out]; refine HSH.out.mono ?_; rintro e w5 ⟨rfl, rfl⟩) | (go_at_call 47; refine HNM.out.mono ?_; rintro e w5 ⟨rfl, rfl⟩) | (go_at_call 42; refine HC.out.mono ?_; rintro e w5 ⟨rfl, rfl⟩) | (go_at_call 48; (with_reducible refine HCN.out.mono ?_); rintro e w5 ⟨rfl, g5, hd5, hst5⟩))
        go_ret
        exact ⟨rfl, g5, hd5, hst1.trans hst5⟩
end Go.Proofs.Ytfeogoihkpclcaa

/-
  Names.
-/
namespace Go.Proofs.Ytfeogoihkpclcaa
open Go.RowKit

def PD.nameSafe (d : PD) : Nat × PD := if d.down then (7, d) else (d.err, d.after PD.settled)

theorem enters_settle : Enters Try.prog 59 := enters_of Try.func59 (by kernel_rfl) rfl

set_option maxRecDepth 100000 in
set_option maxHeartbeats 4000000 in
set_option linter.unusedSimpArgs false in
theorem names_at {g : Gh} {w : World} {p : Nat} {d : PD} (h : DiskAt g w p d) (hsm : Small d) (hnd : (d.names.map (·.2)).Nodup) (hcl : d.calls + 1 < 10000) :
    Calls Try.prog 34 #[.pointer (some ⟨p, 0, none⟩)] w (Wrote g w p d.nameSafe) := by
  have c4 : w.cell? ⟨p, 4, none⟩ = some (.bool d.down) := blk_cell h.blk
  cases hdn : d.down with
  | true =>
    rw [show d.nameSafe = (7, d) by unfold PD.nameSafe; simp [hdn]]
    rw [hdn] at c4
    have HSH := Lib.hid (shut_any w p true c4)
    clear hsm hdn c4
    go_enter Try.func34, Try.ntmps34
    go_wp2_with (go_at_call 46; refine HSH.out.mono ?_; rintro e w5 ⟨rfl, rfl⟩)
    go_ret
    exact ⟨rfl, g, h, Step.refl _ _⟩
  | false =>
    rw [show d.nameSafe = (d.err, d.after PD.settled) by unfold PD.nameSafe; simp [hdn]]
    rw [hdn] at c4
    have HSH := Lib.hid (shut_any w p false c4)
    have hcn := counted (k := 59) (fst := #[.pointer (some ⟨p, 0, none⟩)]) (caps := #[]) h (by omega) enters_settle PD.settled rfl
      (fun _ w2 hd2 _ _ => settle_at hd2 (hsm.cnt hcl) hnd)
    have HCN := Lib.hid hcn
    clear hsm hdn c4 hcn
    go_enter Try.func34, Try.ntmps34
    go_wp2_with (first | (go_at_call 46; refine HSH.out.mono ?_; rintro e w5 ⟨rfl, rfl⟩) | (go_at_call 48; (with_reducible refine HCN.out.mono ?_); rintro e w5 ⟨rfl, g5, hd5, hst5⟩))
    go_ret
    exact ⟨rfl, g5, hd5, hst5⟩
end Go.Proofs.Ytfeogoihkpclcaa

/-
  Read, where it tells an error ahead of the place: the disk is down, there is no such file.
-/
namespace Go.Proofs.Ytfeogoihkpclcaa
open Go.RowKit

set_option maxRecDepth 100000 in
set_option maxHeartbeats 4000000 in
set_option linter.unusedSimpArgs false in
theorem read_err {g : Gh} {w : World} {p : Nat} {d : PD} (h : DiskAt g w p d) (hsm : Small d) (s : ByteArray) (hs : s.size ≤ maxLen) (a n : Int) (hno : d.down = true ∨ dfind d.names s.data.toList = none) :
    Calls Try.prog 36 #[.pointer (some ⟨p, 0, none⟩), .string s, .int .i64 a, .int .i64 n] w fun e w' => e = .returned (.tuple #[.slice none 0 0, .int .i64 (if d.down then 7 else 2)]) ∧ w = w' := by
  have c4 : w.cell? ⟨p, 4, none⟩ = some (.bool d.down) := blk_cell h.blk
  cases hdn : d.down with
  | true =>
    rw [hdn] at c4
    have HSH := Lib.hid (shut_any w p true c4)
    clear hsm hdn c4 h hno
    go_enter Try.func36, Try.ntmps36
    go_wp2_with (go_at_call 46; refine HSH.out.mono ?_; rintro e w5 ⟨rfl, rfl⟩)
    go_ret2
    exact ⟨rfl, rfl⟩
  | false =>
    rw [hdn] at c4
    have HSH := Lib.hid (shut_any w p false c4)
    rcases find_at h s hs hsm.idn with ⟨hf, hcall⟩ | ⟨id, fb, cap, x, f, hf, _⟩
    · have HC := Lib.hid hcall
      have hq := eqf_nil2
      clear hcall hf hsm hdn c4 h hno
      go_enter Try.func36, Try.ntmps36
      go_wp2_with (first | (go_at_call 46; refine HSH.out.mono ?_; rintro e w5 ⟨rfl, rfl⟩) | (go_at_call 42; refine HC.out.mono ?_; rintro e w5 ⟨rfl, rfl⟩))
      go_ret2
      exact ⟨rfl, rfl⟩
    · rcases hno with e | e
      · rw [hdn] at e; cases e
      · rw [hf] at e; cases e
end Go.Proofs.Ytfeogoihkpclcaa

/-
  Read.
-/
namespace Go.Proofs.Ytfeogoihkpclcaa
open Go.RowKit

def PD.read (d : PD) (n : List UInt8) (a k : Int) : List UInt8 × Nat :=
  if d.down then ([], 7) else match dfind d.names n with
  | none => ([], 2)
  | some id => if a < 0 ∨ ((d.file id).now.length : Int) < a ∨ k < 0 then ([], 1) else (((d.file id).now.drop a.toNat).take k.toNat, 0)

set_option maxRecDepth 100000 in
set_option maxHeartbeats 4000000 in
set_option linter.unusedSimpArgs false in
theorem read_at2 {g : Gh} {w : World} {p : Nat} {d : PD} (h : DiskAt g w p d) (hsm : Small d) (s : ByteArray) (hs : s.size ≤ maxLen) (a n : Int) :
    Calls Try.prog 36 #[.pointer (some ⟨p, 0, none⟩), .string s, .int .i64 a, .int .i64 n] w fun e w' => ∃ v, e = .returned (.tuple #[v, .int .i64 ((d.read s.data.toList a n).2 : Int)]) ∧ Below w.heap.size w w' ∧ OwnB w' 0 5 v (d.read s.data.toList a n).1 ∧ (∀ k, v.ownBlock = some k → w.heap.size ≤ k) := by
  by_cases hno : d.down = true ∨ dfind d.names s.data.toList = none
  · have e1 : d.read s.data.toList a n = ([], if d.down then 7 else 2) := by
      unfold PD.read
      cases hd : d.down with
      | true => rfl
      | false =>
        rcases hno with h | h
        · rw [hd] at h; cases h
        · rw [h]; rfl
    rw [e1]
    refine (read_err h hsm s hs a n hno).mono ?_
    rintro e w' ⟨rfl, rfl⟩
    refine ⟨_, ?_, Below.refl _ _, OwnB.nil _ _ _, fun k e => (nomatch e)⟩
    cases d.down <;> rfl
  · have hdn : d.down = false := by
      cases hd : d.down with
      | true => exact absurd (.inl hd) hno
      | false => rfl
    have c4 : w.cell? ⟨p, 4, none⟩ = some (.bool d.down) := blk_cell h.blk
    rw [hdn] at c4
    have HSH := Lib.hid (shut_any w p false c4)
    rcases find_at h s hs hsm.idn with ⟨hf, _⟩ | ⟨id, fb, cap, x, f, hf, _, _, _, hff, _, _, hfa, _, c1, _, _, hcall⟩
    · exact absurd (.inr hf) hno
    · have e1 : d.read s.data.toList a n = if a < 0 ∨ (f.now.length : Int) < a ∨ n < 0 then ([], 1) else ((f.now.drop a.toNat).take n.toNat, 0) := by
        unfold PD.read PD.file
        simp [hdn, hf, List.getD_eq_getElem?_getD, hff]
      have hv := hfa.vn.read
      obtain ⟨na, nc, hvn, hnc1, hnc2⟩ := RdB.form hv
      rw [hvn] at c1 hv
      have hq := eqf_nil
      have hflen := (hsm.fl f (List.mem_of_getElem? hff)).2.1
      have HC := Lib.hid hcall
      have HV := Lib.hid hv
      clear hcall hf hsm h hfa hvn hff c4 hno hdn hv
      by_cases hbad : a < 0 ∨ (f.now.length : Int) < a ∨ n < 0
      · rw [if_pos hbad] at e1
        rw [e1]
        by_cases q1 : a < 0
        · clear hbad e1
          go_enter Try.func36, Try.ntmps36
          go_wp2_with (first | (go_at_call 46; refine HSH.out.mono ?_; rintro e w5 ⟨rfl, rfl⟩) | (go_at_call 42; refine HC.out.mono ?_; rintro e w5 ⟨rfl, rfl⟩))
          go_ret2
          exact ⟨_, rfl, Below.refl _ _, OwnB.nil _ _ _, fun k e => (nomatch e)⟩
        · by_cases q2 : (f.now.length : Int) < a
          · clear hbad e1
            go_enter Try.func36, Try.ntmps36
            go_wp2_with (first | (go_at_call 46; refine HSH.out.mono ?_; rintro e w5 ⟨rfl, rfl⟩) | (go_at_call 42; refine HC.out.mono ?_; rintro e w5 ⟨rfl, rfl⟩))
            go_ret2
            exact ⟨_, rfl, Below.refl _ _, OwnB.nil _ _ _, fun k e => (nomatch e)⟩
          · have q3 : n < 0 := by omega
            clear hbad e1
            go_enter Try.func36, Try.ntmps36
            go_wp2_with (first | (go_at_call 46; refine HSH.out.mono ?_; rintro e w5 ⟨rfl, rfl⟩) | (go_at_call 42; refine HC.out.mono ?_; rintro e w5 ⟨rfl, rfl⟩))
            go_ret2
            exact ⟨_, rfl, Below.refl _ _, OwnB.nil _ _ _, fun k e => (nomatch e)⟩
      · rw [if_neg hbad] at e1
        rw [e1]
        obtain ⟨i, rfl⟩ := Int.eq_ofNat_of_zero_le (show 0 ≤ a by omega)
        obtain ⟨c, rfl⟩ := Int.eq_ofNat_of_zero_le (show 0 ≤ n by omega)
        have hil : i ≤ f.now.length := by omega
        obtain ⟨m, hm⟩ : ∃ m : Nat, m = min c (f.now.length - i) := ⟨_, rfl⟩
        have hmi : min (c : Int) ((f.now.length - i : Nat) : Int) = (m : Int) := by omega
        have htk : (f.now.drop i).take c = (f.now.drop i).take m := by
          rw [hm, ← List.length_drop, ← List.take_take, List.take_length]
        show Calls _ _ _ _ fun e w' => ∃ v, e = .returned (.tuple #[v, .int .i64 0]) ∧ Below w.heap.size w w' ∧ OwnB w' 0 5 v ((f.now.drop i).take c) ∧ (∀ k, v.ownBlock = some k → w.heap.size ≤ k)
        rw [htk]
        have hml : m ≤ f.now.length - i := by omega
        have hlm : ((f.now.drop i).take m).length = m := by rw [List.length_take, List.length_drop]; omega
        have h1 : ¬ ((i : Int) < 0) := by omega
        have h2 : ¬ ((f.now.length : Int) < (i : Int)) := by omega
        have h3 : ¬ ((c : Int) < 0) := by omega
        clear hbad e1 hm htk
        go_enter Try.func36, Try.ntmps36
        go_wp2_with (first | (go_at_call 46; refine HSH.out.mono ?_; rintro e w5 ⟨rfl, rfl⟩) | (go_at_call 42; refine HC.out.mono ?_; rintro e w5 ⟨rfl, rfl⟩))
        · have hm0 : m = 0 := by omega
          subst hm0
          refine (clone_bytes w _ 0 [] (show Rd w 1 (.slice na 0 0) 0 [] from ⟨na, 0, rfl, Nat.le_refl _, Nat.zero_le _, rfl, .inl ⟨rfl, fun _ => rfl⟩⟩) (by simp) (by omega)).mono ?_
          rintro e w5 ⟨v', rfl, hrow, hb, hvb⟩
          have HR := Lib.hid hrow
          clear hrow
          go_wp2
          go_ret2
          exact ⟨v', rfl, hb, by rw [List.take_zero]; exact HR.out, fun k e => (hvb k e).1⟩
        · refine (clone_bytes w _ m (((f.now.drop i).take m).map bv) (sub_rd HV.out i m hil hml) (bv_oneCell _) (by omega)).mono ?_
          rintro e w5 ⟨v', rfl, hrow, hb, hvb⟩
          have HR := Lib.hid hrow
          clear hrow
          go_wp2
          go_ret2
          refine ⟨v', rfl, hb, ?_, fun k e => (hvb k e).1⟩
          unfold OwnB
          rw [hlm]
          exact HR.out

theorem read_at {g : Gh} {w : World} {p : Nat} {d : PD} (h : DiskAt g w p d) (hsm : Small d) (s : ByteArray) (hs : s.size ≤ maxLen) (a n : Int) :
    Calls Try.prog 36 #[.pointer (some ⟨p, 0, none⟩), .string s, .int .i64 a, .int .i64 n] w fun e w' => ∃ v, e = .returned (.tuple #[v, .int .i64 ((d.read s.data.toList a n).2 : Int)]) ∧ Below w.heap.size w w' ∧ RdB w' v (d.read s.data.toList a n).1 ∧ (∀ k, v.ownBlock = some k → w.heap.size ≤ k) := by
  refine (read_at2 h hsm s hs a n).mono ?_
  rintro e w' ⟨v, rfl, h1, h2, h3⟩
  exact ⟨v, rfl, h1, h2.read, h3⟩
end Go.Proofs.Ytfeogoihkpclcaa

/-
  A disk of a statement's own: the calls that XDiskOn has not; bytes that were told and are held.
-/
namespace Go.Proofs.Ytfeogoihkpclcaa
open Go.RowKit

theorem on_wrote {W w : World} {p : Nat} {g : Gh} {r : Nat × PD} (hb : Below W.heap.size W w) (hF : ∀ k, g.F k → W.heap.size ≤ k) {f : Nat} {args : Array Value} (h : Calls Try.prog f args w (Wrote g w p r)) : Calls Try.prog f args w fun e w' => e = .returned (.int .i64 (r.1 : Int)) ∧ On W w' p r.2 := by
  refine h.mono ?_
  rintro e w' ⟨rfl, g', k1, k2⟩
  exact ⟨rfl, on_step hb hF k1 k2⟩

theorem on_safe {W w : World} {p : Nat} {d : PD} (h : On W w p d) (hsm : Small d) (hcl : d.calls + 1 < 10000) (s : ByteArray) (hs : s.size ≤ maxLen) (r : Nat) (d' : PD) (he : d.makeSafe s.data.toList = (r, d')) :
    Calls Try.prog 19 #[.pointer (some ⟨p, 0, none⟩), .string s] w fun e w' => e = .returned (.int .i64 (r : Int)) ∧ On W w' p d' := by
  obtain ⟨g, h1, h2, h3⟩ := h
  have hm := safe_at h1 hsm hcl s hs
  rw [he] at hm
  refine hm.mono ?_
  rintro e w' ⟨rfl, g', k1, k2⟩
  exact ⟨rfl, on_step h2 h3 k1 k2⟩

theorem on_move {W w : World} {p : Nat} {d : PD} (h : On W w p d) (hsm : Small d) (hcl : d.calls + 1 < 10000) (s t : ByteArray) (hs : s.size ≤ maxLen) (ht : t.size ≤ maxLen) (r : Nat) (d' : PD) (he : d.move s.data.toList t.data.toList = (r, d')) :
    Calls Try.prog 30 #[.pointer (some ⟨p, 0, none⟩), .string s, .string t] w fun e w' => e = .returned (.int .i64 (r : Int)) ∧ On W w' p d' := by
  obtain ⟨g, h1, h2, h3⟩ := h
  have hm := move_at h1 hsm hcl s t hs ht
  rw [he] at hm
  exact on_wrote h2 h3 hm

theorem on_names {W w : World} {p : Nat} {d : PD} (h : On W w p d) (hsm : Small d) (hnd : (d.names.map (·.2)).Nodup) (hcl : d.calls + 1 < 10000) (r : Nat) (d' : PD) (he : d.nameSafe = (r, d')) :
    Calls Try.prog 34 #[.pointer (some ⟨p, 0, none⟩)] w fun e w' => e = .returned (.int .i64 (r : Int)) ∧ On W w' p d' := by
  obtain ⟨g, h1, h2, h3⟩ := h
  have hm := names_at h1 hsm hnd hcl
  rw [he] at hm
  exact on_wrote h2 h3 hm

theorem on_size {W w : World} {p : Nat} {d : PD} (h : On W w p d) (hsm : Small d) (s : ByteArray) (hs : s.size ≤ maxLen) (n : Nat) (ok : Bool) (he : d.size s.data.toList = (n, ok)) :
    Calls Try.prog 38 #[.pointer (some ⟨p, 0, none⟩), .string s] w fun e w' => e = .returned (.tuple #[.int .i64 (n : Int), .bool ok]) ∧ w = w' := by
  obtain ⟨g, h1, h2, h3⟩ := h
  have hm := size_at h1 hsm s hs
  rw [he] at hm
  exact hm

theorem on_down {W w : World} {p : Nat} {d : PD} (h : On W w p d) : Calls Try.prog 13 #[.pointer (some ⟨p, 0, none⟩)] w fun e w' => e = .returned (.bool d.down) ∧ w = w' := by
  obtain ⟨g, h1, _⟩ := h
  exact down_any w p d.down (blk_cell h1.blk)

theorem on_calls {W w : World} {p : Nat} {d : PD} (h : On W w p d) (n : Nat) (hn : d.calls = n) : Calls Try.prog 15 #[.pointer (some ⟨p, 0, none⟩)] w fun e w' => e = .returned (.int .i64 (n : Int)) ∧ w = w' := by
  obtain ⟨g, h1, _⟩ := h
  rw [← hn]
  exact calls_any w p (d.calls : Int) (blk_cell h1.blk)

theorem on_files {W w : World} {p : Nat} {d : PD} (h : On W w p d) (hsm : Small d) (l : List (List UInt8 × List UInt8 × Nat)) (hl : d.list = l) :
    Calls Try.prog 11 #[.pointer (some ⟨p, 0, none⟩)] w fun e w' => ∃ va vc, e = .returned (.slice va l.length vc) ∧ On W w' p d ∧ Rd w' 3 (.slice va l.length vc) l.length (fiCells l) := by
  obtain ⟨g, h1, h2, h3⟩ := h
  refine (files_at h1 hsm).mono ?_
  rw [hl]
  rintro e w' ⟨v, rfl, k1, k2⟩
  have hr := rd_of_own k1
  obtain ⟨va, vc, rfl, _, _⟩ := rd_of_own k1
  exact ⟨va, vc, rfl, ⟨g, h1.below k2, h2.trans (k2.mono h2.size), h3⟩, hr⟩

/-- .. and the bytes 'l', that were told, can be read. -/
def OnR (W w : World) (p : Nat) (d : PD) (v : Value) (l : List UInt8) : Prop := ∃ g, DiskAt g w p d ∧ Below W.heap.size W w ∧ (∀ k, g.F k → W.heap.size ≤ k) ∧ RdB w v l ∧ (l ≠ [] → ∀ k, v.ownBlock = some k → ¬ g.F k)

theorem OnR.on {W w : World} {p : Nat} {d : PD} {v : Value} {l : List UInt8} (h : OnR W w p d v l) : On W w p d := by
  obtain ⟨g, h1, h2, h3, _⟩ := h
  exact ⟨g, h1, h2, h3⟩
theorem OnR.rd {W w : World} {p : Nat} {d : PD} {v : Value} {l : List UInt8} (h : OnR W w p d v l) : RdB w v l := by
  obtain ⟨g, _, _, _, h, _⟩ := h
  exact h

theorem RdB.blk_lt {w : World} {v : Value} {l : List UInt8} (h : RdB w v l) (hne : l ≠ []) : ∀ k, v.ownBlock = some k → k < w.heap.size := by
  intro k e
  obtain ⟨a, cap, rfl, h1, h2, h0, h3⟩ := h
  rcases h3 with h3 | ⟨b, off, rfl, h4, h5⟩
  · exact absurd (List.eq_nil_of_length_eq_zero h3.1) hne
  · cases e; exact h4

theorem onr_step {W w w' : World} {p : Nat} {d' : PD} {g g' : Gh} {v : Value} {l : List UInt8} (hb : Below W.heap.size W w) (hF : ∀ k, g.F k → W.heap.size ≤ k) (hr : RdB w v l) (hv : l ≠ [] → ∀ k, v.ownBlock = some k → ¬ g.F k) (hd : DiskAt g' w' p d') (hs : Step g g' w w') : OnR W w' p d' v l := by
  obtain ⟨g2, h1, h2, h3⟩ := on_step hb hF hd hs
  refine ⟨g', hd, ?_, ?_, ?_, ?_⟩
  · exact h2
  · intro k hk
    rcases hs.new k hk with h | h
    · exact hF k h
    · have := hb.size; omega
  · exact rdB_kept hr hs.touch fun hne k e hk => ⟨hk, hv hne k e⟩
  · intro hne k e hk
    rcases hs.new k hk with h | h
    · exact hv hne k e h
    · have := hr.blk_lt hne k e; omega

theorem on_read {W w : World} {p : Nat} {d : PD} (h : On W w p d) (hsm : Small d) (s : ByteArray) (hs : s.size ≤ maxLen) (a n : Int) (l : List UInt8) (r : Nat) (he : d.read s.data.toList a n = (l, r)) :
    Calls Try.prog 36 #[.pointer (some ⟨p, 0, none⟩), .string s, .int .i64 a, .int .i64 n] w fun e w' => ∃ va vc, e = .returned (.tuple #[.slice va l.length vc, .int .i64 (r : Int)]) ∧ OnR W w' p d (.slice va l.length vc) l := by
  obtain ⟨g, h1, h2, h3⟩ := h
  have hm := read_at h1 hsm s hs a n
  rw [he] at hm
  refine hm.mono ?_
  rintro e w' ⟨v, rfl, k1, k2, k3⟩
  obtain ⟨va, vc, rfl, _, _⟩ := RdB.form k2
  exact ⟨va, vc, rfl, g, h1.below k1, h2.trans (k1.mono h2.size), h3, k2, fun _ k e hF => by have := k3 k e; have := h1.olt k hF; omega⟩

/-- A Read while other bytes are held. -/
theorem onr_read {W w : World} {p : Nat} {d : PD} {vh : Value} {lh : List UInt8} (h : OnR W w p d vh lh) (hsm : Small d) (s : ByteArray) (hs : s.size ≤ maxLen) (a n : Int) (l : List UInt8) (r : Nat) (he : d.read s.data.toList a n = (l, r)) :
    Calls Try.prog 36 #[.pointer (some ⟨p, 0, none⟩), .string s, .int .i64 a, .int .i64 n] w fun e w' => ∃ va vc, e = .returned (.tuple #[.slice va l.length vc, .int .i64 (r : Int)]) ∧ OnR W w' p d vh lh ∧ RdB w' (.slice va l.length vc) l := by
  obtain ⟨g, h1, h2, h3, hr, hv⟩ := h
  have hm := read_at h1 hsm s hs a n
  rw [he] at hm
  refine hm.mono ?_
  rintro e w' ⟨v, rfl, k1, k2, k3⟩
  obtain ⟨va, vc, rfl, _, _⟩ := RdB.form k2
  exact ⟨va, vc, rfl, ⟨g, h1.below k1, h2.trans (k1.mono h2.size), h3, hr.below k1 (Nat.le_refl _), hv⟩, k2⟩

theorem on_fallR {W w : World} {p : Nat} {d : PD} {vh : Value} {lh : List UInt8} (h : OnR W w p d vh lh) (w2 : World) (hb : Below w.heap.size w w2) (room crash names : Int) (done : Bool) (kv : Value) (keep : List Int) (hnn : (Lit.int .i64 names).wf = true) (hkw : ∀ v ∈ keep, (Lit.int .i64 v).wf = true) (hkl : keep.length < 1000000)
    (hkv : (kv = .slice none 0 0 ∧ keep = []) ∨ ∃ kb cap, kv = .slice (some ⟨kb, 0, none⟩) keep.length cap ∧ 0 < keep.length ∧ w.heap.size ≤ kb ∧ kb < w2.heap.size ∧ ∀ (i : Nat) (v : Int), keep[i]? = some v → w2.cell? ⟨kb, i, none⟩ = some (.int .i64 v))
    (hsm : ∀ k, Small (d.redone k)) (hsm2 : ∀ k, Small ((d.redone (rest names d.loose.length)).fell keep k)) (hnd : ((d.redone (rest names d.loose.length)).names.map (·.2)).Nodup) (d' : PD)
    (hd' : (((d.redone (rest names d.loose.length)).fell keep (d.redone (rest names d.loose.length)).names.length).settled).begun room crash done = d') :
    Calls Try.prog 20 #[.pointer (some ⟨p, 0, none⟩), .agg #[.int .i64 room, .int .i64 crash, .bool done, kv, .int .i64 names]] w2 fun e w' => e = .returned (.tuple #[]) ∧ OnR W w' p d' vh lh := by
  obtain ⟨g, h1, h2, h3, hr, hv⟩ := h
  have hi : IntsAt g w2 kv keep := by
    rcases hkv with h | ⟨kb, cap, e1, e2, e3, e4, e5⟩
    · exact .inl ⟨_, _, h.1, h.2⟩
    · exact .inr ⟨kb, 0, cap, e1, e2, e4, fun hF => by have := h1.olt kb hF; omega, fun i v hv => by rw [Nat.zero_add]; exact e5 i v hv⟩
  have hm := fall_at (h1.below hb) room crash names done kv keep hnn hkw hkl hi hsm hsm2 hnd
  rw [hd'] at hm
  refine hm.mono ?_
  rintro e w' ⟨rfl, g', k1, k2⟩
  exact ⟨rfl, onr_step (h2.trans (hb.mono h2.size)) h3 (hr.below hb (Nat.le_refl _)) hv k1 k2⟩

theorem On.toR {W w : World} {p : Nat} {d : PD} (h : On W w p d) : OnR W w p d (.slice none 0 0) [] := by
  obtain ⟨g, h1, h2, h3⟩ := h
  exact ⟨g, h1, h2, h3, Rd.nil _ _, fun h => absurd rfl h⟩
end Go.Proofs.Ytfeogoihkpclcaa

/-
  The walk of the statement DiskFull.
-/
namespace Go.Proofs.Ytfeogoihkpclcaa
open Go.RowKit

def fw (l : List UInt8) : PF := ⟨[], wr [] 0 l, [(0, l)]⟩
def fS (r : Int) (c : Nat) (fa fb : PF) : PD := ⟨r, 0, false, c, false, [fa, fb], [([97], 0), ([98], 1)], [], [⟨0, [], [97], 0⟩, ⟨0, [], [98], 1⟩]⟩
def fT (r : Int) (c : Nat) (fa fb : PF) : PD := ⟨r, 0, false, c, false, [fa, fb], [([98], 1)], [], [⟨0, [], [97], 0⟩, ⟨0, [], [98], 1⟩, ⟨2, [97], [], 0⟩]⟩
def f1 (r : Int) : PD := ⟨r, 0, false, 1, false, [PF.new], [([97], 0)], [], [⟨0, [], [97], 0⟩]⟩

theorem fw_len (l : List UInt8) : (fw l).now.length = l.length := by simp [fw, wr]

theorem f_make1 (r : Int) : (PD.new r 0 false).make [97] = (0, f1 r) := by kernel_rfl
theorem f_make2 (r : Int) : (f1 r).make [98] = (0, fS r 2 PF.new PF.new) := by kernel_rfl
theorem no_crash {d : PD} (h : d.crash = 0) : d.dn = false := by
  unfold PD.dn
  rw [h]
  exact decide_eq_false (by omega)
theorem err_none {d : PD} (h : d.crash = 0) : d.err = 0 := by unfold PD.err; rw [no_crash h]; rfl
theorem after_none {d : PD} (h : d.crash = 0) (f : PD → PD) : d.after f = f { d with calls := d.calls + 1, down := false } := by unfold PD.after PD.isdo PD.cnt; rw [no_crash h]; rfl

/-- A write from the beginning of a file on, of a disk that is up. -/
theorem write_zero {d : PD} {n : List UInt8} {id u : Nat} {l : List UInt8} (hd : d.down = false) (hc : d.crash = 0) (hf : dfind d.names n = some id) (hu : d.used = u) (hl : l.length ≤ 300) :
    d.write n 0 l = if d.room < (u : Int) + max 0 ((l.length : Int) - ((d.file id).now.length : Int)) then (6, d) else (0, { d with calls := d.calls + 1, down := false, files := d.files.set id ((d.file id).wrote 0 l) }) := by
  unfold PD.write
  rw [hf, hu, hd, if_neg (by simp)]
  dsimp only
  rw [if_neg (by omega), if_neg (by omega), Int.zero_add, err_none hc, after_none hc]
  rfl

theorem f_writeA (r : Int) (la : List UInt8) (hl : la.length ≤ 300) : (fS r 2 PF.new PF.new).write [97] 0 la = if (la.length : Int) ≤ r then (0, fS r 3 (fw la) PF.new) else (6, fS r 2 PF.new PF.new) := by
  have e1 : dfind (fS r 2 PF.new PF.new).names [97] = some 0 := by kernel_rfl
  have e2 : (fS r 2 PF.new PF.new).used = 0 := by kernel_rfl
  rw [write_zero rfl rfl e1 e2 hl]
  have e3 : (((fS r 2 PF.new PF.new).file 0).now.length : Int) = 0 := rfl
  have e4 : (fS r 2 PF.new PF.new).room = r := rfl
  rw [e3, e4]
  by_cases h : (la.length : Int) ≤ r
  · rw [if_neg (by omega), if_pos h]
    rfl
  · rw [if_pos (by omega), if_neg h]

theorem f_writeB (r : Int) (c u : Nat) (fa : PF) (hu : fa.now.length = u) (lb : List UInt8) (hl : lb.length ≤ 300) : (fS r c fa PF.new).write [98] 0 lb = if (u : Int) + (lb.length : Int) ≤ r then (0, fS r (c + 1) fa (fw lb)) else (6, fS r c fa PF.new) := by
  have e1 : dfind (fS r c fa PF.new).names [98] = some 1 := by kernel_rfl
  have e2 : (fS r c fa PF.new).used = u := by rw [← hu]; rfl
  rw [write_zero rfl rfl e1 e2 hl]
  have e3 : (((fS r c fa PF.new).file 1).now.length : Int) = 0 := rfl
  have e4 : (fS r c fa PF.new).room = r := rfl
  rw [e3, e4]
  by_cases h : (u : Int) + (lb.length : Int) ≤ r
  · rw [if_neg (by omega), if_pos h]
    rfl
  · rw [if_pos (by omega), if_neg h]

theorem f_gone (r : Int) (c : Nat) (fa fb : PF) : (fS r c fa fb).gone [97] = (0, fT r (c + 1) fa fb) := by
  have e1 : dfind (fS r c fa fb).names [97] = some 0 := by kernel_rfl
  unfold PD.gone
  rw [e1, err_none rfl, after_none rfl]
  rfl

theorem f_writeG (r : Int) (c : Nat) (fa fb : PF) (lb : List UInt8) (hl : lb.length ≤ 300) (hv : fb.now.length = 0 ∨ fb.now.length = lb.length) : ∃ d', (fT r c fa fb).write [98] 0 lb = (if (lb.length : Int) ≤ r then 0 else 6, d') := by
  have e1 : dfind (fT r c fa fb).names [98] = some 1 := by kernel_rfl
  have e2 : (fT r c fa fb).used = fb.now.length := by show fb.now.length + 0 = _; omega
  rw [write_zero rfl rfl e1 e2 hl]
  have e3 : (((fT r c fa fb).file 1).now.length : Int) = fb.now.length := rfl
  have e4 : (fT r c fa fb).room = r := rfl
  rw [e3, e4]
  by_cases h : (lb.length : Int) ≤ r
  · rw [if_neg (by omega), if_pos h]
    exact ⟨_, rfl⟩
  · rw [if_pos (by omega), if_neg h]
    exact ⟨_, rfl⟩

def FOk (f : PF) : Prop := f.safe.length < 2000000 ∧ f.now.length < 2000000 ∧ f.loose.length < 10000 ∧ manyL f.loose < 900000000 ∧ WOk f.safe f.loose ∧ ∀ left, (kept f.loose left f.safe).length < 2000000
theorem fok_new : FOk PF.new := ⟨by decide, by decide, by decide, by decide, trivial, fun left => by simp [PF.new, kept]⟩
theorem fok_fw (l : List UInt8) (hl : l.length ≤ 300) : FOk (fw l) := by
  refine ⟨by simp [fw], by rw [fw_len]; omega, by simp [fw], by simp [fw, manyL]; omega, ⟨Nat.zero_le _, trivial⟩, fun left => ?_⟩
  simp only [fw, kept]
  split
  · simp
  · simp [wr]; omega
theorem fs_ch : ∀ c ∈ [(⟨0, [], [97], 0⟩ : PC), ⟨0, [], [98], 1⟩, ⟨2, [97], [], 0⟩], ChOk c := by
  intro c hc
  simp only [List.mem_cons, List.not_mem_nil, or_false] at hc
  rcases hc with rfl | rfl | rfl <;> exact ⟨by decide, by decide, by decide, by decide⟩
theorem f0_small (r : Int) : Small (PD.new r 0 false) := ⟨by simp [PD.new], by simp [PD.new], by simp [PD.new], by simp [PD.new], by simp [PD.new], by simp [PD.new], by simp [PD.new], by simp [PD.new], by simp [PD.new], by simp [PD.new], by simp [PD.new]⟩
theorem f1_small (r : Int) : Small (f1 r) := ⟨by simp [f1], by simp [f1], by simp [f1], by simp [f1], by simp [f1], by simp [f1], by simp [f1], fun c hc => fs_ch c (by simp [f1] at hc; simp [hc]), fun f hf => by simp [f1] at hf; subst hf; exact fok_new, by simp [f1], by simp [f1]⟩
theorem fS_small (r : Int) (c : Nat) (fa fb : PF) (hc : c < 100) (ha : FOk fa) (hb : FOk fb) : Small (fS r c fa fb) := ⟨by simp [fS], by simp [fS], by simp [fS], by simp [fS], by simp [fS]; omega, by simp [fS], by simp [fS], fun c hc => fs_ch c (by simp [fS] at hc; rcases hc with rfl | rfl <;> simp), fun f hf => by simp [fS] at hf; rcases hf with rfl | rfl; exact ha; exact hb, by simp [fS], by simp [fS]⟩
theorem fT_small (r : Int) (c : Nat) (fa fb : PF) (hc : c < 100) (ha : FOk fa) (hb : FOk fb) : Small (fT r c fa fb) := ⟨by simp [fT], by simp [fT], by simp [fT], by simp [fT], by simp [fT]; omega, by simp [fT], by simp [fT], fun c hc => fs_ch c hc, fun f hf => by simp [fT] at hf; rcases hf with rfl | rfl; exact ha; exact hb, by simp [fT], by simp [fT]⟩
end Go.Proofs.Ytfeogoihkpclcaa
