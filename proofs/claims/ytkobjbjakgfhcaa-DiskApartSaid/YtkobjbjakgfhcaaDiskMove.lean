/-
  Move.
-/
import Derived.Test.YtkobjbjakgfhcaaDiskSize
namespace Go.Proofs.Ytkobjbjakgfhcaa
open Go.RowKit

def PD.moves (d : PD) (n m : List UInt8) : PD := { d with names := ren d.names ⟨1, n, m, 0⟩, loose := d.loose ++ [⟨1, n, m, 0⟩] }

def PD.move (d : PD) (n m : List UInt8) : Nat × PD :=
  if d.down then (7, d) else if !nmOk m then (1, d) else match dfind d.names n with
  | none => (2, d)
  | some _ => (d.err, d.after (·.moves n m))

set_option maxRecDepth 100000 in
set_option maxHeartbeats 4000000 in
set_option linter.unusedSimpArgs false in
theorem move1_at {g : Gh} {w : World} {p : Nat} {d : PD} (h : DiskAt g w p d) (hsm : Small d) (n m : List UInt8) (hn : n.length < 1000) (hm : m.length < 1000) (bd bn bm : Nat) (hbd : w.cell? ⟨bd, 0, none⟩ = some (.pointer (some ⟨p, 0, none⟩))) (hbn : w.cell? ⟨bn, 0, none⟩ = some (.string (strB n))) (hbm : w.cell? ⟨bm, 0, none⟩ = some (.string (strB m))) :
    Calls Try.prog 67 #[.pointer (some ⟨bd, 0, none⟩), .pointer (some ⟨bn, 0, none⟩), .pointer (some ⟨bm, 0, none⟩)] w fun e w' => e = .returned (.tuple #[]) ∧ ∃ g', DiskAt g' w' p (d.moves n m) ∧ Step g g' w w' := by
  have hch := change_at h ⟨1, n, m, 0⟩ ⟨by show 1 ≤ 2; omega, by show n.length < _; omega, by show m.length < _; omega, by show 0 < 1000000000000; omega⟩ hsm.nm (by have := hsm.loose; omega)
  have HCH := Lib.hid hch
  clear hch hsm h
  go_enter Try.func67, Try.ntmps67
  go_wp2_with (go_at_call 51; refine HCH.out.mono ?_; rintro e w5 ⟨rfl, g5, hd5, hst5, _⟩)
  go_end0
  exact ⟨rfl, g5, hd5, hst5⟩

theorem enters_move1 : Enters Try.prog 67 := enters_of Try.func67 (by kernel_rfl) rfl

set_option maxRecDepth 100000 in
set_option maxHeartbeats 4000000 in
set_option linter.unusedSimpArgs false in
theorem move_at {g : Gh} {w : World} {p : Nat} {d : PD} (h : DiskAt g w p d) (hsm : Small d) (hcl : d.calls + 1 < 10000) (s t : ByteArray) (hs : s.size ≤ maxLen) (ht : t.size ≤ maxLen) :
    Calls Try.prog 32 #[.pointer (some ⟨p, 0, none⟩), .string s, .string t] w (Wrote g w p (d.move s.data.toList t.data.toList)) := by
  obtain ⟨w1, hw1⟩ : ∃ w1, w1 = ((w.alloc (.cells #[.pointer (some ⟨p, 0, none⟩)] 28)).alloc (.cells #[.string s] 9)).alloc (.cells #[.string t] 9) := ⟨_, rfl⟩
  have hbel : Below w.heap.size w w1 := by subst hw1; exact (((Below.refl _ _).alloc (Nat.le_refl _) _).alloc (by simp) _).alloc (by simp; omega) _
  have hd1 : DiskAt g w1 p d := h.below hbel
  have hst1 : Step g g w w1 := Step.below hbel
  have hbd : w1.cell? ⟨w.heap.size, 0, none⟩ = some (.pointer (some ⟨p, 0, none⟩)) := by
    subst hw1
    rw [World.cell?_of_block (a := ⟨w.heap.size, 0, none⟩) (Below.heap_alloc _ _ _ (by simp; omega)), World.cell?_of_block (a := ⟨w.heap.size, 0, none⟩) (Below.heap_alloc _ _ _ (by simp)), blk_cell (heap_alloc_new w _)]
    rfl
  have hbn : w1.cell? ⟨w.heap.size + 1, 0, none⟩ = some (.string s) := by
    subst hw1
    rw [World.cell?_of_block (a := ⟨w.heap.size + 1, 0, none⟩) (Below.heap_alloc _ _ _ (by simp)), blk_cell (heap_new2 w _ _)]
    rfl
  have hbm : w1.cell? ⟨w.heap.size + 2, 0, none⟩ = some (.string t) := by
    subst hw1
    have := blk_cell (i := 0) (heap_alloc_new ((w.alloc (.cells #[.pointer (some ⟨p, 0, none⟩)] 28)).alloc (.cells #[.string s] 9)) (.cells #[.string t] 9))
    simpa using this
  have hwd : w1.heap.size = w.heap.size + 3 := by subst hw1; simp
  have c4 : w1.cell? ⟨p, 4, none⟩ = some (.bool d.down) := blk_cell hd1.blk
  have hnm := isName_any w1 t ht
  have Hw1 := Lib.hid hw1
  have hpw := blk_lt h.blk
  have hne : ¬ w.heap.size = p := by omega
  have hne' : ¬ w.heap.size + 1 = p := by omega
  have hne2 : ¬ w.heap.size + 2 = p := by omega
  cases hdn : d.down with
  | true =>
    rw [show d.move s.data.toList t.data.toList = (7, d) by unfold PD.move; simp [hdn]]
    rw [hdn] at c4
    have HSH := Lib.hid (shut_any w1 p true c4)
    clear hsm hdn c4 hbd hbn hbm hwd h hw1 hnm
    go_enter Try.func32, Try.ntmps32
    go_wp2_with (go_at_call 47; rw [← Hw1.out]; refine HSH.out.mono ?_; rintro e w5 ⟨rfl, rfl⟩)
    go_ret
    exact ⟨rfl, g, hd1, hst1⟩
  | false =>
    rw [hdn] at c4
    have HSH := Lib.hid (shut_any w1 p false c4)
    cases hok : nmOk t.data.toList with
    | false =>
      rw [show d.move s.data.toList t.data.toList = (1, d) by unfold PD.move; simp [hdn, hok]]
      rw [hok] at hnm
      have HNM := Lib.hid hnm
      have HOK := Lib.hid hok
      clear hnm hsm hdn c4 hwd h hw1 hok
      go_enter Try.func32, Try.ntmps32
      go_wp2_with (first | (go_at_call 47; rw [← Hw1.out]; refine HSH.out.mono ?_; rintro e w5 ⟨rfl, rfl⟩) | (go_at_call 48; refine HNM.out.mono ?_; rintro e w5 ⟨rfl, rfl⟩))
      go_ret
      exact ⟨rfl, g, hd1, hst1⟩
    | true =>
      rw [hok] at hnm
      have HNM := Lib.hid hnm
      have hlt : t.data.toList.length ≤ 40 := by
        unfold nmOk at hok
        simp only [Bool.and_eq_true, decide_eq_true_eq] at hok
        exact hok.2
      have HOK := Lib.hid hok
      clear hnm hok
      rcases find_at hd1 s hs hsm.idn with ⟨hf, hcall⟩ | ⟨id, fb, cap, x, f, hf, _, _, _, _, _, _, _, _, _, _, _, hcall⟩
      · rw [show d.move s.data.toList t.data.toList = (2, d) by unfold PD.move; simp [hdn, HOK.out, hf]]
        have HC := Lib.hid hcall
        have hq := eqf_nil2
        clear hcall hf hsm hdn c4 hwd h hw1 hlt
        go_enter Try.func32, Try.ntmps32
        go_wp2_with (first | (go_at_call 47; rw [← Hw1.out]; refine HSH.out.mono ?_; rintro e w5 ⟨rfl, rfl⟩) | (go_at_call 48; refine HNM.out.mono ?_; rintro e w5 ⟨rfl, rfl⟩) | (go_at_call 43; refine HC.out.mono ?_; rintro e w5 ⟨rfl, rfl⟩))
        go_ret
        exact ⟨rfl, g, hd1, hst1⟩
      · rw [show d.move s.data.toList t.data.toList = (d.err, d.after (·.moves s.data.toList t.data.toList)) by unfold PD.move; simp [hdn, HOK.out, hf]]
        have HC := Lib.hid hcall
        have hq := eqf_nil
        have hlen : s.data.toList.length < 1000 := hsm.nml _ (dfind_in hf)
        have hcn := counted (k := 67) (fst := #[]) (caps := #[.pointer (some ⟨w.heap.size, 0, none⟩), .pointer (some ⟨w.heap.size + 1, 0, none⟩), .pointer (some ⟨w.heap.size + 2, 0, none⟩)]) hd1 (by omega) enters_move1 (·.moves s.data.toList t.data.toList) rfl
          (fun _ w2 hd2 hk2 hs2 => move1_at hd2 (hsm.cnt hcl) s.data.toList t.data.toList hlen (by omega) w.heap.size (w.heap.size + 1) (w.heap.size + 2) ((hk2.cell (p := ⟨w.heap.size, 0, none⟩) ⟨by simp; omega, by simpa using hne⟩).trans hbd) ((hk2.cell (p := ⟨w.heap.size + 1, 0, none⟩) ⟨by simp; omega, by simpa using hne'⟩).trans hbn) ((hk2.cell (p := ⟨w.heap.size + 2, 0, none⟩) ⟨by simp; omega, by simpa using hne2⟩).trans hbm))
        have HCN := Lib.hid hcn
        clear hcall hf hcn hsm hdn c4 hwd h hw1 hlen hlt
        go_enter Try.func32, Try.ntmps32
        go_wp2_with (first | (go_at_call 47; rw [← Hw1.out]; refine HSH.out.mono ?_; rintro e w5 ⟨rfl, rfl⟩) | (go_at_call 48; refine HNM.out.mono ?_; rintro e w5 ⟨rfl, rfl⟩) | (go_at_call 43; refine HC.out.mono ?_; rintro e w5 ⟨rfl, rfl⟩) | (go_at_call 49; (with_reducible refine HCN.out.mono ?_); rintro e w5 ⟨rfl, g5, hd5, hst5⟩))
        go_ret
        exact ⟨rfl, g5, hd5, hst1.trans hst5⟩
end Go.Proofs.Ytkobjbjakgfhcaa
