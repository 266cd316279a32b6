/-
  Gone.
-/
import Derived.Test.YtkobjbjakgfhcaaDiskWrite
namespace Go.Proofs.Ytkobjbjakgfhcaa
open Go.RowKit

def PD.takes (d : PD) (n : List UInt8) : PD := { d with names := ren d.names ⟨2, n, [], 0⟩, loose := d.loose ++ [⟨2, n, [], 0⟩] }

def PD.gone (d : PD) (n : List UInt8) : Nat × PD :=
  if d.down then (7, d) else match dfind d.names n with
  | none => (2, d)
  | some _ => (d.err, d.after (·.takes n))

theorem dfind_in {l : DB} {n : List UInt8} {id : Nat} (h : dfind l n = some id) : (n, id) ∈ l := by
  unfold dfind at h
  obtain ⟨x, hx, rfl⟩ := Option.map_eq_some_iff.1 h
  have h1 := List.mem_of_find?_eq_some hx
  have h2 := List.find?_some hx
  have h3 : x.1 = n := by simpa using h2
  rw [← h3]
  exact h1

set_option maxRecDepth 100000 in
set_option maxHeartbeats 4000000 in
set_option linter.unusedSimpArgs false in
theorem gone1_at {g : Gh} {w : World} {p : Nat} {d : PD} (h : DiskAt g w p d) (hsm : Small d) (n : List UInt8) (hn : n.length < 1000) (bd bn : Nat) (hbd : w.cell? ⟨bd, 0, none⟩ = some (.pointer (some ⟨p, 0, none⟩))) (hbn : w.cell? ⟨bn, 0, none⟩ = some (.string (strB n))) :
    Calls Try.prog 68 #[.pointer (some ⟨bd, 0, none⟩), .pointer (some ⟨bn, 0, none⟩)] w fun e w' => e = .returned (.tuple #[]) ∧ ∃ g', DiskAt g' w' p (d.takes n) ∧ Step g g' w w' := by
  have hch := change_at h ⟨2, n, [], 0⟩ ⟨by show 2 ≤ 2; omega, by show n.length < _; omega, by show 0 < 1000000000; omega, by show 0 < 1000000000000; omega⟩ hsm.nm (by have := hsm.loose; omega)
  have HCH := Lib.hid hch
  clear hch hsm h
  go_enter Try.func68, Try.ntmps68
  go_wp2_with (go_at_call 51; refine HCH.out.mono ?_; rintro e w5 ⟨rfl, g5, hd5, hst5, _⟩)
  go_end0
  exact ⟨rfl, g5, hd5, hst5⟩

theorem enters_gone1 : Enters Try.prog 68 := enters_of Try.func68 (by kernel_rfl) rfl

set_option maxRecDepth 100000 in
set_option maxHeartbeats 4000000 in
set_option linter.unusedSimpArgs false in
theorem gone_at {g : Gh} {w : World} {p : Nat} {d : PD} (h : DiskAt g w p d) (hsm : Small d) (hcl : d.calls + 1 < 10000) (s : ByteArray) (hs : s.size ≤ maxLen) :
    Calls Try.prog 34 #[.pointer (some ⟨p, 0, none⟩), .string s] w (Wrote g w p (d.gone s.data.toList)) := by
  obtain ⟨w1, hw1⟩ : ∃ w1, w1 = (w.alloc (.cells #[.pointer (some ⟨p, 0, none⟩)] 28)).alloc (.cells #[.string s] 9) := ⟨_, rfl⟩
  have hbel : Below w.heap.size w w1 := by subst hw1; exact ((Below.refl _ _).alloc (Nat.le_refl _) _).alloc (by simp) _
  have hd1 : DiskAt g w1 p d := h.below hbel
  have hst1 : Step g g w w1 := Step.below hbel
  have hbd : w1.cell? ⟨w.heap.size, 0, none⟩ = some (.pointer (some ⟨p, 0, none⟩)) := by
    subst hw1
    rw [World.cell?_of_block (a := ⟨w.heap.size, 0, none⟩) (Below.heap_alloc _ _ _ (by simp)), blk_cell (heap_alloc_new w _)]
    rfl
  have hbn : w1.cell? ⟨w.heap.size + 1, 0, none⟩ = some (.string s) := by
    subst hw1
    rw [blk_cell (heap_new2 w _ _)]
    rfl
  have hwd : w1.heap.size = w.heap.size + 2 := by subst hw1; simp
  have c4 : w1.cell? ⟨p, 4, none⟩ = some (.bool d.down) := blk_cell hd1.blk
  have Hw1 := Lib.hid hw1
  have hpw := blk_lt h.blk
  have hne : ¬ w.heap.size = p := by omega
  have hne' : ¬ w.heap.size + 1 = p := by omega
  cases hdn : d.down with
  | true =>
    rw [show d.gone s.data.toList = (7, d) by unfold PD.gone; simp [hdn]]
    rw [hdn] at c4
    have HSH := Lib.hid (shut_any w1 p true c4)
    clear hsm hdn c4 hbd hbn hwd h hw1
    go_enter Try.func34, Try.ntmps34
    go_wp2_with (go_at_call 47; rw [← Hw1.out]; refine HSH.out.mono ?_; rintro e w5 ⟨rfl, rfl⟩)
    go_ret
    exact ⟨rfl, g, hd1, hst1⟩
  | false =>
    rw [hdn] at c4
    have HSH := Lib.hid (shut_any w1 p false c4)
    rcases find_at hd1 s hs hsm.idn with ⟨hf, hcall⟩ | ⟨id, fb, cap, x, f, hf, _, _, _, _, _, _, _, _, _, _, _, hcall⟩
    · rw [show d.gone s.data.toList = (2, d) by unfold PD.gone; simp [hdn, hf]]
      have HC := Lib.hid hcall
      have hq := eqf_nil2
      clear hcall hf hsm hdn c4 hwd h hw1
      go_enter Try.func34, Try.ntmps34
      go_wp2_with (first | (go_at_call 47; rw [← Hw1.out]; refine HSH.out.mono ?_; rintro e w5 ⟨rfl, rfl⟩) | (go_at_call 43; refine HC.out.mono ?_; rintro e w5 ⟨rfl, rfl⟩))
      go_ret
      exact ⟨rfl, g, hd1, hst1⟩
    · rw [show d.gone s.data.toList = (d.err, d.after (·.takes s.data.toList)) by unfold PD.gone; simp [hdn, hf]]
      have HC := Lib.hid hcall
      have hq := eqf_nil
      have hlen : s.data.toList.length < 1000 := hsm.nml _ (dfind_in hf)
      have hcn := counted (k := 68) (fst := #[]) (caps := #[.pointer (some ⟨w.heap.size, 0, none⟩), .pointer (some ⟨w.heap.size + 1, 0, none⟩)]) hd1 (by omega) enters_gone1 (·.takes s.data.toList) rfl
        (fun _ w2 hd2 hk2 hs2 => gone1_at hd2 (hsm.cnt hcl) s.data.toList hlen w.heap.size (w.heap.size + 1) ((hk2.cell (p := ⟨w.heap.size, 0, none⟩) ⟨by simp; omega, by simpa using hne⟩).trans hbd) ((hk2.cell (p := ⟨w.heap.size + 1, 0, none⟩) ⟨by simp; omega, by simpa using hne'⟩).trans hbn))
      have HCN := Lib.hid hcn
      clear hcall hf hcn hsm hdn c4 hwd h hw1 hlen
      go_enter Try.func34, Try.ntmps34
      go_wp2_with (first | (go_at_call 47; rw [← Hw1.out]; refine HSH.out.mono ?_; rintro e w5 ⟨rfl, rfl⟩) | (go_at_call 43; refine HC.out.mono ?_; rintro e w5 ⟨rfl, rfl⟩) | (go_at_call 49; (with_reducible refine HCN.out.mono ?_); rintro e w5 ⟨rfl, g5, hd5, hst5⟩))
      go_ret
      exact ⟨rfl, g5, hd5, hst1.trans hst5⟩
end Go.Proofs.Ytkobjbjakgfhcaa
