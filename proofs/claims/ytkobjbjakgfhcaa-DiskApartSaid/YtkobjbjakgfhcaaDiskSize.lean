/-
  Size.
-/
import Derived.Test.YtkobjbjakgfhcaaDiskGone
namespace Go.Proofs.Ytkobjbjakgfhcaa
open Go.RowKit

def PD.size (d : PD) (n : List UInt8) : Nat × Bool := match dfind d.names n with
  | none => (0, false)
  | some id => ((d.file id).now.length, true)

set_option maxRecDepth 100000 in
set_option maxHeartbeats 4000000 in
set_option linter.unusedSimpArgs false in
theorem size_at {g : Gh} {w : World} {p : Nat} {d : PD} (h : DiskAt g w p d) (hsm : Small d) (s : ByteArray) (hs : s.size ≤ maxLen) :
    Calls Try.prog 39 #[.pointer (some ⟨p, 0, none⟩), .string s] w fun e w' => e = .returned (.tuple #[.int .i64 ((d.size s.data.toList).1 : Int), .bool (d.size s.data.toList).2]) ∧ w = w' := by
  rcases find_at h s hs hsm.idn with ⟨hf, hcall⟩ | ⟨id, fb, cap, x, f, hf, _, _, _, hff, _, _, hfa, _, c1, _, _, hcall⟩
  · rw [show d.size s.data.toList = (0, false) by unfold PD.size; simp [hf]]
    dsimp only
    have HC := Lib.hid hcall
    have hq := eqf_nil2
    clear hcall hf hsm h
    go_enter Try.func39, Try.ntmps39
    go_wp2_with (go_at_call 43; refine HC.out.mono ?_; rintro e w5 ⟨rfl, rfl⟩)
    go_ret2
    exact ⟨rfl, rfl⟩
  · rw [show d.size s.data.toList = (f.now.length, true) by unfold PD.size PD.file; simp [hf, List.getD_eq_getElem?_getD, hff]]
    dsimp only
    obtain ⟨na, nc, hvn, _, _⟩ := RdB.form hfa.vn.read
    rw [hvn] at c1
    have HC := Lib.hid hcall
    have hq := eqf_nil
    clear hcall hf hsm h hfa hvn hff
    go_enter Try.func39, Try.ntmps39
    go_wp2_with (go_at_call 43; refine HC.out.mono ?_; rintro e w5 ⟨rfl, rfl⟩)
    go_ret2
    exact ⟨rfl, rfl⟩
end Go.Proofs.Ytkobjbjakgfhcaa
