/-
  Read, where it tells an error ahead of the place: the disk is down, there is no such file.
-/
import Derived.Test.YtkobjbjakgfhcaaDiskNames
namespace Go.Proofs.Ytkobjbjakgfhcaa
open Go.RowKit

set_option maxRecDepth 100000 in
set_option maxHeartbeats 4000000 in
set_option linter.unusedSimpArgs false in
theorem read_err {g : Gh} {w : World} {p : Nat} {d : PD} (h : DiskAt g w p d) (hsm : Small d) (s : ByteArray) (hs : s.size ≤ maxLen) (a n : Int) (hno : d.down = true ∨ dfind d.names s.data.toList = none) :
    Calls Try.prog 20 #[.pointer (some ⟨p, 0, none⟩), .string s, .int .i64 a, .int .i64 n] w fun e w' => e = .returned (.tuple #[.slice none 0 0, .int .i64 (if d.down then 7 else 2)]) ∧ w = w' := by
  have c4 : w.cell? ⟨p, 4, none⟩ = some (.bool d.down) := blk_cell h.blk
  cases hdn : d.down with
  | true =>
    rw [hdn] at c4
    have HSH := Lib.hid (shut_any w p true c4)
    clear hsm hdn c4 h hno
    go_enter Try.func20, Try.ntmps20
    go_wp2_with (go_at_call 47; refine HSH.out.mono ?_; rintro e w5 ⟨rfl, rfl⟩)
    go_ret2
    exact ⟨rfl, rfl⟩
  | false =>
    rw [hdn] at c4
    have HSH := Lib.hid (shut_any w p false c4)
    rcases find_at h s hs hsm.idn with ⟨hf, hcall⟩ | ⟨id, fb, cap, x, f, hf, _⟩
    · have HC := Lib.hid hcall
      have hq := eqf_nil2
      clear hcall hf hsm hdn c4 h hno
      go_enter Try.func20, Try.ntmps20
      go_wp2_with (first | (go_at_call 47; refine HSH.out.mono ?_; rintro e w5 ⟨rfl, rfl⟩) | (go_at_call 43; refine HC.out.mono ?_; rintro e w5 ⟨rfl, rfl⟩))
      go_ret2
      exact ⟨rfl, rfl⟩
    · rcases hno with e | e
      · rw [hdn] at e; cases e
      · rw [hf] at e; cases e
end Go.Proofs.Ytkobjbjakgfhcaa
