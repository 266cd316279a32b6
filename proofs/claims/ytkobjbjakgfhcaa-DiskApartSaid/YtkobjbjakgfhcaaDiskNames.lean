/-
  Names.
-/
import Derived.Test.YtkobjbjakgfhcaaDiskMove
import Derived.Test.YtkobjbjakgfhcaaDiskSettleAll
namespace Go.Proofs.Ytkobjbjakgfhcaa
open Go.RowKit

def PD.nameSafe (d : PD) : Nat × PD := if d.down then (7, d) else (d.err, d.after PD.settled)

theorem enters_settle : Enters Try.prog 60 := enters_of Try.func60 (by kernel_rfl) rfl

set_option maxRecDepth 100000 in
set_option maxHeartbeats 4000000 in
set_option linter.unusedSimpArgs false in
theorem names_at {g : Gh} {w : World} {p : Nat} {d : PD} (h : DiskAt g w p d) (hsm : Small d) (hnd : (d.names.map (·.2)).Nodup) (hcl : d.calls + 1 < 10000) :
    Calls Try.prog 36 #[.pointer (some ⟨p, 0, none⟩)] w (Wrote g w p d.nameSafe) := by
  have c4 : w.cell? ⟨p, 4, none⟩ = some (.bool d.down) := blk_cell h.blk
  cases hdn : d.down with
  | true =>
    rw [show d.nameSafe = (7, d) by unfold PD.nameSafe; simp [hdn]]
    rw [hdn] at c4
    have HSH := Lib.hid (shut_any w p true c4)
    clear hsm hdn c4
    go_enter Try.func36, Try.ntmps36
    go_wp2_with (go_at_call 47; refine HSH.out.mono ?_; rintro e w5 ⟨rfl, rfl⟩)
    go_ret
    exact ⟨rfl, g, h, Step.refl _ _⟩
  | false =>
    rw [show d.nameSafe = (d.err, d.after PD.settled) by unfold PD.nameSafe; simp [hdn]]
    rw [hdn] at c4
    have HSH := Lib.hid (shut_any w p false c4)
    have hcn := counted (k := 60) (fst := #[.pointer (some ⟨p, 0, none⟩)]) (caps := #[]) h (by omega) enters_settle PD.settled rfl
      (fun _ w2 hd2 _ _ => settle_at hd2 (hsm.cnt hcl) hnd)
    have HCN := Lib.hid hcn
    clear hsm hdn c4 hcn
    go_enter Try.func36, Try.ntmps36
    go_wp2_with (first | (go_at_call 47; refine HSH.out.mono ?_; rintro e w5 ⟨rfl, rfl⟩) | (go_at_call 49; (with_reducible refine HCN.out.mono ?_); rintro e w5 ⟨rfl, g5, hd5, hst5⟩))
    go_ret
    exact ⟨rfl, g5, hd5, hst5⟩
end Go.Proofs.Ytkobjbjakgfhcaa
