/-
  The walks of the statements of layer 1.
-/
import Derived.Test.YtemlonbcdaboeaaPut
import Derived.Test.YtemlonbcdaboeaaLift
namespace Go.Proofs.Ytemlonbcdaboeaa
open Go.ChangeShapes Go.WideShapes Go.ChangeAt Go.RowKit

set_option maxRecDepth 100000 in
set_option maxHeartbeats 400000 in
theorem numFixed_walk (a0 a1 : Int) (W : World) (w0 : (Lit.int .u64 a0).wf = true) (w1 : (Lit.int .u8 a1).wf = true) :
    Calls Try.prog 6 #[.int .u64 a0, .int .u8 a1] W fun e w' => e = .returned (.bool true) ∧ Below W.heap.size W w' := by
  have b0 := bounds_u64 w0
  have b1 := bounds_u8 w1
  obtain ⟨m, k, hk1, hk7, e1, e2, hm, hm'⟩ := fixed_arg a0 a1 b0 b1
  have E1 := Lib.hid e1
  have E2 := Lib.hid e2
  clear e1 e2
  go_enter Try.func6, Try.ntmps6
  go_wp2_with fail
  rw [E2.out, E1.out]
  clear E2 E1 b0 w0
  refine (fixed_yes m k ⟨hk1, by omega⟩ _).mono ?_
  rintro e w1 ⟨v, rfl, hown, hb⟩
  have hrd := hown.read
  have hlen := fixL_length (m : Int) k
  have hval := valL_fixL m k hm
  have hhead := fixL_head m k hk1 hm
  obtain ⟨l, hl⟩ : ∃ l, l = fixL (m : Int) k := ⟨_, rfl⟩
  rw [← hl] at hrd hlen hval hhead
  clear hl hown
  have hget : Calls Try.prog 13 #[v, .int .i64 0, .int .i64 k] w1 fun e w' => e = .returned (.tuple #[.int .i64 (m : Int), .bool true]) ∧ w1 = w' := by
    have h := getFixed_yes v l 0 k ⟨hk1, hk7⟩ (by omega) w1 hrd
    rw [List.drop_zero, List.take_of_length_le (by omega), hval] at h
    exact h
  obtain ⟨b, off, cap, rfl, hc1, hc2, hbw, hcell⟩ := hrd.cells (by intro h; subst h; simp at hlen; omega)
  obtain ⟨c, hc⟩ : ∃ c, c = l.getD 0 0 := ⟨_, rfl⟩
  have c0 : w1.cell? ⟨b, off, none⟩ = some (.int .u8 (c.toNat : Int)) := by rw [hc]; exact hcell 0 (by omega)
  have hx : (m : Int) / 2 ^ (8 * (k - 1)) = (c.toNat : Int) := by rw [hc, hhead, show (8 * ((k : Int) - 1)).toNat = 8 * (k - 1) from by omega]
  have hcb := byte_le c
  rw [hlen] at hget hc1
  rw [hlen]
  have HG := Lib.hid hget
  clear hget hlen hval hhead hcell hrd hc
  have hk0 : 0 < k := hk1
  unfold maxLen at hc2
  go_wp2_with fail
  refine HG.out.mono ?_
  rintro e w2 ⟨rfl, rfl⟩
  clear HG
  go_wp2_with fail
  refine (awake_any _).mono ?_
  rintro e w2 ⟨rfl, hb2⟩
  go_wp2
  go_ret
  exact ⟨rfl, hb.trans (hb2.mono hb.size)⟩
end Go.Proofs.Ytemlonbcdaboeaa
