/-
  The walk of the statement FrameTurned.
-/
import Derived.Test.YtlhppbogkmljbaaFrameAwake
import Derived.Test.YtlhppbogkmljbaaFrameTurn
import Derived.Test.YtlhppbogkmljbaaByteXor
import Derived.Test.YtlhppbogkmljbaaLift
namespace Go.Proofs.Ytlhppbogkmljbaa
open Go.ChangeShapes Go.WideShapes Go.ChangeAt Go.RowKit

theorem xor_ne (d y : UInt8) (h : y ≠ 0) : d ^^^ y ≠ d := by
  intro e
  refine h ?_
  have : d ^^^ (d ^^^ y) = d ^^^ d := by rw [e]
  rwa [← UInt8.xor_assoc, UInt8.xor_self, UInt8.zero_xor] at this

set_option maxRecDepth 100000 in
set_option maxHeartbeats 2000000 in
theorem frameTurned_walk (v : Value) (l : List UInt8) (at_ by_ : Int) (W : World) (hv : RdB W v l) (ha : (Lit.int .u16 at_).wf = true) (hb : (Lit.int .u8 by_).wf = true) :
    Calls Try.prog 5 #[v, .int .u16 at_, .int .u8 by_] W fun e w' => e = .returned (.bool true) ∧ Below W.heap.size W w' := by
  have hab := bounds_u16 ha
  have hbb := bounds_u8 hb
  clear ha hb
  have h7 := Lib.hid (fun w => awake7_any w)
  obtain ⟨a, cap, rfl, hc1, hc2⟩ := hv.form
  unfold maxLen at hc2
  have HV := Lib.hid hv
  by_cases g1 : (500 : Int) < (l.length : Int)
  · clear hv
    go_enter Try.func5, Try.ntmps5
    go_wp2_with (go_at_call 6; refine (h7.out _).mono ?_; rintro e w1 ⟨rfl, hb1⟩)
    go_ret
    exact ⟨rfl, hb1⟩
  by_cases g2 : by_ = 0
  · subst g2
    clear hv
    go_enter Try.func5, Try.ntmps5
    go_wp2_with (go_at_call 6; refine (h7.out _).mono ?_; rintro e w1 ⟨rfl, hb1⟩)
    go_ret
    exact ⟨rfl, hb1⟩
  obtain ⟨y, rfl⟩ : ∃ y : UInt8, by_ = (y.toNat : Int) := by
    refine ⟨UInt8.ofNat by_.toNat, ?_⟩
    rw [UInt8.toNat_ofNat', Nat.mod_eq_of_lt (by omega)]
    omega
  have hy : y ≠ 0 := fun e => g2 (by rw [e]; rfl)
  have hne : ((y.toNat : Int) == 0) = false := by simp; exact fun e => hy (UInt8.toNat_inj.1 e)
  obtain ⟨n, rfl⟩ := Int.eq_ofNat_of_zero_le hab.1
  have hl1 : l.length ≤ 1048576 := by omega
  have e1 : frL l = frRaw l := by unfold frL; rw [if_pos hl1]
  have hp := fput_any W _ l hv (by omega)
  rw [e1] at hp
  have hfl := frRaw_length l
  obtain ⟨m, hm⟩ : ∃ m, m = n % (l.length + 4) := ⟨_, rfl⟩
  have hml : m < l.length + 4 := by rw [hm]; exact Nat.mod_lt _ (by omega)
  have hm1 : (n : Int) % ((l.length : Int) + 4) = (m : Int) := by rw [hm]; rfl
  have hm2 : (n : Int).tmod ((l.length : Int) + 4) = (m : Int) := by rw [Int.tmod_eq_emod_of_nonneg (by omega)]; exact hm1
  have hturn := frame_turned l hl1 (4 + m) (by omega) (by omega) ((frRaw l).getD (4 + m) 0 ^^^ y) (xor_ne _ y hy)
  have hset : ((frRaw l).set (4 + m) ((frRaw l).getD (4 + m) 0 ^^^ y)).length = l.length + 8 := by rw [List.length_set, hfl]
  have HP := Lib.hid hp
  have hnm : ((l.length : Int) + 8 != (l.length : Int) + 8) = false := by simp
  generalize frRaw l = f at *
  have HT := Lib.hid hturn
  have HSET := Lib.hid hset
  have HFL := Lib.hid hfl
  clear hv hp e1 hturn hset hm hbb g2 hy
  go_enter Try.func5, Try.ntmps5
  go_wp2_with fail
  refine HP.out.mono ?_
  rintro e w1 ⟨u, rfl, hu, hb1⟩
  obtain ⟨g, cap2, rfl, hBg, hg1, hg2⟩ := hu.place (by intro h; subst h; simp at hfl)
  unfold maxLen at hg2
  have HU := Lib.hid hu
  have HB1 := Lib.hid hb1
  have hc := hu.cellAt (4 + m) (by omega)
  have hf := hu.frozenAt (4 + m)
  have hst := hu.stored (4 + m) (f.getD (4 + m) 0 ^^^ y)
  have hxr := xor_u8 (f.getD (4 + m) 0) y
  generalize f.getD (4 + m) 0 = d at *
  have HST := Lib.hid hst
  have hbv : Value.int .u8 ((d.toNat ^^^ y.toNat : Nat) : Int) = bv (d ^^^ y) := by rw [← UInt8.toNat_xor]
  obtain ⟨w2, hw2⟩ : ∃ w2, w2 = w1.setCell ⟨g, 4 + m, none⟩ (bv (d ^^^ y)) := ⟨_, rfl⟩
  have HW2 := Lib.hid hw2
  have HBV := Lib.hid hbv
  have HB2 : Hid (Below W.heap.size W w2) := Lib.hid (by rw [hw2]; exact hb1.setCell hBg _)
  have HU2 : Hid (OwnB w2 W.heap.size 5 (.slice (some ⟨g, 0, none⟩) (f.set (4 + m) (d ^^^ y)).length cap2) (f.set (4 + m) (d ^^^ y))) := Lib.hid (by rw [hw2, List.length_set]; exact hst)
  clear hu hb1 hst hbv hw2
  have hfl2 := HFL.out
  rw [HSET.out] at HU2
  rw [hfl2] at *
  have HG := Lib.hid (fget_any w2 _ _ 0 HU2.out.read (by rw [HSET.out]; omega) (by omega))
  have HS := Lib.hid (fscan_any w2 _ _ HU2.out.read (by rw [HSET.out]; omega))
  generalize f.set (4 + m) (d ^^^ y) = f2 at *
  clear hfl2
  go_wp2_with fail
  rw [HBV.out, ← HW2.out]
  refine HG.out.mono ?_
  rintro e w3 (⟨_, rfl, hb3⟩ | ⟨p, hp, ho, _⟩)
  rotate_left
  · exact absurd ho (by rw [show p = 0 from by omega, HT.out]; simp)
  have HB3 := Lib.hid hb3
  have HS3 := Lib.hid (fscan_any w3 _ _ (HU2.out.read.below hb3 (Nat.le_refl _)) (by rw [HSET.out]; omega))
  clear hb3
  go_wp2_with fail
  refine HS3.out.mono ?_
  unfold ScanFr
  rw [scan_none HT.out]
  rintro e w4 ⟨x, rfl, hx, hb4⟩
  obtain ⟨xa, xc, rfl⟩ := own_slice hx
  have HB4 := Lib.hid hb4
  clear hx hb4
  go_wp2_with (go_at_call 6; refine (h7.out _).mono ?_; rintro e w5 ⟨rfl, hb5⟩; have HB5 := Lib.hid hb5; clear hb5)
  go_ret
  exact ⟨rfl, HB2.out.trans ((HB3.out.trans ((HB4.out.trans (HB5.out.mono HB4.out.size)).mono HB3.out.size)).mono HB2.out.size)⟩
end Go.Proofs.Ytlhppbogkmljbaa
