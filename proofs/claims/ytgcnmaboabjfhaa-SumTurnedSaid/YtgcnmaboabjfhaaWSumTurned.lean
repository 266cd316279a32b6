/-
  The walk of the statement SumTurned.
-/
import Derived.Test.YtgcnmaboabjfhaaAwake3
import Derived.Test.YtgcnmaboabjfhaaLift
import Derived.Test.YtgcnmaboabjfhaaByteXor
namespace Go.Proofs.Ytgcnmaboabjfhaa
open Go.ChangeShapes Go.WideShapes Go.ChangeAt Go.RowKit

set_option maxRecDepth 100000 in
set_option maxHeartbeats 2000000 in
theorem sumTurned_walk (v : Value) (l : List UInt8) (at_ by_ : Int) (W : World) (hv : RdB W v l) (ha : (Lit.int .u16 at_).wf = true) (hb : (Lit.int .u32 by_).wf = true) :
    Calls Try.prog 4 #[v, .int .u16 at_, .int .u32 by_] W fun e w' => e = .returned (.bool true) ∧ Below W.heap.size W w' := by
  have hab := bounds_u16 ha
  have hbb := bounds_u32 hb
  clear ha hb
  have h5 := Lib.hid (fun w => awake3_any w)
  obtain ⟨a, cap, rfl, hc1, hc2⟩ := hv.form
  unfold maxLen at hc2
  by_cases g1 : (l.length : Int) < 4
  · go_enter Try.func4, Try.ntmps4
    go_wp2_with (go_at_call 7; refine (h5.out _).mono ?_; rintro e w1 ⟨rfl, rfl⟩)
    go_ret
    exact ⟨rfl, Below.refl _ _⟩
  by_cases g2 : (3000 : Int) < (l.length : Int)
  · go_enter Try.func4, Try.ntmps4
    go_wp2_with (go_at_call 7; refine (h5.out _).mono ?_; rintro e w1 ⟨rfl, rfl⟩)
    go_ret
    exact ⟨rfl, Below.refl _ _⟩
  by_cases g3 : by_ = 0
  · subst g3
    go_enter Try.func4, Try.ntmps4
    go_wp2_with (go_at_call 7; refine (h5.out _).mono ?_; rintro e w1 ⟨rfl, rfl⟩)
    go_ret
    exact ⟨rfl, Below.refl _ _⟩
  obtain ⟨x, rfl⟩ := Int.eq_ofNat_of_zero_le hbb.1
  obtain ⟨n, rfl⟩ := Int.eq_ofNat_of_zero_le hab.1
  have hal : Below W.heap.size W (W.alloc (.cells #[] 5)) := (Below.refl _ _).alloc (Nat.le_refl _) _
  have hne : ((x : Int) == 0) = false := by simp; omega
  go_enter Try.func4, Try.ntmps4
  go_wp2_with (at_builtin; refine wpList_append_bytes rfl (.tmp 23) (.tmp 24) 22 rfl W.heap.size 5 Try.underlying22 info_u8 _ _ [] l rfl rfl (OwnB.made W _ _ (Nat.le_refl _)) (hv.below hal (Nat.le_refl _)) hal.size (by simp; omega) ?_)
  intro c u1 ho1 hk1
  replace ho1 : OwnB u1 W.heap.size 5 c l := ho1
  have hx1 := hk1 W.heap.size W (Nat.le_refl _) hal
  clear hk1 hal
  obtain ⟨g, cap2, rfl, hBg, hg1, hg2⟩ := ho1.place (by intro h; subst h; simp at g1)
  unfold maxLen at hg2
  go_wp2
  obtain ⟨k, hkdef⟩ : ∃ k : Nat, k = n % (l.length - 3) := ⟨_, rfl⟩
  have hkm : k < l.length - 3 := by rw [hkdef]; exact Nat.mod_lt _ (by omega)
  have hki : (n : Int) % ((l.length : Int) - 3) = (k : Int) := by rw [hkdef, show (l.length : Int) - 3 = ((l.length - 3 : Nat) : Int) by omega]; rfl
  rw [hki]
  clear hki hkdef
  go_loopw [9] (fun i wr => ∃ m : Nat, m ≤ 4 ∧ i = .int .i64 m ∧ OwnB wr W.heap.size 5 (.slice (some ⟨g, 0, none⟩) l.length cap2) (turnL l k x m) ∧ Below W.heap.size W wr) (fun i _ => 4 - (intOf i).toNat)
  case atStart => exact ⟨0, Nat.zero_le _, rfl, ho1, hx1⟩
  case round =>
    obtain ⟨m, hm, rfl, ho, hb⟩ := hrel
    by_cases hm4 : m < 4
    · have hlen := turnL_length l k x m
      have hc := ho.cellAt (k + m) (by omega)
      have hf := ho.frozenAt (k + m)
      have hst := ho.stored (k + m) ((turnL l k x m).getD (k + m) 0 ^^^ UInt8.ofNat (x / 256 ^ m % 256))
      have hxr := xor_u8 ((turnL l k x m).getD (k + m) 0) (UInt8.ofNat (x / 256 ^ m % 256))
      rw [show (turnL l k x m).set (k + m) ((turnL l k x m).getD (k + m) 0 ^^^ UInt8.ofNat (x / 256 ^ m % 256)) = turnL l k x (m + 1) from rfl] at hst
      have hfix := fix_byte (x : Int) m
      have hfb : fixB (x : Int) m = UInt8.ofNat (x / 256 ^ m % 256) := by unfold fixB; congr 1
      rw [hfb] at hfix
      clear hfb
      generalize (turnL l k x m).getD (k + m) 0 = d at *
      generalize UInt8.ofNat (x / 256 ^ m % 256) = y at *
      go_wp2
      go_roundw
      case rel =>
        refine ⟨m + 1, by omega, by go_num, ?_, hb.setCell hBg _⟩
        rw [← UInt8.toNat_xor]
        exact hst
      case measure => simp [intOf]; omega
    · obtain rfl : m = 4 := by omega
      have hq : ((sumL l : Int) != (sumL (turnL l k x 4) : Int)) = true := by
        have := sumL_turnL l k x (by omega) (by omega) (by omega)
        simp
        omega
      have h1 := Lib.hid (sum_any _ l wr (hv.below hb (Nat.le_refl _)))
      have hlen := turnL_length l k x 4
      have hr := ho.read
      have h2 := sum_any _ (turnL l k x 4) wr hr
      generalize sumL (turnL l k x 4) = y at *
      generalize sumL l = z at *
      have H2 := Lib.hid h2
      clear h2 hr ho
      go_wp2_with fail
      refine h1.out.mono ?_
      rintro e w1 ⟨rfl, rfl⟩
      go_wp2_with fail
      refine H2.out.mono ?_
      rintro e w1 ⟨rfl, rfl⟩
      go_wp2_with fail
      refine (h5.out _).mono ?_
      rintro e w1 ⟨rfl, rfl⟩
      go_wp2_with fail
      go_ret
      exact ⟨rfl, hb⟩
end Go.Proofs.Ytgcnmaboabjfhaa
