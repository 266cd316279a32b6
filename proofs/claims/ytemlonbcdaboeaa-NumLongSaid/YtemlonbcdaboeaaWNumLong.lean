/-
  The walk of the statement NumLong.
-/
import Derived.Test.YtemlonbcdaboeaaGet
import Derived.Test.YtemlonbcdaboeaaNumLongMath
import Derived.Test.YtemlonbcdaboeaaLift
namespace Go.Proofs.Ytemlonbcdaboeaa
open Go.ChangeShapes Go.WideShapes Go.ChangeAt Go.RowKit

set_option maxRecDepth 100000 in
theorem numLong_far (v : Value) (zs : List Int) (W : World) (hv : RdI .u64 W v zs) (hn : 60 < zs.length) :
    Calls Try.prog 7 #[v] W fun e w' => e = .returned (.bool true) ∧ Below W.heap.size W w' := by
  obtain ⟨a, cap, rfl, hc1, hc2, _⟩ := hv
  have g : (60 : Int) < (zs.length : Int) := by omega
  go_enter Try.func7, Try.ntmps7
  go_wp2_with fail
  refine (awake_any _).mono ?_
  rintro e w2 ⟨rfl, hb2⟩
  go_wp2
  go_ret
  exact ⟨rfl, hb2⟩

set_option maxRecDepth 100000 in
set_option maxHeartbeats 1600000 in
theorem numLong_near (v : Value) (zs : List Int) (W : World) (hv : RdI .u64 W v zs) (hn : zs.length ≤ 60) :
    Calls Try.prog 7 #[v] W fun e w' => e = .returned (.bool true) ∧ Below W.heap.size W w' := by
  obtain ⟨a, cap, rfl, hc1, hc2, hwf, hcell⟩ := hv
  have hzs : ∀ n ∈ zs, 0 ≤ n ∧ n ≤ 18446744073709551615 := fun n hn => bounds_u64 (hwf n hn)
  have hlen := longs_length zs
  have hms := longs_le zs hzs
  have hget := longs_get zs
  have hcat := catL_length (longs zs) hms
  obtain ⟨ms, hmse⟩ : ∃ ms, ms = longs zs := ⟨_, rfl⟩
  rw [← hmse] at hlen hms hget hcat
  have hround : ∀ k, k < zs.length → ∃ (z : Int) (m b off : Nat), a = some ⟨b, off, none⟩ ∧ b < W.heap.size ∧ W.cell? ⟨b, off + k, none⟩ = some (.int .u64 z) ∧ m = ms.getD k 0 ∧ (m : Int) ≤ 9223372036854775807 ∧ wrap64 (z / 2 ^ (1 + k % 60)) = (m : Int) := by
    intro k hk
    have hzb := hzs (zs.getD k 0) (by simp [List.getD, hk])
    have hlk := longK_le (zs.getD k 0) k hzb
    rcases hcell with ⟨h0, _⟩ | ⟨b, off, ha, hbw, hc⟩
    · subst h0; simp at hk
    · exact ⟨zs.getD k 0, ms.getD k 0, b, off, ha, hbw, hc k hk, rfl, by rw [hget k hk]; exact hlk.1, by rw [hget k hk]; exact hlk.2⟩
  have g : ¬ (60 : Int) < (zs.length : Int) := by omega
  have HR := Lib.hid hround
  have HG := Lib.hid (getL_cat ms hms)
  have HT := Lib.hid (catL_take ms)
  have HL := Lib.hid hlen
  have hcat' : (catL ms).length ≤ 540 := by omega
  clear hzs hms hget hlen hcell hwf hcat hmse hround
  unfold maxLen at hc2
  go_enter Try.func7, Try.ntmps7
  go_wp2_with fail
  go_loopw [3, 4] (fun b i wr => ∃ k : Nat, k ≤ zs.length ∧ i = .int .i64 k ∧ OwnB wr W.heap.size 5 b (catL (ms.take k)) ∧ Below W.heap.size W wr) (fun _ i _ => zs.length - (intOf i).toNat)
  case atStart => exact ⟨0, Nat.zero_le _, rfl, OwnB.nil _ _ _, Below.refl _ _⟩
  case round =>
    obtain ⟨k, hk, rfl, hown, hb⟩ := hrel
    by_cases hlt : k < zs.length
    · obtain ⟨z, m, b, off, ha, hbw, hce, hm, hmle, hmz⟩ := HR.out k hlt
      subst ha
      have hce' := (hb.cell (p := ⟨b, off + k, none⟩) hbw).trans hce
      have HM := Lib.hid hm
      have HZ := Lib.hid hmz
      clear hm hmz hce
      go_wp2_with fail
      rw [HZ.out]
      refine (put_nat m hmle _).mono ?_
      rintro e w1 ⟨pv, rfl, hp, hb1⟩
      have hpr := hp.read
      have hpl := putL_length_plen m
      have hp9 := putL_length m (by omega)
      obtain ⟨pa, pc, rfl, hpc1, hpc2⟩ := hpr.form
      unfold maxLen at hpc2
      have HPL := Lib.hid hpl
      clear hpl hce' HZ
      go_wp2
      go_loop [7, 8] (fun c x => ∃ (q y : Nat), c = .int .i64 q ∧ x = .int .i64 y ∧ q + plen y = (putL m).length) (fun _ x => (intOf x).toNat)
      case atStart => exact ⟨1, m / 128, rfl, by go_num, HPL.out.symm⟩
      case round =>
        obtain ⟨q, y, rfl, rfl, hq⟩ := hrel
        by_cases hy : 0 < y
        · have hq' : q + 1 + plen (y / 128) = (putL m).length := by rw [← hq, plen_pos y hy]; omega
          have HQ := Lib.hid hq'
          have hq9 : q ≤ 9 := by omega
          clear hq hq'
          go_wp2
          go_round
          case rel => exact ⟨q + 1, y / 128, by go_num, by go_num, HQ.out⟩
          case measure => simp [intOf]; omega
        · obtain rfl : y = 0 := by omega
          obtain rfl : q = (putL m).length := by simpa [plen_zero] using hq
          clear hq
          have hown1 : OwnB w1 W.heap.size 5 u3 (catL (ms.take k)) := hown.below hb1 (Nat.le_refl _)
          have hsz : W.heap.size ≤ w1.heap.size := Nat.le_trans hb.size hb1.size
          have hcl : (catL (ms.take k)).length ≤ 540 := by
            have := (HG.out k (by have := HL.out; omega)).1
            omega
          go_wp2_with (at_builtin; refine wpList_append_bytes rfl (.tmp 51) (.tmp 52) 22 rfl W.heap.size 5 Try.underlying22 info_u8 _ _ _ _ rfl rfl hown1 hpr hsz ?_ ?_)
          · omega
          · intro v' w' hown' hb'
            rw [HM.out, ← HT.out k (by have := HL.out; omega)] at hown'
            have hbb := hb' W.heap.size W (Nat.le_refl _) (hb.trans (hb1.mono hb.size))
            clear hown hown1 hp hpr
            go_wp2
            go_roundw
            case rel => exact ⟨k + 1, by omega, by go_num, hown', hbb⟩
            case measure => simp [intOf]; omega
    · obtain rfl : k = zs.length := by omega
      have hall : catL (ms.take zs.length) = catL ms := by rw [← HL.out, List.take_length]
      rw [hall] at hown
      have HALL := Lib.hid hall
      have hrd := hown.read
      obtain ⟨a3, c3, hu3, h31, h32⟩ := hrd.form
      subst hu3
      unfold maxLen at h32
      clear hall hown
      go_wp2_with fail
      go_loop [9, 10] (fun p i => ∃ k : Nat, k ≤ zs.length ∧ i = .int .i64 k ∧ p = .int .i64 (((catL (ms.take k)).length : Nat) : Int)) (fun _ i => zs.length - (intOf i).toNat)
      case atStart => exact ⟨0, Nat.zero_le _, rfl, rfl⟩
      case round =>
        obtain ⟨k, hk, rfl, rfl⟩ := hrel
        by_cases hlt : k < zs.length
        · obtain ⟨z, m, b, off, ha, hbw, hce, hm, hmle, hmz⟩ := HR.out k hlt
          subst ha
          have hce' := (hb.cell (p := ⟨b, off + k, none⟩) hbw).trans hce
          have hg := HG.out k (by have := HL.out; omega)
          have ht := HT.out k (by have := HL.out; omega)
          have hanswer : ans3 (getAt (catL ms) (((catL (ms.take k)).length : Nat) : Int)) = .tuple #[.int .i64 (m : Int), .int .i64 (((catL (ms.take (k + 1))).length : Nat) : Int), .bool true] := by
            rw [getAt_nat _ _ hg.1, hg.2, ht, List.length_append, hm]; rfl
          have HA := Lib.hid hanswer
          have hcalls := get_any _ _ (((catL (ms.take k)).length : Nat) : Int) wr hrd
          rw [hanswer] at hcalls
          have HC := Lib.hid hcalls
          clear hanswer hg ht hm hce hcalls
          go_wp2_with fail
          refine HC.out.mono ?_
          rintro e w2 ⟨rfl, rfl⟩
          clear HC HA
          go_wp2
          go_round
          case rel => exact ⟨k + 1, by omega, by go_num, rfl⟩
          case measure => simp [intOf]; omega
        · obtain rfl : k = zs.length := by omega
          go_wp2_with fail
          rw [HALL.out]
          refine (get_out _ _ _ (.inr (Int.le_refl _)) wr hrd).mono ?_
          rintro e w2 ⟨rfl, rfl⟩
          unfold ans3
          go_wp2_with fail
          refine (awake_any _).mono ?_
          rintro e w3 ⟨rfl, hb3⟩
          go_wp2
          go_ret
          exact ⟨rfl, hb.trans (hb3.mono hb.size)⟩

theorem numLong_walk (v : Value) (zs : List Int) (W : World) (hv : RdI .u64 W v zs) :
    Calls Try.prog 7 #[v] W fun e w' => e = .returned (.bool true) ∧ Below W.heap.size W w' := by
  by_cases hn : 60 < zs.length
  · exact numLong_far v zs W hv hn
  · exact numLong_near v zs W hv (by omega)
end Go.Proofs.Ytemlonbcdaboeaa
