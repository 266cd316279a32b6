import Derived.Test.YteeikmpfgbfeoaaMg11
import Derived.Test.YteeikmpfgbfeoaaMg07
import Derived.Test.YteeikmpfgbfeoaaMg03
import Derived.Deep.Cut
import Derived.Test.YteeikmpfgbfeoaaBase
import Derived.Test.YteeikmpfgbfeoaaRows
import Derived.ProofKit
import Derived.OpenShut
import Derived.ShutString
import Derived.ChangeOld

/-
  The walk of TableBack.
-/
namespace Go.Proofs.Yteeikmpfgbfeoaa
open Go.RowKit

set_option maxRecDepth 100000 in
set_option maxHeartbeats 1000000 in
theorem tableBack_walkC (HP : PutTC) (HA : AllTC) (HF : FindTC) (v0 : Value) (ns : List UInt8) (a1 a2 : Int) (bits : Nat) (a4 a5 : Int) (W : World) (w0 : RdB W v0 ns) (wa1 : (Lit.int .u8 a1).wf = true) (wa2 : (Lit.int .u8 a2).wf = true) (wa3 : (Lit.float .f64 bits).wf = true) (wa4 : (Lit.int .u8 a4).wf = true) (wa5 : (Lit.int .u8 a5).wf = true) :
    Calls Try.prog 3 #[v0, .int .u8 a1, .int .u8 a2, .float .f64 bits, .int .u8 a4, .int .u8 a5] W fun r w' => r = .returned (.bool true) ∧ Below W.heap.size W w' := by
  have HAW := Lib.hid (awake13_any HP HA)
  have n1 := bounds_u8 wa1
  have n2 := bounds_u8 wa2
  have n4 := bounds_u8 wa4
  have n5 := bounds_u8 wa5
  have HWB := Lib.hid wa3
  obtain ⟨sp, rfl⟩ : ∃ n : Nat, a1 = (n : Int) := ⟨a1.toNat, by omega⟩
  obtain ⟨pp, rfl⟩ : ∃ n : Nat, a2 = (n : Int) := ⟨a2.toNat, by omega⟩
  obtain ⟨us, rfl⟩ : ∃ n : Nat, a4 = (n : Int) := ⟨a4.toNat, by omega⟩
  obtain ⟨sq, rfl⟩ : ∃ n : Nat, a5 = (n : Int) := ⟨a5.toNat, by omega⟩
  clear wa1 wa2 wa3 wa4 wa5
  obtain ⟨va, vc, rfl, hc1, hc2⟩ := w0.form
  unfold maxLen at hc2
  have HV0 := Lib.hid w0
  clear w0
  by_cases c0 : ns.length = 0
  · have d0 : ((ns.length : Int) == 0) = true := by rw [c0]; rfl
    clear c0
    go_enter Try.func3, Try.ntmps3
    go_wp2_with (go_at_call 7; (refine (HAW.out _).mono ?_); rintro e w9 ⟨rfl, hb9⟩)
    go_ret
    exact ⟨rfl, hb9⟩
  · have d0 : ((ns.length : Int) == 0) = false := by
      have : (ns.length : Int) ≠ 0 := by omega
      simpa using this
    by_cases c1 : 120 < ns.length
    · have d1 : decide ((120 : Int) < (ns.length : Int)) = true := by simp; omega
      have d1n : decide (120 < ns.length) = true := by simp; omega
      clear c0
      go_enter Try.func3, Try.ntmps3
      go_wp2_with (go_at_call 7; (refine (HAW.out _).mono ?_); rintro e w9 ⟨rfl, hb9⟩)
      go_ret
      exact ⟨rfl, hb9⟩
    · have d1 : decide ((120 : Int) < (ns.length : Int)) = false := by simp; omega
      have d1n : decide (120 < ns.length) = false := by simp; omega
      have hne : ns ≠ [] := fun h => c0 (by rw [h]; rfl)
      have HMK := Lib.hid (make12_any _ ns sp (by omega) W HV0.out (by omega))
      have hm := mayT_mk sp hne (by omega)
      have HFT := Lib.hid (mk_fits ns sp)
      have HLL := Lib.hid (show (mkB ns sp).length < 1000000 by have := hm.2.2; omega)
      generalize mkB ns sp = L at *
      clear c0 c1 hne
      -- the User that is sought
      obtain ⟨m, hmm⟩ : ∃ m, us % 50 = m := ⟨_, rfl⟩
      have m1 : (us : Int).tmod 50 = (m : Int) := by rw [Int.tmod_eq_emod_of_nonneg (by omega)]; omega
      have m2 : (us : Int) % 50 = (m : Int) := by omega
      have hml : m < 50 := by omega
      clear hmm
      have HDI := Lib.hid (rdigits_any m (by omega))
      have hdl := digL_len m
      obtain ⟨ku, hku⟩ : ∃ ku, (⟨#[107, 101, 121]⟩ : ByteArray) ++ strB (digL m) = ku := ⟨_, rfl⟩
      have hks : ku.size ≤ 1000 := by
        rw [← hku, ByteArray.size_append, strB_size]
        show 3 + (digL m).length ≤ 1000
        omega
      have hlim : ¬ 9223372036854775807 < 3 + (digL m).length := by omega
      -- how many entries a block has
      obtain ⟨k, hkk⟩ : ∃ k, 1 + pp % 64 = k := ⟨_, rfl⟩
      have k1 : 1 + (pp : Int).tmod 64 = (k : Int) := by rw [Int.tmod_eq_emod_of_nonneg (by omega)]; omega
      have k2 : 1 + (pp : Int) % 64 = (k : Int) := by omega
      have k3 : IntKind.i64.wrap (1 + (pp : Int) % 64) = (k : Int) := by rw [IntWalk.i64_in _ (by omega)]; omega
      have hk1 : 1 ≤ k := by omega
      have hk2 : k ≤ 64 := by omega
      clear hkk
      obtain ⟨au, as_, ak, av, ab, hN, hFN⟩ := ansF_N (newest L ku (sq : Int))
      have HPU : Hid (∀ v w, OwnE w 0 v L → ∀ fb, (Lit.float .f64 fb).wf = true → Calls Try.prog 13 #[v, .int .i64 (k : Int), .float .f64 fb] w fun e w' => ∃ x, e = .returned (.tuple #[x, .int .i64 0]) ∧ RdB w' x (tableL L k (makeL (hashes (usersL L)) fb)) ∧ Below w.heap.size w w') := Lib.hid fun v w ho fb hb => by
        refine (put_yes HP (ho.read HFT.out) hm hk1 hk2 hb).mono ?_
        rintro e w' ⟨x, rfl, ho, h⟩
        exact ⟨x, rfl, ho.read, h⟩
      have HAL : Hid (∀ v w fb, RdB w v (tableL L k (makeL (hashes (usersL L)) fb)) → Calls Try.prog 14 #[v] w fun e w' => ∃ x, e = .returned (.tuple #[x, .int .i64 0]) ∧ OwnE w' 0 x L ∧ Below w.heap.size w w') := Lib.hid fun v w fb hv => by
        have hf := makeF_few L fb (by have := hm.2.2; omega)
        refine (HA v _ w hv (table_small hm hk1 hk2 hf).2).mono ?_
        rintro e w' ⟨x, rfl, ho, hb⟩
        rw [entsT_put hm hk1 hk2 hf] at ho
        exact ⟨x, by rw [errT_put hm hk1 hk2 hf], own_base ho fun _ _ => Nat.zero_le _, hb⟩
      have HFI : Hid (∀ v w fb, RdB w v (tableL L k (makeL (hashes (usersL L)) fb)) → Calls Try.prog 15 #[v, .string ku, .int .i64 (sq : Int)] w fun e w' => e = .returned (.tuple #[.agg #[.string au, .int .i64 as_, .int .i64 ak, .string av], .bool ab, .int .i64 0]) ∧ Below w.heap.size w w') := Lib.hid fun v w fb hv => by
        have hf := makeF_few L fb (by have := hm.2.2; omega)
        have h := HF v _ ku (sq : Int) w hv (table_small hm hk1 hk2 hf).2 hks (by simp only [Lit.wf, IntKind.min, IntKind.max, IntKind.signed, IntKind.bits]; simp; omega)
        rw [find_own hm hk1 hk2, hFN] at h
        exact h
      have HNW : Hid (∀ v w, OwnE w 0 v L → Calls Try.prog 12 #[v, .string ku, .int .i64 (sq : Int)] w fun e w' => e = .returned (.tuple #[.agg #[.string au, .int .i64 as_, .int .i64 ak, .string av], .bool ab]) ∧ Below w.heap.size w w') := Lib.hid fun v w ho => by
        rw [← hN]
        exact rnewest_any ho ku (sq : Int)
      clear hm hN hFN hdl hks
      go_enter Try.func3, Try.ntmps3
      go_wp2_with (first | (go_at_call 7; (refine (HAW.out _).mono ?_); rintro e w9 ⟨rfl, hb9⟩) | (go_at_call 8; (refine HMK.out.mono ?_); rintro e w1 ⟨x1, rfl, ho1, hb1⟩; obtain ⟨l1, c1, rfl, _, _⟩ := ho1.form; have HO1 := Lib.hid (show OwnE w1 0 (.slice l1 L.length c1) L from own_base ho1 fun _ _ => Nat.zero_le _); have HB1 : Hid (Below W.heap.size W w1) := Lib.hid hb1; clear ho1 hb1) | (go_at_call 9; (refine (mathNaN_any _).mono ?_); rintro e w11 ⟨rfl, rfl⟩) | (go_at_call 10; (refine (mathInf_one _).mono ?_); rintro e w11 ⟨rfl, rfl⟩) | (go_at_call 11; (refine (HDI.out _).mono ?_); rintro e w3 ⟨rfl, hb3⟩; have D13 := Lib.hid (belowT ((Below.refl _ w1).alloc (Nat.le_refl _) (.cells #[.float .f64 bits, .float .f64 nanD, .float .f64 infD, .float .f64 0, .float .f64 4613937818241073152] 23)) hb3); have HFR := Lib.hid ((hb3.block w1.heap.size (by simp)).trans (heap_alloc_new w1 (.cells #[.float .f64 bits, .float .f64 nanD, .float .f64 infD, .float .f64 0, .float .f64 4613937818241073152] 23))); clear hb3) | (go_at_call 12; (refine (HNW.out _ _ (HO1.out.below D13.out)).mono ?_); rintro e w4 ⟨rfl, hb4⟩; have D34 := Lib.hid hb4; clear hb4))
      obtain ⟨w7, hw7⟩ : ∃ w7, w7 = w4.alloc (.cells #[.string au, .int .i64 as_, .int .i64 ak, .string av] 34) := ⟨_, rfl⟩
      rw [← hw7]
      have HWN := Lib.hid (show w7.heap[w4.heap.size]? = some (.cells #[.string au, .int .i64 as_, .int .i64 ak, .string av] 34 (0, 0)) by rw [hw7]; exact heap_alloc_new w4 _)
      have D47 := Lib.hid (show Below w4.heap.size w4 w7 by rw [hw7]; exact (Below.refl _ _).alloc (Nat.le_refl _) _)
      have HO7 := Lib.hid (HO1.out.below (belowT (belowT D13.out D34.out) D47.out))
      have HB7 := Lib.hid (belowT (belowT (belowT HB1.out D13.out) D34.out) D47.out)
      have HF7 := Lib.hid (((belowT D34.out D47.out).block w1.heap.size (blk_lt HFR.out)).trans HFR.out)
      obtain ⟨fsL, hfs⟩ : ∃ fsL : Nat → Nat, fsL = fun j => [bits, nanD, infD, 0, 4613937818241073152].getD j 0 := ⟨_, rfl⟩
      have HFJ0 : Hid (∀ wz, Below w7.heap.size w7 wz → ∀ j, j < 5 → wz.cell? ⟨w1.heap.size, j, none⟩ = some (.float .f64 (fsL j)) ∧ (Lit.float .f64 (fsL j)).wf = true) := Lib.hid fun wz hz j hj => by
        have h := (hz.block _ (blk_lt HF7.out)).trans HF7.out
        rw [blk_cell h, hfs]
        have hj5 : j = 0 ∨ j = 1 ∨ j = 2 ∨ j = 3 ∨ j = 4 := by omega
        rcases hj5 with rfl | rfl | rfl | rfl | rfl
        · exact ⟨rfl, HWB.out⟩
        · exact ⟨rfl, by kernel_rfl⟩
        · exact ⟨rfl, by kernel_rfl⟩
        · exact ⟨rfl, by kernel_rfl⟩
        · exact ⟨rfl, by kernel_rfl⟩
      clear hw7 hfs HF7 HFR HO1 HB1 D13 D34 D47
      go_loopw [18] (fun i wr => ∃ j : Nat, j ≤ 5 ∧ i = .int .i64 (j : Int) ∧ Hid (Below w7.heap.size w7 wr)) (fun i _ => 5 - (intOf i).toNat)
      case atStart => exact ⟨0, Nat.zero_le _, rfl, Lib.hid (Below.refl _ _)⟩
      case round =>
        obtain ⟨j, hj, rfl, HR⟩ := hrel
        by_cases hlt : j < 5
        · have g1 : decide ((j : Int) < 5) = true := by simp; omega
          have g2 : (j : Int) < 5 := by omega
          have HFJ := Lib.hid (HFJ0.out wr HR.out j hlt)
          have cj := HFJ.out.1
          have HOr := Lib.hid (HO7.out.below HR.out)
          have HWr := Lib.hid ((HR.out.block _ (blk_lt HWN.out)).trans HWN.out)
          go_wp2_with (first | (go_at_call 7; (refine (HAW.out _).mono ?_); rintro e w9 ⟨rfl, hb9⟩) | (go_at_call 16; (refine (num12_any _ _).mono ?_); rintro e w10 ⟨rfl, rfl⟩) | (go_at_call 13; (refine (HPU.out _ _ HOr.out (fsL j) HFJ.out.2).mono ?_); rintro e u1 ⟨x1, rfl, hr1, hb1⟩; obtain ⟨a1, b1, hx1, _, _⟩ := hr1.form; subst hx1; have HR1 := Lib.hid hr1; have E1 := Lib.hid hb1; clear hr1 hb1) | (go_at_call 14; (refine (HAL.out _ _ _ HR1.out).mono ?_); rintro e u2 ⟨x2, rfl, ho2, hb2⟩; have HO2 := Lib.hid ho2; have E2 := Lib.hid hb2; clear ho2 hb2) | (go_at_call 15; (refine (HFI.out _ _ _ (HR1.out.below E2.out (Nat.le_refl _))).mono ?_); rintro e u3 ⟨rfl, hb3⟩; have E3 := Lib.hid (belowT hb3 ((Below.refl _ u3).alloc (Nat.le_refl _) (.cells #[.string au, .int .i64 as_, .int .i64 ak, .string av] 34))); have HX3 := Lib.hid (heap_alloc_new u3 (.cells #[.string au, .int .i64 as_, .int .i64 ak, .string av] 34)); clear hb3) | (go_at_call 17; (refine (rsame_ent _ _ L _ HLL.out (HO2.out.below E3.out) (HOr.out.below (belowT (belowT E1.out E2.out) E3.out))).mono ?_); rintro e u4 ⟨rfl, hb4⟩; have E4 := Lib.hid hb4; have p6 := (hb4.block u3.heap.size (by simp)).trans HX3.out; have p7 := ((belowT (belowT (belowT E1.out E2.out) E3.out) hb4).block _ (blk_lt HWr.out)).trans HWr.out; have f0 := blk_cell (i := 0) p6; have f1 := blk_cell (i := 1) p6; have f2 := blk_cell (i := 2) p6; have f3 := blk_cell (i := 3) p6; have h0 := blk_cell (i := 0) p7; have h1 := blk_cell (i := 1) p7; have h2 := blk_cell (i := 2) p7; have h3 := blk_cell (i := 3) p7; clear hb4 p6 p7))
          exact ⟨⟨j + 1, hlt, by go_num, Lib.hid (belowT HR.out (belowT (belowT (belowT E1.out E2.out) E3.out) E4.out))⟩, by simp [intOf]; omega⟩
        · have g1 : decide ((j : Int) < 5) = false := by simp; omega
          go_wp2_with (first | (go_at_call 7; (refine (HAW.out _).mono ?_); rintro e w9 ⟨rfl, hb9⟩) | (go_at_call 16; (refine (num12_any _ _).mono ?_); rintro e w10 ⟨rfl, rfl⟩) | (go_at_call 13; (refine (HPU.out _ _ HOr.out (fsL j) HFJ.out.2).mono ?_); rintro e u1 ⟨x1, rfl, hr1, hb1⟩; obtain ⟨a1, b1, hx1, _, _⟩ := hr1.form; subst hx1; have HR1 := Lib.hid hr1; have E1 := Lib.hid hb1; clear hr1 hb1) | (go_at_call 14; (refine (HAL.out _ _ _ HR1.out).mono ?_); rintro e u2 ⟨x2, rfl, ho2, hb2⟩; have HO2 := Lib.hid ho2; have E2 := Lib.hid hb2; clear ho2 hb2) | (go_at_call 15; (refine (HFI.out _ _ _ (HR1.out.below E2.out (Nat.le_refl _))).mono ?_); rintro e u3 ⟨rfl, hb3⟩; have E3 := Lib.hid (belowT hb3 ((Below.refl _ u3).alloc (Nat.le_refl _) (.cells #[.string au, .int .i64 as_, .int .i64 ak, .string av] 34))); have HX3 := Lib.hid (heap_alloc_new u3 (.cells #[.string au, .int .i64 as_, .int .i64 ak, .string av] 34)); clear hb3) | (go_at_call 17; (refine (rsame_ent _ _ L _ HLL.out (HO2.out.below E3.out) (HOr.out.below (belowT (belowT E1.out E2.out) E3.out))).mono ?_); rintro e u4 ⟨rfl, hb4⟩; have E4 := Lib.hid hb4; have p6 := (hb4.block u3.heap.size (by simp)).trans HX3.out; have p7 := ((belowT (belowT (belowT E1.out E2.out) E3.out) hb4).block _ (blk_lt HWr.out)).trans HWr.out; have f0 := blk_cell (i := 0) p6; have f1 := blk_cell (i := 1) p6; have f2 := blk_cell (i := 2) p6; have f3 := blk_cell (i := 3) p6; have h0 := blk_cell (i := 0) p7; have h1 := blk_cell (i := 1) p7; have h2 := blk_cell (i := 2) p7; have h3 := blk_cell (i := 3) p7; clear hb4 p6 p7))
          go_ret
          exact ⟨rfl, belowT (belowT HB7.out HR.out) hb9⟩
end Go.Proofs.Yteeikmpfgbfeoaa

/-
  The walk of TableBack, on what is landed.
-/
namespace Go.Proofs.Yteeikmpfgbfeoaa
open Go.RowKit

theorem tableBack_walk (v0 : Value) (ns : List UInt8) (a1 a2 : Int) (bits : Nat) (a4 a5 : Int) (W : World) (w0 : RdB W v0 ns) (wa1 : (Lit.int .u8 a1).wf = true) (wa2 : (Lit.int .u8 a2).wf = true) (wa3 : (Lit.float .f64 bits).wf = true) (wa4 : (Lit.int .u8 a4).wf = true) (wa5 : (Lit.int .u8 a5).wf = true) :
    Calls Try.prog 3 #[v0, .int .u8 a1, .int .u8 a2, .float .f64 bits, .int .u8 a4, .int .u8 a5] W fun r w' => r = .returned (.bool true) ∧ Below W.heap.size W w' :=
  tableBack_walkC puttab_any all_any find_any v0 ns a1 a2 bits a4 a5 W w0 wa1 wa2 wa3 wa4 wa5
end Go.Proofs.Yteeikmpfgbfeoaa

/-
  How arguments are opened: a slice of bytes that came in reads as a list of bytes; a slice of integers as a list of integers.
-/
namespace Go.Proofs.Yteeikmpfgbfeoaa
open Go.ChangeShapes Go.WideShapes Go.ChangeAt Go.RowKit

/-- The slice 'v' reads as the integers 'zs' (each of them fits the kind 'k') in world 'w'. -/
def RdI (k : IntKind) (w : World) (v : Value) (zs : List Int) : Prop :=
  ∃ a cap, v = .slice a zs.length cap ∧ zs.length ≤ cap ∧ cap ≤ maxLen ∧ (∀ n ∈ zs, (Lit.int k n).wf = true) ∧
    ((zs = [] ∧ (a = none → cap = 0)) ∨ ∃ b off, a = some ⟨b, off, none⟩ ∧ b < w.heap.size ∧ ∀ i, i < zs.length → w.cell? ⟨b, off + i, none⟩ = some (.int k (zs.getD i 0)))

theorem rdI_open {H : Type} {enc : TypeId × Value → H} {P : Program} {w : World} {k : IntKind} {t e : TypeId} {base : Nat} {m : Nat} {spare : Nat → Bool} {held : Bool} {v : Value} {d : DataW H} {p : List MemPlace} (ht : P.underlying t = some (.slice e)) (he : P.underlying e = some (.int k)) (hc : P.cellsOf e = 1)
    (hok : Value.okWide P w .any base t v) (hd : DataW.Trod enc P w m spare held t v d p) : ∃ zs, RdI k w v zs := by
  obtain ⟨a, len, cap, rfl⟩ := okWide_slice ht hok
  obtain ⟨fuel, hf⟩ := hd
  rcases open_ints ht he hc hf with ⟨hcs, _⟩ | ⟨x, l, c, zs, hcs, _, hl, hm, hz, _, hcell, hwz⟩
  · simp [Value.cells] at hcs
    obtain ⟨rfl, rfl, rfl⟩ := hcs
    exact ⟨[], none, 0, rfl, Nat.le_refl _, Nat.zero_le _, by simp, .inl ⟨rfl, fun _ => rfl⟩⟩
  · simp [Value.cells] at hcs
    obtain ⟨rfl, rfl, rfl⟩ := hcs
    have hz' : len ≤ zs.length := by rw [hz]; split <;> omega
    have hlen : (zs.take len).length = len := by rw [List.length_take]; omega
    refine ⟨zs.take len, some x, cap, by rw [hlen], by rw [hlen]; exact hl, hm, fun n hn => hwz n (List.mem_of_mem_take hn), ?_⟩
    by_cases h0 : len = 0
    · left; subst h0; exact ⟨rfl, fun h => by cases h⟩
    · right
      obtain ⟨b, off, spot⟩ := x
      have hc0 := hcell 0 (by omega)
      have hspot : spot = none := by simpa [Addr.add] using World.cell?_spot hc0
      subst hspot
      refine ⟨b, off, rfl, World.block_lt_of_cell? w _ hc0, fun i hi => ?_⟩
      have hi' : i < len := by omega
      have h1 := hcell i (by omega)
      have hadd : (⟨b, off, none⟩ : Addr).add i = ⟨b, off + i, none⟩ := by unfold Addr.add; split <;> simp_all
      rw [hadd] at h1
      rw [h1]
      simp [List.getD, hi']

theorem RdI.bytes {w : World} {v : Value} {zs : List Int} (h : RdI .u8 w v zs) : ∃ l, RdB w v l := by
  obtain ⟨a, cap, rfl, h1, h2, h3, h4⟩ := h
  have key : ∀ (zs : List Int), (∀ n ∈ zs, (Lit.int .u8 n).wf = true) → ∃ l : List UInt8, l.map (fun c => (c.toNat : Int)) = zs := by
    intro zs
    induction zs with
    | nil => exact fun _ => ⟨[], rfl⟩
    | cons z zs ih =>
      intro h
      obtain ⟨l, hl⟩ := ih fun n hn => h n (List.mem_cons_of_mem _ hn)
      have hz := bounds_u8 (h z (List.mem_cons_self ..))
      refine ⟨UInt8.ofNat z.toNat :: l, ?_⟩
      rw [List.map_cons, hl, UInt8.toNat_ofNat', Nat.mod_eq_of_lt (by omega)]
      congr 1
      omega
  obtain ⟨l, rfl⟩ := key zs h3
  simp only [List.length_map] at h1 h4 ⊢
  refine ⟨l, a, cap, rfl, h1, h2, by simp, ?_⟩
  rcases h4 with ⟨h4, h5⟩ | ⟨b, off, rfl, h5, h6⟩
  · left; exact ⟨by simpa using h4, h5⟩
  · refine .inr ⟨b, off, rfl, h5, fun j u hj => ?_⟩
    have hj' : j < l.length := by
      rcases Nat.lt_or_ge j l.length with h | h
      · exact h
      · simp [List.getElem?_eq_none h] at hj
    rw [h6 j hj']
    simp [hj'] at hj
    simp [List.getD, hj', hj]

theorem rdB_open {H : Type} {enc : TypeId × Value → H} {P : Program} {w : World} {t e : TypeId} {base : Nat} {m : Nat} {spare : Nat → Bool} {held : Bool} {v : Value} {d : DataW H} {p : List MemPlace} (ht : P.underlying t = some (.slice e)) (he : P.underlying e = some (.int .u8)) (hc : P.cellsOf e = 1)
    (hok : Value.okWide P w .any base t v) (hd : DataW.Trod enc P w m spare held t v d p) : ∃ l, RdB w v l :=
  let ⟨_, h⟩ := rdI_open ht he hc hok hd
  h.bytes
end Go.Proofs.Yteeikmpfgbfeoaa
