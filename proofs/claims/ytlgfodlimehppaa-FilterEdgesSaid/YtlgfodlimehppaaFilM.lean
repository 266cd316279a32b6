/-
  What is landed of package filter: what bytes say of a key.
-/
import Derived.Test.YtlgfodlimehppaaFilWalk
import Derived.Test.YtlgfodlimehppaaFixed
namespace Go.Proofs.Ytlgfodlimehppaa
open Go.RowKit Ieee

theorem and_pow_u8 (a t : Nat) (ha : a < 256) (ht : t < 8) : bits .and .u8 (a : Int) ((2 ^ t : Nat) : Int) = ((a / 2 ^ t % 2 * 2 ^ t : Nat) : Int) := by
  have hp : 2 ^ t < 256 := Nat.lt_of_lt_of_le (Nat.pow_lt_pow_right (by omega) ht) (by decide)
  have o : ∀ c : Nat, c < 256 → (BitVec.ofInt 8 (c : Int)).toNat = c := by
    intro c hc
    rw [BitVec.ofInt_natCast, BitVec.toNat_ofNat]
    exact Nat.mod_eq_of_lt (by omega)
  show IntKind.u8.wrap ((BitVec.ofInt 8 (a : Int) &&& BitVec.ofInt 8 ((2 ^ t : Nat) : Int)).toNat : Int) = _
  rw [BitVec.toNat_and, o a ha, o _ hp]
  have e : a &&& 2 ^ t = a / 2 ^ t % 2 * 2 ^ t := by
    apply Nat.eq_of_testBit_eq
    intro i
    rw [Nat.testBit_and, Nat.testBit_two_pow]
    have e2 : a.testBit t = decide (a / 2 ^ t % 2 = 1) := Nat.testBit_eq_decide_div_mod_eq
    by_cases hi : t = i
    · subst hi
      rw [e2]
      rcases Nat.mod_two_eq_zero_or_one (a / 2 ^ t) with h | h <;> rw [h] <;> simp
    · rcases Nat.mod_two_eq_zero_or_one (a / 2 ^ t) with h | h <;> rw [h] <;> simp [hi]
  rw [e, IntKind.wrap_u8]
  rcases Nat.mod_two_eq_zero_or_one (a / 2 ^ t) with h | h <;> rw [h]
  · rw [Nat.zero_mul]; rfl
  · rw [Nat.one_mul]
    generalize 2 ^ t = p at *
    omega

set_option maxRecDepth 100000 in
set_option maxHeartbeats 4000000 in
theorem may_any : MayC := by
  intro v f key hk w hv hl
  have HV := Lib.hid hv
  obtain ⟨a, cap, rfl, h1, h2, h0, h3⟩ := hv
  have hh := hashL_lt key.data.toList
  have HW := Lib.hid (walkOf_any key hk)
  generalize hashL key.data.toList = h at *
  have HSP := Lib.hid (fun (j m : Nat) (h1 : j ≤ 12) (h2 : 0 < m) (h3 : m ≤ 10000000) => spot_any (h := h) (m := m) (j := j) hh h1 h2 h3)
  unfold wayV at HSP HW
  obtain ⟨d, hd⟩ : ∃ d, rot17 h = d := ⟨_, rfl⟩
  rw [hd] at HSP HW
  clear hd
  unfold maxLen at *
  by_cases g1 : f.length < 2
  · have HR := Lib.hid (show mayL f h = true by unfold mayL; rw [if_pos g1])
    have hw1 : IntKind.i64.wrap ((f.length : Int) - 1) = (f.length : Int) - 1 := IntWalk.i64_in _ (by omega)
    have hw2 : (f.length : Int) - 1 < 1 := by omega
    clear h3 h0
    go_enter Try.func13, Try.ntmps13
    go_wp2
    go_step3
    go_wp2
    rw [Exit.noGoto_ret]
    go_ret
    exact ⟨mayret HR.out.symm, Below.refl _ _⟩
  · rcases h3 with ⟨h3, _⟩ | ⟨b, off, rfl, h4, h5⟩
    · omega
    · obtain ⟨m, hm⟩ : ∃ m, f.length = m + 1 := ⟨f.length - 1, by omega⟩
      have hbytes : ∀ i, i < m + 1 → w.cell? ⟨b, off + i, none⟩ = some (.int .u8 ((f.getD i 0).toNat : Int)) := fun i hi => by
        refine h5 i _ ?_
        rw [List.getElem?_map, List.getElem?_eq_getElem (by omega)]
        simp [List.getD, show i < f.length by omega, bv]
      have HBY := Lib.hid hbytes
      clear hbytes
      have hgf := getFixed_yes (.slice (some ⟨b, off, none⟩) f.length cap) f m 1 (by omega) (by omega) w HV.out
      have hval : valL ((f.drop m).take 1) = ((f.getD m 0).toNat : Int) := by
        rw [List.drop_eq_getElem_cons (by omega), List.take_succ_cons, List.take_zero]
        simp [valL, List.getD, show m < f.length by omega]
      rw [hval] at hgf
      have HGF := Lib.hid hgf
      have hnb := byte_le (f.getD m 0)
      have HML := Lib.hid (show mayL f h = if (f.getD m 0).toNat = 0 ∨ 12 < (f.getD m 0).toNat then true else (List.range (f.getD m 0).toNat).all fun j => hasBit f (bitX h m j) by
        unfold mayL
        rw [if_neg g1, hm, Nat.add_sub_cancel])
      clear hgf hval
      generalize (f.getD m 0).toNat = n at *
      rw [hm] at g1 h1 hl HGF ⊢
      clear h5 h0 hm
      have e1 : ((m + 1 : Nat) : Int) = (m : Int) + 1 := by omega
      have d1 : IntKind.i64.wrap ((m : Int) + 1 - 1) = (m : Int) := by rw [IntWalk.i64_in _ (by omega)]; omega
      have g1' : ¬ (m : Int) < 1 := by omega
      have hm1 : 0 < m := by omega
      by_cases g2 : n = 0
      · have HR := Lib.hid (show mayL f h = true by rw [HML.out, if_pos (.inl g2)])
        have g3 : (n : Int) = 0 := by omega
        clear HML
        subst g2
        go_enter Try.func13, Try.ntmps13
        go_wp2
        go_step3
        go_wp2_with (go_at_call 28; (refine HGF.out.mono ?_); rintro e w1 ⟨rfl, rfl⟩)
        rw [Exit.noGoto_ret]
        go_ret
        exact ⟨mayret HR.out.symm, Below.refl _ _⟩
      · have g3 : ¬ (n : Int) = 0 := by omega
        by_cases g4 : 12 < n
        · have HR := Lib.hid (show mayL f h = true by rw [HML.out, if_pos (.inr g4)])
          have g5 : 12 < (n : Int) := by omega
          clear HML
          go_enter Try.func13, Try.ntmps13
          go_wp2
          go_step3
          go_wp2_with (go_at_call 28; (refine HGF.out.mono ?_); rintro e w1 ⟨rfl, rfl⟩)
          rw [Exit.noGoto_ret]
          go_ret
          exact ⟨mayret HR.out.symm, Below.refl _ _⟩
        · have g4' : (n : Int) ≤ 12 := by omega
          have g6 : ¬ 12 < (n : Int) := by omega
          have f1 : ((n : Int) == 0) = false := by simpa using g3
          have f2 : decide ((12 : Int) < (n : Int)) = false := by simpa using g6
          clear g4
          have HR := Lib.hid (show mayL f h = (List.range n).all fun j => hasBit f (bitX h m j) by rw [HML.out, if_neg (by omega)])
          clear HML
          go_enter Try.func13, Try.ntmps13
          go_wp2
          go_step3
          go_wp2_with (first | (go_at_call 28; (refine HGF.out.mono ?_); rintro e w1 ⟨rfl, rfl⟩) | (go_at_call 24; (refine (HW.out _).mono ?_); rintro e w1 ⟨rfl, hbw⟩))
          obtain ⟨wB, hwB⟩ : ∃ wB, wB = w1.alloc (Obj.cells #[Value.int IntKind.u32 (h : Int), Value.int IntKind.u32 (d : Int)] 44) := ⟨_, rfl⟩
          have hEB : Below w.heap.size w wB := by
            rw [hwB]
            exact hbw.alloc hbw.size _
          have hbox : wB.heap[w1.heap.size]? = some (.cells #[.int .u32 (h : Int), .int .u32 (d : Int)] 44) := by
            rw [hwB]
            exact heap_alloc_new w1 _
          rw [← hwB]
          have hpB := blk_lt hbox
          have hB0 := hEB.size
          generalize w1.heap.size = p at *
          have HEB := Lib.hid hEB
          have HBOX := Lib.hid hbox
          clear hwB hEB hbox hbw w1
          go_step3
          go_wp2
          go_loopw [9, 33] (fun a i wr => ∃ j : Nat, j ≤ n ∧ a = .bool true ∧ i = .int .i64 (j : Int) ∧ Hid (∀ i, i < j → hasBit f (bitX h m i) = true) ∧ Hid (Below wB.heap.size wB wr)) (fun _ i _ => n - (intOf i).toNat)
          case atStart => exact ⟨0, Nat.zero_le _, rfl, rfl, Lib.hid (fun i hi => by omega), Lib.hid (Below.refl _ _)⟩
          case round =>
            obtain ⟨j, hj, rfl, rfl, HJ, HB⟩ := hrel
            by_cases hjn : j < n
            · have HW := Lib.hid (HEB.out.trans (HB.out.mono hB0))
              have hb0 := blk_cell (i := 0) ((HB.out.block p hpB).trans HBOX.out)
              have hb1 := blk_cell (i := 1) ((HB.out.block p hpB).trans HBOX.out)
              replace hb0 : wr.cell? ⟨p, 0, none⟩ = some (.int .u32 (h : Int)) := hb0
              replace hb1 : wr.cell? ⟨p, 1, none⟩ = some (.int .u32 (d : Int)) := hb1
              have hxl := bitX_lt (h := h) (m := m) (j := j) (by omega)
              have hsp := HSP.out j m (by omega) hm1 (by omega) wr
              obtain ⟨x, hxe⟩ : ∃ x, bitX h m j = x := ⟨_, rfl⟩
              have HXE := Lib.hid hxe
              rw [hxe] at hxl hsp
              clear hxe
              obtain ⟨q, hq⟩ : ∃ q, x / 8 = q := ⟨_, rfl⟩
              obtain ⟨t, ht⟩ : ∃ t, x % 8 = t := ⟨_, rfl⟩
              rw [hq, ht] at hsp
              have q3 : (q : Int) < (m : Int) + 1 := by omega
              have t3 : t < 8 := by omega
              have HCQ := Lib.hid (fun w2 (h2 : Below w.heap.size w w2) => (h2.cell (p := ⟨b, off + q, none⟩) h4).trans (HBY.out q (by omega)))
              have hcb := byte_le (f.getD q 0)
              have HHB := Lib.hid (show hasBit f x = ((f.getD q 0).toNat / 2 ^ t % 2 == 1) by unfold hasBit; rw [hq, ht])
              generalize (f.getD q 0).toNat = c at *
              have hand := and_pow_u8 c t (by omega) t3
              have hp2 : 0 < 2 ^ t := Nat.two_pow_pos t
              generalize 2 ^ t = P at *
              generalize hBi : (P : Int) = Bi at *
              have HSP2 := Lib.hid hsp
              clear hsp hq ht hBi
              generalize c / P = z at *
              by_cases hz : z % 2 = 1
              · have hb : (bits .and .u8 (c : Int) Bi == 0) = false := by
                  rw [hand, hz, Nat.one_mul]
                  have : ((P : Nat) : Int) ≠ 0 := by omega
                  simpa using this
                have HBt := Lib.hid (show hasBit f (bitX h m j) = true by rw [HXE.out, HHB.out, hz]; rfl)
                clear hand
                go_wp2_with (go_at_call 25; (refine HSP2.out.mono ?_); rintro e w2 ⟨rfl, hb2⟩; have hc2 := HCQ.out w2 (HW.out.trans (hb2.mono HW.out.size)))
                refine ⟨⟨j + 1, hjn, rfl, by go_num, Lib.hid fun i hi => ?_, Lib.hid (HB.out.trans (hb2.mono HB.out.size))⟩, by simp [intOf]; omega⟩
                rcases Nat.lt_or_ge i j with h1 | h1
                · exact HJ.out i h1
                · rw [show i = j by omega]; exact HBt.out
              · have hz0 : z % 2 = 0 := by omega
                have hb : (bits .and .u8 (c : Int) Bi == 0) = true := by
                  rw [hand, hz0, Nat.zero_mul]
                  rfl
                have HBt := Lib.hid (show hasBit f (bitX h m j) = false by rw [HXE.out, HHB.out, hz0]; rfl)
                clear hand
                go_wp2_with (go_at_call 25; (refine HSP2.out.mono ?_); rintro e w2 ⟨rfl, hb2⟩; have hc2 := HCQ.out w2 (HW.out.trans (hb2.mono HW.out.size)))
                rw [Exit.noGoto_ret]
                go_ret
                exact ⟨mayret (by rw [HR.out, may_no hjn HBt.out]), HW.out.trans (hb2.mono HW.out.size)⟩
            · have hje : j = n := by omega
              have HALL := Lib.hid (show mayL f h = true by rw [HR.out]; exact may_yes fun i hi => HJ.out i (by omega))
              clear hje
              go_wp2
              rw [Exit.noGoto_ret]
              go_ret
              exact ⟨mayret HALL.out.symm, HEB.out.trans (HB.out.mono hB0)⟩
end Go.Proofs.Ytlgfodlimehppaa
