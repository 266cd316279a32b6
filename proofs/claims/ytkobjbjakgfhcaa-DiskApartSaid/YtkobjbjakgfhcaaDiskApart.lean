/-
  The walk of the statement DiskApart.
-/
import Derived.Test.YtkobjbjakgfhcaaDiskPair
import Derived.Laws.BitsAllLaws
namespace Go.Proofs.Ytkobjbjakgfhcaa
open Go.RowKit

theorem xor_byte (c : UInt8) : ∃ x : UInt8, bits .xor .u8 (c.toNat : Int) 1 = (x.toNat : Int) := by
  have hc := c.toNat_lt
  have h := u8_xor_nat c.toNat 1 (by omega) (by decide)
  have hx : c.toNat ^^^ 1 < 2 ^ 8 := Nat.xor_lt_two_pow (by omega) (by decide)
  have e : (UInt8.ofNat (c.toNat ^^^ 1)).toNat = c.toNat ^^^ 1 := by rw [UInt8.toNat_ofNat']; exact Nat.mod_eq_of_lt hx
  exact ⟨UInt8.ofNat (c.toNat ^^^ 1), by rw [e]; exact h⟩

theorem made_ownA (w : World) (e size : Nat) : (w.alloc (.cells #[] e)).ownsRow w.heap.size e size (.slice (some ⟨w.heap.size, 0, none⟩) 0 0) 0 [] :=
  ⟨by simp, .inr ⟨w.heap.size, 0, #[], rfl, Nat.le_refl _, heap_alloc_new w _, Nat.le_refl _, Nat.zero_le _, by simp, by simp⟩⟩

theorem fmemA {f : PF} (h : FOk f) : ∀ g ∈ [f], FOk g := fun g hg => by simp at hg; subst hg; exact h
theorem wr_over (a b : List UInt8) (h : b.length = a.length) : wr a 0 b = b := by
  unfold wr
  rw [List.take_zero, List.nil_append, List.drop_eq_nil_of_le (by omega), List.append_nil]
theorem over_now (a b : List UInt8) (h : b.length = a.length) : ((fw a).wrote 0 b).now = b := by
  show wr (wr [] 0 a) 0 b = b
  rw [wr_zero, wr_over a b h]
theorem fok_over (a b : List UInt8) (h : b.length = a.length) (hl : a.length ≤ 300) : FOk ((fw a).wrote 0 b) := by
  refine fok_of ?_ (by rw [over_now a b h]; omega) ?_ ?_
  · simp [PF.wrote, fw, manyL]; omega
  · simp [PF.wrote, fw]
  · exact ⟨Nat.zero_le _, Nat.zero_le _, trivial⟩

set_option maxRecDepth 100000 in
set_option maxHeartbeats 8000000 in
set_option linter.unusedSimpArgs false in
theorem apart_main (va : Option Addr) (ca : Nat) (la : List UInt8) (W : World) (h1 : RdB W (.slice va la.length ca) la) (hne : la ≠ []) (l1 : la.length ≤ 300) :
    Calls Try.prog 4 #[.slice va la.length ca] W fun e w' => e = .returned (.bool true) ∧ Below W.heap.size W w' := by
  have hpos : 0 < la.length := List.length_pos_iff.2 hne
  obtain ⟨c0, hc0⟩ : ∃ c, la.getD 0 0 = c := ⟨_, rfl⟩
  have hb0 := byte_le c0
  obtain ⟨cx, hcx⟩ : ∃ cx : UInt8, bits .xor .u8 (c0.toNat : Int) 1 = (cx.toNat : Int) := xor_byte c0
  obtain ⟨lx, hlx⟩ : ∃ lx, lx = la.set 0 cx := ⟨_, rfl⟩
  have hll : lx.length = la.length := by rw [hlx, List.length_set]
  have hbx := byte_le cx
  have HN := Lib.hid (on_new W W (Below.refl _ _) 5000 0 0 false (.slice none 0 0))
  have HA := Lib.hid (fun (w : World) (p : Nat) (v : Value) (h : Db W w p (PD.new 5000 0 false) v la) => db_make h (f0_small _) (by decide) ⟨#[97]⟩ (by decide) 0 (dk 5000 1 [PF.new] [([97], 0)] [] [⟨0, [], [97], 0⟩]) (dk_make 5000 0 [] [] [] [] [97] (by kernel_rfl) rfl))
  have HB := Lib.hid (fun (w : World) (p : Nat) (v : Value) (h : Db W w p (dk 5000 1 [PF.new] [([97], 0)] [] [⟨0, [], [97], 0⟩]) v la) => db_write h (small_of (by kernel_rfl) (fmemA fok_new)) (show 1 + 1 < 10000 by omega) ⟨#[97]⟩ (by decide) 0 (by omega) 0 (dk 5000 2 [fw la] [([97], 0)] [] [⟨0, [], [97], 0⟩]) (dk_write 5000 1 _ _ _ _ [97] 0 0 0 la (by kernel_rfl) (by kernel_rfl) (Nat.zero_le _) (by omega) (by omega)))
  have hsm2 : Small (dk 5000 2 [fw la] [([97], 0)] [] [⟨0, [], [97], 0⟩]) := small_of (by kernel_rfl) (fmemA (fok_fw2 la (by omega)))
  have HC := Lib.hid (fun (w : World) (p : Nat) (h : On W w p (dk 5000 2 [fw la] [([97], 0)] [] [⟨0, [], [97], 0⟩])) => dc_copy h hsm2)
  have hr2 : (dk 5000 2 [fw la] [([97], 0)] [] [⟨0, [], [97], 0⟩]).read [97] 0 1000 = (la, 0) := by
    refine (dk_read 5000 2 _ _ _ _ [97] 0 0 1000 (by kernel_rfl) (Nat.zero_le _)).trans ?_
    show (((wr [] 0 la).drop 0).take 1000, 0) = _
    rw [wr_zero, List.drop_zero, List.take_of_length_le (by omega)]
  have HR := Lib.hid (fun (w : World) (p q : Nat) (h : Dc W w p q (dk 5000 2 [fw la] [([97], 0)] [] [⟨0, [], [97], 0⟩]) (dk 5000 2 [fw la] [([97], 0)] [] [⟨0, [], [97], 0⟩]) (.slice none 0 0) [] (fun _ => True)) => dc_read0 h hsm2 ⟨#[97]⟩ (by decide) 0 1000 la 0 hr2 hne)
  have HW := Lib.hid (fun (w : World) (p q kx xcap : Nat) (h : Dc W w p q (dk 5000 2 [fw la] [([97], 0)] [] [⟨0, [], [97], 0⟩]) (dk 5000 2 [fw la] [([97], 0)] [] [⟨0, [], [97], 0⟩]) (.slice (some ⟨kx, 0, none⟩) la.length xcap) lx (fun _ => True)) => dc_write2 h hsm2 (show 2 + 1 < 10000 by omega) ⟨#[97]⟩ (by decide) 0 (by omega) 0 (dk 5000 3 [(fw la).wrote 0 lx] [([97], 0)] [] [⟨0, [], [97], 0⟩]) (dk_write 5000 2 _ _ _ _ [97] 0 la.length 0 lx (by kernel_rfl) (by show (wr [] 0 la).length + 0 = la.length; rw [wr_zero]; omega) (Nat.zero_le _) (by omega) (by omega)))
  have hsm3 : Small (dk 5000 3 [(fw la).wrote 0 lx] [([97], 0)] [] [⟨0, [], [97], 0⟩]) := small_of (by kernel_rfl) (fmemA (fok_over la lx hll l1))
  have hr3 : (dk 5000 3 [(fw la).wrote 0 lx] [([97], 0)] [] [⟨0, [], [97], 0⟩]).read [97] 0 1000 = (lx, 0) := by
    refine (dk_read 5000 3 _ _ _ _ [97] 0 0 1000 (by kernel_rfl) (Nat.zero_le _)).trans ?_
    show (((fw la).wrote 0 lx).now.drop 0 |>.take 1000, 0) = _
    rw [over_now la lx hll, List.drop_zero, List.take_of_length_le (by omega)]
  have HY := Lib.hid (fun (w : World) (p q : Nat) (v : Value) (l : List UInt8) (h : Dc W w p q (dk 5000 2 [fw la] [([97], 0)] [] [⟨0, [], [97], 0⟩]) (dk 5000 3 [(fw la).wrote 0 lx] [([97], 0)] [] [⟨0, [], [97], 0⟩]) v l (fun _ => True)) => dc_read1 h hsm2 ⟨#[97]⟩ (by decide) 0 1000 la 0 hr2)
  have HZ := Lib.hid (fun (w : World) (p q : Nat) (v : Value) (l : List UInt8) (h : Dc W w p q (dk 5000 2 [fw la] [([97], 0)] [] [⟨0, [], [97], 0⟩]) (dk 5000 3 [(fw la).wrote 0 lx] [([97], 0)] [] [⟨0, [], [97], 0⟩]) v l (fun _ => True)) (x : Value) (hx : RdB w x la) => dc_read2 h hsm3 ⟨#[97]⟩ (by decide) 0 1000 lx 0 hr3 hx)
  have HR1 := Lib.hid h1
  have g1 : ¬ (300 : Int) < (la.length : Int) := by omega
  have g2 : ((la.length : Int) == 0) = false := by simp; omega
  have HC0 := Lib.hid hc0
  have HLX := Lib.hid hlx
  have HLL := Lib.hid hll
  have hq : ∀ (w : World) (a : Addr), (binOp .eql 28 (.pointer (some a)) (.pointer none)).run Try.prog w = .ok (.bool false) w := fun w a => by kernel_rfl
  clear h1 hc0 hlx hll
  go_enter Try.func4, Try.ntmps4
  go_wp2_with (first | (go_at_call 7; (with_reducible refine (HN.out).mono ?_); rintro e w0 ⟨p, rfl, h0⟩; have H0 := Lib.hid h0; clear h0) | (at_builtin; refine wpList_append_rd rfl (.tmp 25) (.tmp 26) 32 rfl w0.heap.size 5 1 1 (.int .u8 0) Try.underlying32 info_u8 rfl (by decide) (.slice (some ⟨w0.heap.size, 0, none⟩) 0 0) (.slice va la.length ca) 0 la.length [] (la.map bv) rfl rfl (made_ownA w0 _ _) (Rd.below (RdB.below HR1.out H0.out.below (Nat.le_refl _)) ((Below.refl _ _).alloc (Nat.le_refl _) _) (Nat.le_refl _)) (bv_oneCell la) ?bb ?l1 ?l2 ?kk))
  case bb => simp
  case l1 => omega
  case l2 => unfold maxLen; omega
  case kk =>
    intro v' w1 hown hB
    have hb := hB w0.heap.size w0 (Nat.le_refl _) ((Below.refl _ _).alloc (Nat.le_refl _) _)
    have hlt' := fun k (e : v'.ownBlock = some k) => World.ownsRow.lt hown k e
    obtain ⟨kb, cap, cur, hv, _⟩ := own_form hown hpos
    subst hv
    have H1 := Lib.hid (Db.of_on H0.out hb (own_base hown fun k _ => Nat.zero_le k) hlt')
    clear hb hown hlt' hB
    go_wp2_with (first | (go_at_call 18; (with_reducible refine (HA.out _ _ _ H1.out).mono ?_); rintro e w2 ⟨rfl, h2⟩; have H2 := Lib.hid h2; clear h2) | (go_at_call 19; (with_reducible refine (HB.out _ _ _ H2.out).mono ?_); rintro e w3 ⟨rfl, h3⟩; have cb0 : w3.cell? ⟨kb, 0, none⟩ = some (bv c0) := (h3.own.cellAt 0 hpos).trans (by rw [HC0.out]); have fb0 : w3.frozen? ⟨kb, 0, none⟩ = false := h3.own.frozenAt 0; have H3 := Lib.hid h3; clear h3) | (go_at_call 9; (with_reducible refine (HC.out _ _ (H3.out.spoil 0 _)).mono ?_); rintro e w4 ⟨q, rfl, h4⟩; have H4 := Lib.hid h4; clear h4) | (go_at_call 20; (with_reducible refine (HR.out _ _ _ H4.out).mono ?_); rintro e w5 ⟨kx, xcap, rfl, h5⟩; have cx0 : w5.cell? ⟨kx, 0, none⟩ = some (bv c0) := (h5.own.cellAt 0 hpos).trans (by rw [HC0.out]); have fx0 : w5.frozen? ⟨kx, 0, none⟩ = false := h5.own.frozenAt 0; have hc1 := rdB_convert (P := Try.prog) (h5.own.read) 32 5 9 Try.underlying32 Try.underlying5 Try.underlying9; have hc2 := rdB_convert (P := Try.prog) (HR1.out.below h5.be (Nat.le_refl _)) 32 5 9 Try.underlying32 Try.underlying5 Try.underlying9; have h5s := h5.store 0 cx; rw [← HLX.out] at h5s; have H5S := Lib.hid h5s; clear h5s; have H5 := Lib.hid h5; clear h5) | (go_at_call 19; (with_reducible refine (HW.out _ _ _ _ _ H5S.out).mono ?_); rintro e w6 ⟨rfl, h6⟩; have H6 := Lib.hid h6; clear h6) | (go_at_call 20; (with_reducible refine (HY.out _ _ _ _ _ H6.out).mono ?_); rintro e w7 ⟨ya, yc, rfl, h7, ry⟩; have HRY := Lib.hid ry; clear ry; have H7 := Lib.hid h7; clear h7) | (go_at_call 20; (with_reducible refine (HZ.out _ _ _ _ _ H7.out _ HRY.out).mono ?_); rintro e w8 ⟨za, zc, rfl, h8, ry, rz⟩; have hd1 := rdB_convert (P := Try.prog) (ry) 32 5 9 Try.underlying32 Try.underlying5 Try.underlying9; have hd2 := rdB_convert (P := Try.prog) (HR1.out.below h8.be (Nat.le_refl _)) 32 5 9 Try.underlying32 Try.underlying5 Try.underlying9; have hd3 := rdB_convert (P := Try.prog) (rz) 32 5 9 Try.underlying32 Try.underlying5 Try.underlying9; have hd4 := rdB_convert (P := Try.prog) (h8.own.read) 32 5 9 Try.underlying32 Try.underlying5 Try.underlying9; clear ry rz; have H8 := Lib.hid h8; clear h8) | (go_at_call 21; (with_reducible refine (num1_any _ _).mono ?_); rintro e w14 ⟨rfl, rfl⟩) | (go_at_call 6; (with_reducible refine (awake4_any _).mono ?_); rintro e w15 ⟨rfl, B15⟩))
    go_ret
    exact ⟨rfl, H8.out.be.trans (B15.mono H8.out.be.size)⟩

set_option maxRecDepth 100000 in
set_option maxHeartbeats 8000000 in
set_option linter.unusedSimpArgs false in
theorem diskApart_walk (v : Value) (l : List UInt8) (W : World) (hv : RdB W v l) :
    Calls Try.prog 4 #[v] W fun e w' => e = .returned (.bool true) ∧ Below W.heap.size W w' := by
  have hv0 := hv
  obtain ⟨va, vc, rfl, _, _⟩ := RdB.form hv
  by_cases hne : l = []
  · clear hv hv0
    subst hne
    go_enter Try.func4, Try.ntmps4
    go_wp2_with (go_at_call 6; (with_reducible refine (awake4_any _).mono ?_); rintro e w15 ⟨rfl, B15⟩)
    go_ret
    exact ⟨rfl, B15⟩
  · by_cases hl : l.length ≤ 300
    · exact apart_main va vc l W hv0 hne hl
    · clear hv hv0
      have hz : ((l.length : Int) == 0) = false := by simp; omega
      have hg : (300 : Int) < (l.length : Int) := by omega
      go_enter Try.func4, Try.ntmps4
      go_wp2_with (go_at_call 6; (with_reducible refine (awake4_any _).mono ?_); rintro e w15 ⟨rfl, B15⟩)
      go_ret
      exact ⟨rfl, B15⟩
end Go.Proofs.Ytkobjbjakgfhcaa
