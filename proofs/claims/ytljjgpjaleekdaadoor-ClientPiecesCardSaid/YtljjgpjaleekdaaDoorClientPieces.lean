/-
  The walk of the statement ClientPieces.
-/
import Derived.Test.YtljjgpjaleekdaaDoorClientLaws
import Derived.OpenShut
namespace Go.Proofs.YtljjgpjaleekdaaDoor
open Go.RowKit

theorem strB_app (a b : List UInt8) : strB a ++ strB b = strB (a ++ b) := by
  apply ByteArray.ext
  simp

theorem FOnH.mono {W w : World} {p : Nat} {f : FR} {P Q : World → Prop} (h : FOnH W w p f P) (hPQ : ∀ w, P w → Q w) : FOnH W w p f Q := by
  obtain ⟨G, S, h1, h2, h3, h4, h5⟩ := h
  exact ⟨G, S, h1, h2, h3, h4, fun w' hk => hPQ _ (h5 w' hk)⟩

theorem gets_beyond {a : List UInt8} {c : Nat} : (⟨[([111], a)], [], c⟩ : FR).gets [111] ((a.length : Int) + 1) 1 = (([], 1), ⟨[([111], a)], [], c + 1⟩) := by
  have e : (⟨[([111], a)], [], c⟩ : FR).get [111] ((a.length : Int) + 1) 1 = ([], 1) := by
    have e1 : (⟨[([111], a)], [], c⟩ : FR).getE [111] ((a.length : Int) + 1) 1 = 1 := by
      unfold FR.getE
      show (if (a.length : Int) + 1 < 0 ∨ (a.length : Int) < (a.length : Int) + 1 ∨ (1 : Int) < 0 then 1 else 0) = 1
      rw [if_pos (by omega)]
    unfold FR.get
    rw [e1]
    rfl
  show (if ((⟨[([111], a)], [], c⟩ : FR).get [111] ((a.length : Int) + 1) 1).2 = 8 then _ else ((⟨[([111], a)], [], c⟩ : FR).get [111] ((a.length : Int) + 1) 1, _)) = _
  rw [if_neg (by rw [e]; decide), e]
  rfl

theorem gets_other {a : List UInt8} {c : Nat} : (⟨[([111], a)], [], c⟩ : FR).gets [112] 0 1 = (([], 2), ⟨[([111], a)], [], c + 1⟩) := rfl

set_option maxRecDepth 100000 in
set_option maxHeartbeats 4000000 in
set_option linter.unusedSimpArgs false in
theorem pieces_main (va : Option Addr) (ca : Nat) (la : List UInt8) (s : Nat) (W : World) (h1 : RdB W (.slice va la.length ca) la) (l1 : la.length ≤ 400) (hs : s ≤ 255) :
    Calls Tryd.prog 6 #[.slice va la.length ca, .int .u8 (s : Int)] W fun e w' => e = .returned (.bool true) ∧ Below W.heap.size W w' := by
  have HN := Lib.hid (fon_new W W (Below.refl _ _))
  have hq : ∀ (w : World) (a : Addr), (binOp .eql 24 (.pointer (some a)) (.pointer none)).run Tryd.prog w = .ok (.bool false) w := fun w a => by kernel_rfl
  obtain ⟨d, hd, he⟩ := up_none (b := la) (l := []) (c := 0) (by omega) (by decide) bad_nil
  have HA := Lib.hid (fun (w : World) (p : Nat) (P : World → Prop) (h : FOnH W w p FR.new P) => fh_up_arg h (m := 1000) ⟨by simp [FR.new], by simp [FR.new]⟩ (by omega) _ la h1 (by omega) 0 _ he)
  have HP := Lib.hid (fun (w : World) (p a c : Nat) (P : World → Prop) (h : FOnH W w p ⟨[([111], la)], [], c⟩ P) (pc : List UInt8) (hpc : (la.drop a).take (1 + s) = pc) (ha : a ≤ la.length) (hc : c ≤ 1000) => (show Calls Tryd.prog 19 #[.pointer (some ⟨p, 0, none⟩), .string ⟨#[111]⟩, .int .i64 (a : Int), .int .i64 (1 + (s : Int))] w fun e w' => ∃ xa xc, e = .returned (.tuple #[.slice xa pc.length xc, .int .i64 0]) ∧ FOnH W w' p ⟨[([111], la)], [], c + 1⟩ fun w => P w ∧ RdB w (.slice xa pc.length xc) pc from
    fh_piece h (m := 1000) (fz_one (by omega) (by omega)) (by omega) ⟨#[111]⟩ (by decide) (a : Int) (1 + (s : Int)) pc 0 _ (by
      have := gets_piece (a := la) (l := []) (c := c) (i := a) (n := 1 + s) ha (by decide) bad_nil
      rw [hpc] at this
      rw [show (((1 + s : Nat)) : Int) = 1 + (s : Int) by omega] at this
      exact this)))
  have HQ1 := Lib.hid (fun (w : World) (p c : Nat) (P : World → Prop) (h : FOnH W w p ⟨[([111], la)], [], c⟩ P) (hc : c ≤ 1000) => fh_piece h (m := 1000) (fz_one (by omega) (by omega)) (by omega) ⟨#[111]⟩ (by decide) ((la.length : Int) + 1) 1 [] 1 _ gets_beyond)
  have HQ2 := Lib.hid (fun (w : World) (p c : Nat) (P : World → Prop) (h : FOnH W w p ⟨[([111], la)], [], c⟩ P) (hc : c ≤ 1000) => fh_piece h (m := 1000) (fz_one (by omega) (by omega)) (by omega) ⟨#[112]⟩ (by decide) 0 1 [] 2 _ gets_other)
  have HR1 := Lib.hid h1
  have g1 : ¬ (400 : Int) < (la.length : Int) := by omega
  clear h1 he
  go_enter Tryd.func6, Tryd.ntmps6
  go_wp2_with (first | (go_at_call 9; (with_reducible refine (HN.out).mono ?_); rintro e w0 ⟨p, rfl, h0⟩; have H0 := Lib.hid h0.h; clear h0) | (go_at_call 11; (with_reducible refine (HA.out _ _ _ H0.out).mono ?_); rintro e w1 ⟨rfl, h1⟩; have H1 := Lib.hid h1; clear h1))
  go_loopw [7, 8] (fun al i wr => ∃ a c : Nat, al = .string (strB (la.take a)) ∧ i = .int .i64 (a : Int) ∧ FOnH W wr p ⟨[([111], la)], [], c⟩ (fun _ => True) ∧ c ≤ 10 + a ∧ a ≤ la.length + 256) (fun _ i _ => la.length - (intOf i).toNat)
  case atStart => exact ⟨0, d, rfl, rfl, H1.out, by omega, by omega⟩
  case round =>
    obtain ⟨a, c, rfl, rfl, hw, hc, ha⟩ := hrel
    have HW := Lib.hid hw
    clear hw
    by_cases hlt : a < la.length
    · obtain ⟨pc, hpc⟩ : ∃ pc, (la.drop a).take (1 + s) = pc := ⟨_, rfl⟩
      have hT := strB_app (la.take a) pc
      rw [show la.take a ++ pc = la.take (a + (1 + s)) by rw [← hpc, ← List.take_add]] at hT
      have hpl : pc.length ≤ 256 := by rw [← hpc, List.length_take]; omega
      have hlim : ¬ 9223372036854775807 < min a la.length + pc.length := by omega
      have HPC := Lib.hid hpc
      clear hpc
      go_wp2_with (first | (go_at_call 19; (with_reducible refine (HP.out _ _ a c _ HW.out pc HPC.out (by omega) (by omega)).mono ?_); rintro e w2 ⟨xa, xc, rfl, h2⟩; have hc1 := rdB_convert (P := Tryd.prog) (h2.held.2) 22 5 9 Tryd.underlying22 Tryd.underlying5 Tryd.underlying9; have H2 := Lib.hid h2; clear h2) | (go_at_call 15; (with_reducible refine (num1_any _ _).mono ?_); rintro e w14 ⟨rfl, rfl⟩))
      go_roundw
      case rel => exact ⟨a + (1 + s), c + 1, rfl, by go_num, H2.out.mono fun _ _ => trivial, by omega, by omega⟩
      case measure => simp [intOf]; omega
    · rw [List.take_of_length_le (by omega)]
      go_wp2_with (first | (go_at_call 19; (with_reducible refine (HQ1.out _ _ c _ HW.out (by omega)).mono ?_); rintro e w2 ⟨xa, xc, rfl, h2⟩; have H2 := Lib.hid h2; clear h2) | (go_at_call 19; (with_reducible refine (HQ2.out _ _ (c + 1) _ H2.out (by omega)).mono ?_); rintro e w3 ⟨ya, yc, rfl, h3⟩; have hc1 := rdB_convert (P := Tryd.prog) (HR1.out.below h3.be (Nat.le_refl _)) 22 5 9 Tryd.underlying22 Tryd.underlying5 Tryd.underlying9; have H3 := Lib.hid h3; clear h3) | (go_at_call 15; (with_reducible refine (num1_any _ _).mono ?_); rintro e w14 ⟨rfl, rfl⟩) | (go_at_call 8; (with_reducible refine (awake6_any _).mono ?_); rintro e w15 ⟨rfl, B15⟩))
      go_ret
      exact ⟨rfl, H3.out.be.trans (B15.mono H3.out.be.size)⟩

set_option maxRecDepth 100000 in
set_option maxHeartbeats 4000000 in
set_option linter.unusedSimpArgs false in
theorem clientPieces_walk (v : Value) (l : List UInt8) (s : Int) (W : World) (hv : RdB W v l) (ws : (Lit.int .u8 s).wf = true) :
    Calls Tryd.prog 6 #[v, .int .u8 s] W fun e w' => e = .returned (.bool true) ∧ Below W.heap.size W w' := by
  have hv0 := hv
  have bs := bounds_u8 ws
  obtain ⟨va, vc, rfl, _, _⟩ := RdB.form hv
  by_cases hl : l.length ≤ 400
  · obtain ⟨k, rfl⟩ := Int.eq_ofNat_of_zero_le bs.1
    exact pieces_main va vc l k W hv0 hl (by omega)
  · clear hv hv0
    go_enter Tryd.func6, Tryd.ntmps6
    go_wp2_with (go_at_call 8; (with_reducible refine (awake6_any _).mono ?_); rintro e w15 ⟨rfl, B15⟩)
    go_ret
    exact ⟨rfl, B15⟩
end Go.Proofs.YtljjgpjaleekdaaDoor
