/-
  The walk of the statement DiskFull.
-/
import Derived.Test.YtlelmdfhjlbmnaaDiskFull
import Derived.OpenShut
namespace Go.Proofs.Ytlelmdfhjlbmnaa
open Go.RowKit

theorem full_make1 (r : Int) {W w : World} {p : Nat} (h : On W w p (PD.new r 0 false)) : Calls Try.prog 26 #[.pointer (some ⟨p, 0, none⟩), .string ⟨#[97]⟩] w fun e w' => e = .returned (.int .i64 0) ∧ On W w' p (f1 r) :=
  on_make h (f0_small r) (by show 0 + 1 < 10000; omega) ⟨#[97]⟩ (by decide) 0 _ (f_make1 r)
theorem full_make2 (r : Int) {W w : World} {p : Nat} (h : On W w p (f1 r)) : Calls Try.prog 26 #[.pointer (some ⟨p, 0, none⟩), .string ⟨#[98]⟩] w fun e w' => e = .returned (.int .i64 0) ∧ On W w' p (fS r 2 PF.new PF.new) :=
  on_make h (f1_small r) (by show 1 + 1 < 10000; omega) ⟨#[98]⟩ (by decide) 0 _ (f_make2 r)
theorem full_gone (r : Int) (c : Nat) (hc : c < 90) (fa fb : PF) (ha : FOk fa) (hb : FOk fb) {W w : World} {p : Nat} (h : On W w p (fS r c fa fb)) : Calls Try.prog 35 #[.pointer (some ⟨p, 0, none⟩), .string ⟨#[97]⟩] w fun e w' => e = .returned (.int .i64 0) ∧ On W w' p (fT r (c + 1) fa fb) :=
  on_gone h (fS_small r c fa fb (by omega) ha hb) (by show c + 1 < 10000; omega) ⟨#[97]⟩ (by decide) 0 _ (f_gone r c fa fb)
theorem full_writeA (r : Int) (la : List UInt8) (hl : la.length ≤ 300) (va : Value) (e : Nat) (d' : PD) (he : (fS r 2 PF.new PF.new).write [97] 0 la = (e, d')) {W w : World} {p : Nat} (hv : RdB W va la) (h : On W w p (fS r 2 PF.new PF.new)) :
    Calls Try.prog 27 #[.pointer (some ⟨p, 0, none⟩), .string ⟨#[97]⟩, .int .i64 0, va] w fun x w' => x = .returned (.int .i64 (e : Int)) ∧ On W w' p d' :=
  on_write h (fS_small r 2 _ _ (by omega) fok_new fok_new) (by show 2 + 1 < 10000; omega) ⟨#[97]⟩ (by decide) 0 va la hv (by omega) e d' he
theorem full_writeB (r : Int) (c : Nat) (hc : c < 90) (fa : PF) (ha : FOk fa) (lb : List UInt8) (hl : lb.length ≤ 300) (vb : Value) (e : Nat) (d' : PD) (he : (fS r c fa PF.new).write [98] 0 lb = (e, d')) {W w : World} {p : Nat} (hv : RdB W vb lb) (h : On W w p (fS r c fa PF.new)) :
    Calls Try.prog 27 #[.pointer (some ⟨p, 0, none⟩), .string ⟨#[98]⟩, .int .i64 0, vb] w fun x w' => x = .returned (.int .i64 (e : Int)) ∧ On W w' p d' :=
  on_write h (fS_small r c _ _ (by omega) ha fok_new) (by show c + 1 < 10000; omega) ⟨#[98]⟩ (by decide) 0 vb lb hv (by omega) e d' he
theorem full_writeG (r : Int) (c : Nat) (hc : c < 90) (fa fb : PF) (ha : FOk fa) (hb : FOk fb) (lb : List UInt8) (hl : lb.length ≤ 300) (vb : Value) (e : Nat) (d' : PD) (he : (fT r c fa fb).write [98] 0 lb = (e, d')) {W w : World} {p : Nat} (hv : RdB W vb lb) (h : On W w p (fT r c fa fb)) :
    Calls Try.prog 27 #[.pointer (some ⟨p, 0, none⟩), .string ⟨#[98]⟩, .int .i64 0, vb] w fun x w' => x = .returned (.int .i64 (e : Int)) ∧ On W w' p d' :=
  on_write h (fT_small r c _ _ (by omega) ha hb) (by show c + 1 < 10000; omega) ⟨#[98]⟩ (by decide) 0 vb lb hv (by omega) e d' he

set_option maxRecDepth 100000 in
set_option maxHeartbeats 8000000 in
set_option linter.unusedSimpArgs false in
theorem full_case1 (r : Int) (hr0 : 0 ≤ r) (hr : r ≤ 255) (va vb : Option Addr) (ca cb : Nat) (la lb : List UInt8) (W : World) (h1 : RdB W (.slice va la.length ca) la) (h2 : RdB W (.slice vb lb.length cb) lb) (l1 : la.length ≤ 300) (l2 : lb.length ≤ 300)
    (hfit : (la.length : Int) ≤ r) (hboth : (la.length : Int) + (lb.length : Int) ≤ r) (hlb : (lb.length : Int) ≤ r) :
    Calls Try.prog 7 #[.int .u8 r, .slice va la.length ca, .slice vb lb.length cb] W fun e w' => e = .returned (.bool true) ∧ Below W.heap.size W w' := by
  have wA := f_writeA r la l1
  rw [if_pos hfit] at wA
  have wB := f_writeB r 3 la.length (fw la) (fw_len la) lb l2
  rw [if_pos (by first | exact hboth | (simpa using hboth))] at wB
  obtain ⟨dG, wG⟩ := f_writeG r 5 (fw la) (fw lb) lb l2 (.inr (fw_len lb))
  rw [if_pos hlb] at wG
  have HN := Lib.hid (on_new W W (Below.refl _ _) r 0 0 false (.slice none 0 0))
  have HA := Lib.hid (fun (w : World) (p : Nat) (h : On W w p (fS r 2 PF.new PF.new)) => full_writeA r la l1 _ _ _ wA h1 h)
  have HB := Lib.hid (fun (w : World) (p : Nat) (h : On W w p (fS r 3 (fw la) PF.new)) => full_writeB r 3 (by omega) (fw la) (fok_fw la l1) lb l2 _ _ _ wB h2 h)
  have HG := Lib.hid (fun (w : World) (p : Nat) (h : On W w p (fS r 4 (fw la) (fw lb))) => full_gone r 4 (by omega) (fw la) (fw lb) (fok_fw la l1) (fok_fw lb l2) h)
  have HH := Lib.hid (fun (w : World) (p : Nat) (h : On W w p (fT r 5 (fw la) (fw lb))) => full_writeG r 5 (by omega) (fw la) (fw lb) (fok_fw la l1) (fok_fw lb l2) lb l2 _ _ _ wG h2 h)
  clear wA wB wG h1 h2
  have g1 : ¬ (300 : Int) < (la.length : Int) := by omega
  have g2 : ¬ (300 : Int) < (lb.length : Int) := by omega
  go_enter Try.func7, Try.ntmps7
  go_wp2_with (first | (go_at_call 15; (with_reducible refine HN.out.mono ?_); rintro e w0 ⟨p, rfl, ho0⟩; have HO0 := Lib.hid ho0; clear ho0) | (go_at_call 26; (with_reducible refine (full_make1 r HO0.out).mono ?_); rintro e w1 ⟨rfl, ho1⟩; have HO1 := Lib.hid ho1; clear ho1) | (go_at_call 26; (with_reducible refine (full_make2 r HO1.out).mono ?_); rintro e w2 ⟨rfl, ho2⟩; have HO2 := Lib.hid ho2; clear ho2) | (go_at_call 27; (with_reducible refine (HA.out _ _ HO2.out).mono ?_); rintro e w3 ⟨rfl, ho3⟩; have HO3 := Lib.hid ho3; clear ho3) | (go_at_call 27; (with_reducible refine (HB.out _ _ HO3.out).mono ?_); rintro e w4 ⟨rfl, ho4⟩; have HO4 := Lib.hid ho4; clear ho4) | (go_at_call 35; (with_reducible refine (HG.out _ _ HO4.out).mono ?_); rintro e w5 ⟨rfl, ho5⟩; have HO5 := Lib.hid ho5; clear ho5) | (go_at_call 27; (with_reducible refine (HH.out _ _ HO5.out).mono ?_); rintro e w6 ⟨rfl, ho6⟩; have HO6 := Lib.hid ho6; clear ho6) | (go_at_call 31; (with_reducible refine (num1_any _ _).mono ?_); rintro e w14 ⟨rfl, rfl⟩) | (go_at_call 14; (with_reducible refine (awake4_any _).mono ?_); rintro e w15 ⟨rfl, B15⟩))
  go_ret
  exact ⟨by first | rfl | simp [hlb], HO6.out.below.trans (Kept.below (Kept.of B15 (R := fun k => k < w6.heap.size) fun _ h => h) fun k hk => Nat.lt_of_lt_of_le hk HO6.out.below.size)⟩

set_option maxRecDepth 100000 in
set_option maxHeartbeats 8000000 in
set_option linter.unusedSimpArgs false in
theorem full_case2 (r : Int) (hr0 : 0 ≤ r) (hr : r ≤ 255) (va vb : Option Addr) (ca cb : Nat) (la lb : List UInt8) (W : World) (h1 : RdB W (.slice va la.length ca) la) (h2 : RdB W (.slice vb lb.length cb) lb) (l1 : la.length ≤ 300) (l2 : lb.length ≤ 300)
    (hfit : (la.length : Int) ≤ r) (hboth : ¬ (la.length : Int) + (lb.length : Int) ≤ r) (hlb : (lb.length : Int) ≤ r) :
    Calls Try.prog 7 #[.int .u8 r, .slice va la.length ca, .slice vb lb.length cb] W fun e w' => e = .returned (.bool true) ∧ Below W.heap.size W w' := by
  have wA := f_writeA r la l1
  rw [if_pos hfit] at wA
  have wB := f_writeB r 3 la.length (fw la) (fw_len la) lb l2
  rw [if_neg (by first | exact hboth | (simpa using hboth))] at wB
  obtain ⟨dG, wG⟩ := f_writeG r 4 (fw la) PF.new lb l2 (.inl rfl)
  rw [if_pos hlb] at wG
  have HN := Lib.hid (on_new W W (Below.refl _ _) r 0 0 false (.slice none 0 0))
  have HA := Lib.hid (fun (w : World) (p : Nat) (h : On W w p (fS r 2 PF.new PF.new)) => full_writeA r la l1 _ _ _ wA h1 h)
  have HB := Lib.hid (fun (w : World) (p : Nat) (h : On W w p (fS r 3 (fw la) PF.new)) => full_writeB r 3 (by omega) (fw la) (fok_fw la l1) lb l2 _ _ _ wB h2 h)
  have HG := Lib.hid (fun (w : World) (p : Nat) (h : On W w p (fS r 3 (fw la) PF.new)) => full_gone r 3 (by omega) (fw la) PF.new (fok_fw la l1) fok_new h)
  have HH := Lib.hid (fun (w : World) (p : Nat) (h : On W w p (fT r 4 (fw la) PF.new)) => full_writeG r 4 (by omega) (fw la) PF.new (fok_fw la l1) fok_new lb l2 _ _ _ wG h2 h)
  clear wA wB wG h1 h2
  have g1 : ¬ (300 : Int) < (la.length : Int) := by omega
  have g2 : ¬ (300 : Int) < (lb.length : Int) := by omega
  go_enter Try.func7, Try.ntmps7
  go_wp2_with (first | (go_at_call 15; (with_reducible refine HN.out.mono ?_); rintro e w0 ⟨p, rfl, ho0⟩; have HO0 := Lib.hid ho0; clear ho0) | (go_at_call 26; (with_reducible refine (full_make1 r HO0.out).mono ?_); rintro e w1 ⟨rfl, ho1⟩; have HO1 := Lib.hid ho1; clear ho1) | (go_at_call 26; (with_reducible refine (full_make2 r HO1.out).mono ?_); rintro e w2 ⟨rfl, ho2⟩; have HO2 := Lib.hid ho2; clear ho2) | (go_at_call 27; (with_reducible refine (HA.out _ _ HO2.out).mono ?_); rintro e w3 ⟨rfl, ho3⟩; have HO3 := Lib.hid ho3; clear ho3) | (go_at_call 27; (with_reducible refine (HB.out _ _ HO3.out).mono ?_); rintro e w4 ⟨rfl, ho4⟩; have HO4 := Lib.hid ho4; clear ho4) | (go_at_call 35; (with_reducible refine (HG.out _ _ HO4.out).mono ?_); rintro e w5 ⟨rfl, ho5⟩; have HO5 := Lib.hid ho5; clear ho5) | (go_at_call 27; (with_reducible refine (HH.out _ _ HO5.out).mono ?_); rintro e w6 ⟨rfl, ho6⟩; have HO6 := Lib.hid ho6; clear ho6) | (go_at_call 31; (with_reducible refine (num1_any _ _).mono ?_); rintro e w14 ⟨rfl, rfl⟩) | (go_at_call 14; (with_reducible refine (awake4_any _).mono ?_); rintro e w15 ⟨rfl, B15⟩))
  go_ret
  exact ⟨by first | rfl | simp [hlb], HO6.out.below.trans (Kept.below (Kept.of B15 (R := fun k => k < w6.heap.size) fun _ h => h) fun k hk => Nat.lt_of_lt_of_le hk HO6.out.below.size)⟩

set_option maxRecDepth 100000 in
set_option maxHeartbeats 8000000 in
set_option linter.unusedSimpArgs false in
theorem full_case3 (r : Int) (hr0 : 0 ≤ r) (hr : r ≤ 255) (va vb : Option Addr) (ca cb : Nat) (la lb : List UInt8) (W : World) (h1 : RdB W (.slice va la.length ca) la) (h2 : RdB W (.slice vb lb.length cb) lb) (l1 : la.length ≤ 300) (l2 : lb.length ≤ 300)
    (hfit : (la.length : Int) ≤ r) (hboth : ¬ (la.length : Int) + (lb.length : Int) ≤ r) (hlb : ¬ (lb.length : Int) ≤ r) :
    Calls Try.prog 7 #[.int .u8 r, .slice va la.length ca, .slice vb lb.length cb] W fun e w' => e = .returned (.bool true) ∧ Below W.heap.size W w' := by
  have wA := f_writeA r la l1
  rw [if_pos hfit] at wA
  have wB := f_writeB r 3 la.length (fw la) (fw_len la) lb l2
  rw [if_neg (by first | exact hboth | (simpa using hboth))] at wB
  obtain ⟨dG, wG⟩ := f_writeG r 4 (fw la) PF.new lb l2 (.inl rfl)
  rw [if_neg hlb] at wG
  have HN := Lib.hid (on_new W W (Below.refl _ _) r 0 0 false (.slice none 0 0))
  have HA := Lib.hid (fun (w : World) (p : Nat) (h : On W w p (fS r 2 PF.new PF.new)) => full_writeA r la l1 _ _ _ wA h1 h)
  have HB := Lib.hid (fun (w : World) (p : Nat) (h : On W w p (fS r 3 (fw la) PF.new)) => full_writeB r 3 (by omega) (fw la) (fok_fw la l1) lb l2 _ _ _ wB h2 h)
  have HG := Lib.hid (fun (w : World) (p : Nat) (h : On W w p (fS r 3 (fw la) PF.new)) => full_gone r 3 (by omega) (fw la) PF.new (fok_fw la l1) fok_new h)
  have HH := Lib.hid (fun (w : World) (p : Nat) (h : On W w p (fT r 4 (fw la) PF.new)) => full_writeG r 4 (by omega) (fw la) PF.new (fok_fw la l1) fok_new lb l2 _ _ _ wG h2 h)
  clear wA wB wG h1 h2
  have g1 : ¬ (300 : Int) < (la.length : Int) := by omega
  have g2 : ¬ (300 : Int) < (lb.length : Int) := by omega
  go_enter Try.func7, Try.ntmps7
  go_wp2_with (first | (go_at_call 15; (with_reducible refine HN.out.mono ?_); rintro e w0 ⟨p, rfl, ho0⟩; have HO0 := Lib.hid ho0; clear ho0) | (go_at_call 26; (with_reducible refine (full_make1 r HO0.out).mono ?_); rintro e w1 ⟨rfl, ho1⟩; have HO1 := Lib.hid ho1; clear ho1) | (go_at_call 26; (with_reducible refine (full_make2 r HO1.out).mono ?_); rintro e w2 ⟨rfl, ho2⟩; have HO2 := Lib.hid ho2; clear ho2) | (go_at_call 27; (with_reducible refine (HA.out _ _ HO2.out).mono ?_); rintro e w3 ⟨rfl, ho3⟩; have HO3 := Lib.hid ho3; clear ho3) | (go_at_call 27; (with_reducible refine (HB.out _ _ HO3.out).mono ?_); rintro e w4 ⟨rfl, ho4⟩; have HO4 := Lib.hid ho4; clear ho4) | (go_at_call 35; (with_reducible refine (HG.out _ _ HO4.out).mono ?_); rintro e w5 ⟨rfl, ho5⟩; have HO5 := Lib.hid ho5; clear ho5) | (go_at_call 27; (with_reducible refine (HH.out _ _ HO5.out).mono ?_); rintro e w6 ⟨rfl, ho6⟩; have HO6 := Lib.hid ho6; clear ho6) | (go_at_call 31; (with_reducible refine (num1_any _ _).mono ?_); rintro e w14 ⟨rfl, rfl⟩) | (go_at_call 14; (with_reducible refine (awake4_any _).mono ?_); rintro e w15 ⟨rfl, B15⟩))
  go_ret
  exact ⟨by first | rfl | simp [hlb], HO6.out.below.trans (Kept.below (Kept.of B15 (R := fun k => k < w6.heap.size) fun _ h => h) fun k hk => Nat.lt_of_lt_of_le hk HO6.out.below.size)⟩

set_option maxRecDepth 100000 in
set_option maxHeartbeats 8000000 in
set_option linter.unusedSimpArgs false in
theorem full_case4 (r : Int) (hr0 : 0 ≤ r) (hr : r ≤ 255) (va vb : Option Addr) (ca cb : Nat) (la lb : List UInt8) (W : World) (h1 : RdB W (.slice va la.length ca) la) (h2 : RdB W (.slice vb lb.length cb) lb) (l1 : la.length ≤ 300) (l2 : lb.length ≤ 300)
    (hfit : ¬ (la.length : Int) ≤ r) (hboth : (lb.length : Int) ≤ r) (hlb : (lb.length : Int) ≤ r) :
    Calls Try.prog 7 #[.int .u8 r, .slice va la.length ca, .slice vb lb.length cb] W fun e w' => e = .returned (.bool true) ∧ Below W.heap.size W w' := by
  have wA := f_writeA r la l1
  rw [if_neg hfit] at wA
  have wB := f_writeB r 2 0 PF.new rfl lb l2
  rw [if_pos (by first | exact hboth | (simpa using hboth))] at wB
  obtain ⟨dG, wG⟩ := f_writeG r 4 PF.new (fw lb) lb l2 (.inr (fw_len lb))
  rw [if_pos hlb] at wG
  have HN := Lib.hid (on_new W W (Below.refl _ _) r 0 0 false (.slice none 0 0))
  have HA := Lib.hid (fun (w : World) (p : Nat) (h : On W w p (fS r 2 PF.new PF.new)) => full_writeA r la l1 _ _ _ wA h1 h)
  have HB := Lib.hid (fun (w : World) (p : Nat) (h : On W w p (fS r 2 PF.new PF.new)) => full_writeB r 2 (by omega) PF.new fok_new lb l2 _ _ _ wB h2 h)
  have HG := Lib.hid (fun (w : World) (p : Nat) (h : On W w p (fS r 3 PF.new (fw lb))) => full_gone r 3 (by omega) PF.new (fw lb) fok_new (fok_fw lb l2) h)
  have HH := Lib.hid (fun (w : World) (p : Nat) (h : On W w p (fT r 4 PF.new (fw lb))) => full_writeG r 4 (by omega) PF.new (fw lb) fok_new (fok_fw lb l2) lb l2 _ _ _ wG h2 h)
  clear wA wB wG h1 h2
  have g1 : ¬ (300 : Int) < (la.length : Int) := by omega
  have g2 : ¬ (300 : Int) < (lb.length : Int) := by omega
  go_enter Try.func7, Try.ntmps7
  go_wp2_with (first | (go_at_call 15; (with_reducible refine HN.out.mono ?_); rintro e w0 ⟨p, rfl, ho0⟩; have HO0 := Lib.hid ho0; clear ho0) | (go_at_call 26; (with_reducible refine (full_make1 r HO0.out).mono ?_); rintro e w1 ⟨rfl, ho1⟩; have HO1 := Lib.hid ho1; clear ho1) | (go_at_call 26; (with_reducible refine (full_make2 r HO1.out).mono ?_); rintro e w2 ⟨rfl, ho2⟩; have HO2 := Lib.hid ho2; clear ho2) | (go_at_call 27; (with_reducible refine (HA.out _ _ HO2.out).mono ?_); rintro e w3 ⟨rfl, ho3⟩; have HO3 := Lib.hid ho3; clear ho3) | (go_at_call 27; (with_reducible refine (HB.out _ _ HO3.out).mono ?_); rintro e w4 ⟨rfl, ho4⟩; have HO4 := Lib.hid ho4; clear ho4) | (go_at_call 35; (with_reducible refine (HG.out _ _ HO4.out).mono ?_); rintro e w5 ⟨rfl, ho5⟩; have HO5 := Lib.hid ho5; clear ho5) | (go_at_call 27; (with_reducible refine (HH.out _ _ HO5.out).mono ?_); rintro e w6 ⟨rfl, ho6⟩; have HO6 := Lib.hid ho6; clear ho6) | (go_at_call 31; (with_reducible refine (num1_any _ _).mono ?_); rintro e w14 ⟨rfl, rfl⟩) | (go_at_call 14; (with_reducible refine (awake4_any _).mono ?_); rintro e w15 ⟨rfl, B15⟩))
  go_ret
  exact ⟨by first | rfl | simp [hlb], HO6.out.below.trans (Kept.below (Kept.of B15 (R := fun k => k < w6.heap.size) fun _ h => h) fun k hk => Nat.lt_of_lt_of_le hk HO6.out.below.size)⟩

set_option maxRecDepth 100000 in
set_option maxHeartbeats 8000000 in
set_option linter.unusedSimpArgs false in
theorem full_case5 (r : Int) (hr0 : 0 ≤ r) (hr : r ≤ 255) (va vb : Option Addr) (ca cb : Nat) (la lb : List UInt8) (W : World) (h1 : RdB W (.slice va la.length ca) la) (h2 : RdB W (.slice vb lb.length cb) lb) (l1 : la.length ≤ 300) (l2 : lb.length ≤ 300)
    (hfit : ¬ (la.length : Int) ≤ r) (hboth : ¬ (lb.length : Int) ≤ r) (hlb : ¬ (lb.length : Int) ≤ r) :
    Calls Try.prog 7 #[.int .u8 r, .slice va la.length ca, .slice vb lb.length cb] W fun e w' => e = .returned (.bool true) ∧ Below W.heap.size W w' := by
  have wA := f_writeA r la l1
  rw [if_neg hfit] at wA
  have wB := f_writeB r 2 0 PF.new rfl lb l2
  rw [if_neg (by first | exact hboth | (simpa using hboth))] at wB
  obtain ⟨dG, wG⟩ := f_writeG r 3 PF.new PF.new lb l2 (.inl rfl)
  rw [if_neg hlb] at wG
  have HN := Lib.hid (on_new W W (Below.refl _ _) r 0 0 false (.slice none 0 0))
  have HA := Lib.hid (fun (w : World) (p : Nat) (h : On W w p (fS r 2 PF.new PF.new)) => full_writeA r la l1 _ _ _ wA h1 h)
  have HB := Lib.hid (fun (w : World) (p : Nat) (h : On W w p (fS r 2 PF.new PF.new)) => full_writeB r 2 (by omega) PF.new fok_new lb l2 _ _ _ wB h2 h)
  have HG := Lib.hid (fun (w : World) (p : Nat) (h : On W w p (fS r 2 PF.new PF.new)) => full_gone r 2 (by omega) PF.new PF.new fok_new fok_new h)
  have HH := Lib.hid (fun (w : World) (p : Nat) (h : On W w p (fT r 3 PF.new PF.new)) => full_writeG r 3 (by omega) PF.new PF.new fok_new fok_new lb l2 _ _ _ wG h2 h)
  clear wA wB wG h1 h2
  have g1 : ¬ (300 : Int) < (la.length : Int) := by omega
  have g2 : ¬ (300 : Int) < (lb.length : Int) := by omega
  go_enter Try.func7, Try.ntmps7
  go_wp2_with (first | (go_at_call 15; (with_reducible refine HN.out.mono ?_); rintro e w0 ⟨p, rfl, ho0⟩; have HO0 := Lib.hid ho0; clear ho0) | (go_at_call 26; (with_reducible refine (full_make1 r HO0.out).mono ?_); rintro e w1 ⟨rfl, ho1⟩; have HO1 := Lib.hid ho1; clear ho1) | (go_at_call 26; (with_reducible refine (full_make2 r HO1.out).mono ?_); rintro e w2 ⟨rfl, ho2⟩; have HO2 := Lib.hid ho2; clear ho2) | (go_at_call 27; (with_reducible refine (HA.out _ _ HO2.out).mono ?_); rintro e w3 ⟨rfl, ho3⟩; have HO3 := Lib.hid ho3; clear ho3) | (go_at_call 27; (with_reducible refine (HB.out _ _ HO3.out).mono ?_); rintro e w4 ⟨rfl, ho4⟩; have HO4 := Lib.hid ho4; clear ho4) | (go_at_call 35; (with_reducible refine (HG.out _ _ HO4.out).mono ?_); rintro e w5 ⟨rfl, ho5⟩; have HO5 := Lib.hid ho5; clear ho5) | (go_at_call 27; (with_reducible refine (HH.out _ _ HO5.out).mono ?_); rintro e w6 ⟨rfl, ho6⟩; have HO6 := Lib.hid ho6; clear ho6) | (go_at_call 31; (with_reducible refine (num1_any _ _).mono ?_); rintro e w14 ⟨rfl, rfl⟩) | (go_at_call 14; (with_reducible refine (awake4_any _).mono ?_); rintro e w15 ⟨rfl, B15⟩))
  go_ret
  exact ⟨by first | rfl | simp [hlb], HO6.out.below.trans (Kept.below (Kept.of B15 (R := fun k => k < w6.heap.size) fun _ h => h) fun k hk => Nat.lt_of_lt_of_le hk HO6.out.below.size)⟩

set_option maxRecDepth 100000 in
set_option maxHeartbeats 8000000 in
set_option linter.unusedSimpArgs false in
theorem full_long (r : Int) (va vb : Option Addr) (ca cb : Nat) (n m : Nat) (W : World) (h : (300 : Int) < (n : Int) ∨ (300 : Int) < (m : Int)) :
    Calls Try.prog 7 #[.int .u8 r, .slice va n ca, .slice vb m cb] W fun e w' => e = .returned (.bool true) ∧ Below W.heap.size W w' := by
  by_cases hn : (300 : Int) < (n : Int)
  · clear h
    go_enter Try.func7, Try.ntmps7
    go_wp2_with (go_at_call 14; (with_reducible refine (awake4_any _).mono ?_); rintro e w15 ⟨rfl, B15⟩)
    go_ret
    exact ⟨rfl, B15⟩
  · have hm : (300 : Int) < (m : Int) := by omega
    clear h
    go_enter Try.func7, Try.ntmps7
    go_wp2_with (go_at_call 14; (with_reducible refine (awake4_any _).mono ?_); rintro e w15 ⟨rfl, B15⟩)
    go_ret
    exact ⟨rfl, B15⟩

theorem diskFull_walk (r : Int) (va : Value) (la : List UInt8) (vb : Value) (lb : List UInt8) (W : World) (hr : (Lit.int .u8 r).wf = true) (h1 : RdB W va la) (h2 : RdB W vb lb) :
    Calls Try.prog 7 #[.int .u8 r, va, vb] W fun e w' => e = .returned (.bool true) ∧ Below W.heap.size W w' := by
  obtain ⟨aa, ca, rfl, _, _⟩ := RdB.form h1
  obtain ⟨ab, cb, rfl, _, _⟩ := RdB.form h2
  have hrr : 0 ≤ r ∧ r ≤ 255 := by
    have := Go.bounds_u8 hr
    omega
  by_cases l1 : la.length ≤ 300
  · by_cases l2 : lb.length ≤ 300
    · by_cases hf : (la.length : Int) ≤ r
      · by_cases hb : (la.length : Int) + (lb.length : Int) ≤ r
        · exact full_case1 r hrr.1 hrr.2 aa ab ca cb la lb W h1 h2 l1 l2 hf hb (by omega)
        · by_cases hl : (lb.length : Int) ≤ r
          · exact full_case2 r hrr.1 hrr.2 aa ab ca cb la lb W h1 h2 l1 l2 hf hb hl
          · exact full_case3 r hrr.1 hrr.2 aa ab ca cb la lb W h1 h2 l1 l2 hf hb hl
      · by_cases hl : (lb.length : Int) ≤ r
        · exact full_case4 r hrr.1 hrr.2 aa ab ca cb la lb W h1 h2 l1 l2 hf hl hl
        · exact full_case5 r hrr.1 hrr.2 aa ab ca cb la lb W h1 h2 l1 l2 hf hl hl
    · exact full_long r aa ab ca cb la.length lb.length W (.inr (by omega))
  · exact full_long r aa ab ca cb la.length lb.length W (.inl (by omega))
end Go.Proofs.Ytlelmdfhjlbmnaa
