/-
  The walk of the statement DiskHoles.
-/
import Derived.Test.YtaljebhiacglpaaDiskLaw
namespace Go.Proofs.Ytaljebhiacglpaa
open Go.RowKit

set_option maxRecDepth 100000 in
set_option maxHeartbeats 8000000 in
set_option linter.unusedSimpArgs false in
theorem holes_out (va : Option Addr) (ca : Nat) (la : List UInt8) (W : World) (h1 : RdB W (.slice va la.length ca) la) (l1 : la.length ≤ 200) (at_ : Int) (n : Int) (hin : at_ < 0 ∨ (la.length : Int) < at_) :
    Calls Try.prog 11 #[.slice va la.length ca, .int .i64 at_, .int .i64 n] W fun e w' => e = .returned (.bool true) ∧ Below W.heap.size W w' := by
  have HN := Lib.hid (on_new W W (Below.refl _ _) 4194304 0 0 false (.slice none 0 0))
  have HM := Lib.hid (fun (w : World) (p : Nat) (h : On W w p (PD.new 4194304 0 false)) => on_make h (f0_small _) (by decide) ⟨#[120]⟩ (by decide) 0 _ (x1_make 4194304))
  have HW := Lib.hid (fun (w : World) (p : Nat) (h : On W w p (x1 4194304 1 PF.new (sfx false) (lsx true))) => on_write h (x1_small _ _ _ _ _ (by omega) fok_new) (by show 1 + 1 < 10000; omega) ⟨#[120]⟩ (by decide) 0 _ la h1 (by omega) 0 _ (x1_write 4194304 1 PF.new _ _ 0 la (Nat.zero_le _) (by omega) (by show ((0 : Nat) : Int) + (la.length : Int) ≤ 4194304; omega)))
  have hfl : (PF.new.wrote 0 la).now.length = la.length := by simp [PF.wrote, PF.new, wr]
  have hfk : FOk (PF.new.wrote 0 la) := fok_of (by simp [PF.wrote, PF.new, manyL]; omega) (by rw [hfl]; omega) (by simp [PF.wrote, PF.new]) ⟨Nat.zero_le _, trivial⟩
  have HR := Lib.hid (fun (w : World) (p : Nat) (h : On W w p (x1 4194304 2 (PF.new.wrote 0 la) (sfx false) (lsx true))) => on_read h (x1_small _ _ _ _ _ (by omega) hfk) ⟨#[120]⟩ (by decide) at_ n [] 1 (by rw [x1_read, hfl, if_pos (by omega)]))
  have HZ := Lib.hid (fun (w : World) (p : Nat) (h : On W w p (x1 4194304 2 (PF.new.wrote 0 la) (sfx false) (lsx true))) => on_write_new (w2 := w.alloc (.cells #[.int .u8 122] 5 (1, 2))) h ((Below.refl _ _).alloc (Nat.le_refl _) _) (x1_small _ _ _ _ _ (by omega) hfk) (by show 2 + 1 < 10000; omega) ⟨#[120]⟩ (by decide) at_ (.slice (some ⟨w.heap.size, 0, none⟩) 1 1) [122] (rd_const1 w 122) (by decide) (fun _ k e => by cases e; exact .inl (Nat.le_refl _)) 1 _ (write_out (id := 0) rfl (x1_find ..) (by rw [show ((x1 4194304 2 (PF.new.wrote 0 la) (sfx false) (lsx true)).file 0) = (PF.new.wrote 0 la) from rfl, hfl]; exact hin)))
  have HS := Lib.hid (fun (w : World) (p : Nat) (h : On W w p (x1 4194304 2 (PF.new.wrote 0 la) (sfx false) (lsx true))) => on_size h (x1_small _ _ _ _ _ (by omega) hfk) ⟨#[120]⟩ (by decide) la.length true (by rw [x1_size, hfl]))
  have g1 : ¬ (200 : Int) < (la.length : Int) := by omega
  clear h1 hfk
  have hcv := fun (w : World) (C : Array Value) (n c : Nat) => Lib.run_convert_bytes_const (P := Try.prog) w 32 5 C n c Try.underlying32 Try.underlying5
  by_cases q1 : at_ < 0
  · go_enter Try.func11, Try.ntmps11
    go_wp2_with (first | (go_at_call 15; (with_reducible refine (HN.out).mono ?_); rintro e w0 ⟨p, rfl, h0⟩; have H0 := Lib.hid h0; clear h0) | (go_at_call 26; (with_reducible refine (HM.out _ _ H0.out).mono ?_); rintro e w1 ⟨rfl, h1⟩; have H1 := Lib.hid h1; clear h1) | (go_at_call 27; (with_reducible refine (HW.out _ _ H1.out).mono ?_); rintro e w2 ⟨rfl, h2⟩; have H2 := Lib.hid h2; clear h2) | (go_at_call 33; (with_reducible refine (HR.out _ _ H2.out).mono ?_); rintro e w3 ⟨xa, xc, rfl, h3⟩; have H3 := Lib.hid h3.on; clear h3) | (go_at_call 27; (with_reducible refine (HZ.out _ _ H3.out).mono ?_); rintro e w4 ⟨rfl, h4⟩; have H4 := Lib.hid h4; clear h4) | (go_at_call 34; (with_reducible refine (HS.out _ _ H4.out).mono ?_); rintro e w5 ⟨rfl, rfl⟩) | (go_at_call 31; (with_reducible refine (num1_any _ _).mono ?_); rintro e w14 ⟨rfl, rfl⟩) | (go_at_call 14; (with_reducible refine (awake4_any _).mono ?_); rintro e w15 ⟨rfl, B15⟩))
    go_ret
    exact ⟨by first | rfl | (show Ending.returned (Value.bool !decide (0 ≤ n)) = _; rw [decide_eq_false (by omega)]; rfl), H4.out.below.trans (Kept.below (Kept.of B15 (R := fun k => k < w4.heap.size) fun _ h => h) fun k hk => Nat.lt_of_lt_of_le hk H4.out.below.size)⟩
  · have q2 : (la.length : Int) < at_ := by omega
    go_enter Try.func11, Try.ntmps11
    go_wp2_with (first | (go_at_call 15; (with_reducible refine (HN.out).mono ?_); rintro e w0 ⟨p, rfl, h0⟩; have H0 := Lib.hid h0; clear h0) | (go_at_call 26; (with_reducible refine (HM.out _ _ H0.out).mono ?_); rintro e w1 ⟨rfl, h1⟩; have H1 := Lib.hid h1; clear h1) | (go_at_call 27; (with_reducible refine (HW.out _ _ H1.out).mono ?_); rintro e w2 ⟨rfl, h2⟩; have H2 := Lib.hid h2; clear h2) | (go_at_call 33; (with_reducible refine (HR.out _ _ H2.out).mono ?_); rintro e w3 ⟨xa, xc, rfl, h3⟩; have H3 := Lib.hid h3.on; clear h3) | (go_at_call 27; (with_reducible refine (HZ.out _ _ H3.out).mono ?_); rintro e w4 ⟨rfl, h4⟩; have H4 := Lib.hid h4; clear h4) | (go_at_call 34; (with_reducible refine (HS.out _ _ H4.out).mono ?_); rintro e w5 ⟨rfl, rfl⟩) | (go_at_call 31; (with_reducible refine (num1_any _ _).mono ?_); rintro e w14 ⟨rfl, rfl⟩) | (go_at_call 14; (with_reducible refine (awake4_any _).mono ?_); rintro e w15 ⟨rfl, B15⟩))
    go_ret
    exact ⟨by first | rfl | (show Ending.returned (Value.bool !decide (0 ≤ n)) = _; rw [decide_eq_false (by omega)]; rfl), H4.out.below.trans (Kept.below (Kept.of B15 (R := fun k => k < w4.heap.size) fun _ h => h) fun k hk => Nat.lt_of_lt_of_le hk H4.out.below.size)⟩

set_option maxRecDepth 100000 in
set_option maxHeartbeats 8000000 in
set_option linter.unusedSimpArgs false in
theorem holes_neg (va : Option Addr) (ca : Nat) (la : List UInt8) (W : World) (h1 : RdB W (.slice va la.length ca) la) (l1 : la.length ≤ 200) (n : Int) (i : Nat) (hin : i ≤ la.length) (hn : n < 0) :
    Calls Try.prog 11 #[.slice va la.length ca, .int .i64 (i : Int), .int .i64 n] W fun e w' => e = .returned (.bool true) ∧ Below W.heap.size W w' := by
  have HN := Lib.hid (on_new W W (Below.refl _ _) 4194304 0 0 false (.slice none 0 0))
  have HM := Lib.hid (fun (w : World) (p : Nat) (h : On W w p (PD.new 4194304 0 false)) => on_make h (f0_small _) (by decide) ⟨#[120]⟩ (by decide) 0 _ (x1_make 4194304))
  have HW := Lib.hid (fun (w : World) (p : Nat) (h : On W w p (x1 4194304 1 PF.new (sfx false) (lsx true))) => on_write h (x1_small _ _ _ _ _ (by omega) fok_new) (by show 1 + 1 < 10000; omega) ⟨#[120]⟩ (by decide) 0 _ la h1 (by omega) 0 _ (x1_write 4194304 1 PF.new _ _ 0 la (Nat.zero_le _) (by omega) (by show ((0 : Nat) : Int) + (la.length : Int) ≤ 4194304; omega)))
  have hfl : (PF.new.wrote 0 la).now.length = la.length := by simp [PF.wrote, PF.new, wr]
  have hfk : FOk (PF.new.wrote 0 la) := fok_of (by simp [PF.wrote, PF.new, manyL]; omega) (by rw [hfl]; omega) (by simp [PF.wrote, PF.new]) ⟨Nat.zero_le _, trivial⟩
  have HR := Lib.hid (fun (w : World) (p : Nat) (h : On W w p (x1 4194304 2 (PF.new.wrote 0 la) (sfx false) (lsx true))) => on_read h (x1_small _ _ _ _ _ (by omega) hfk) ⟨#[120]⟩ (by decide) (i : Int) n [] 1 (by rw [x1_read, hfl, if_pos (.inr (.inr hn))]))
  have HZ := Lib.hid (fun (w : World) (p : Nat) (h : On W w p (x1 4194304 2 (PF.new.wrote 0 la) (sfx false) (lsx true))) => on_write_new (w2 := w.alloc (.cells #[.int .u8 122] 5 (1, 2))) h ((Below.refl _ _).alloc (Nat.le_refl _) _) (x1_small _ _ _ _ _ (by omega) hfk) (by show 2 + 1 < 10000; omega) ⟨#[120]⟩ (by decide) (i : Int) (.slice (some ⟨w.heap.size, 0, none⟩) 1 1) [122] (rd_const1 w 122) (by decide) (fun _ k e => by cases e; exact .inl (Nat.le_refl _)) 0 _ (x1_write 4194304 2 (PF.new.wrote 0 la) _ _ i [122] (by rw [hfl]; exact hin) (by simp; omega) (by rw [hfl]; simp; omega)))
  have hl3 : ((PF.new.wrote 0 la).wrote i [122]).now.length = max la.length (i + 1) := by show (wr (PF.new.wrote 0 la).now i [122]).length = _; rw [wr_length _ _ _ (by rw [hfl]; exact hin), hfl]; rfl
  have hfk3 : FOk ((PF.new.wrote 0 la).wrote i [122]) := fok_of (by simp [PF.wrote, PF.new, manyL]; omega) (by rw [hl3]; omega) (by simp [PF.wrote, PF.new]) ⟨Nat.zero_le _, by show i ≤ (wr [] 0 la).length; simp [wr]; omega, trivial⟩
  have HS := Lib.hid (fun (w : World) (p : Nat) (h : On W w p (x1 4194304 3 ((PF.new.wrote 0 la).wrote i [122]) (sfx false) (lsx true))) => on_size h (x1_small _ _ _ _ _ (by omega) hfk3) ⟨#[120]⟩ (by decide) (max la.length (i + 1)) true (by rw [x1_size, hl3]))
  have g1 : ¬ (200 : Int) < (la.length : Int) := by omega
  clear h1 hfk
  have hcv := fun (w : World) (C : Array Value) (n c : Nat) => Lib.run_convert_bytes_const (P := Try.prog) w 32 5 C n c Try.underlying32 Try.underlying5
  have q0 : ¬ (i : Int) < 0 := by omega
  have q1 : ¬ (la.length : Int) < (i : Int) := by omega
  by_cases q2 : i = la.length
  · subst q2
    have q3 : max la.length (la.length + 1) = la.length + 1 := by omega
    go_enter Try.func11, Try.ntmps11
    go_wp2_with (first | (go_at_call 15; (with_reducible refine (HN.out).mono ?_); rintro e w0 ⟨p, rfl, h0⟩; have H0 := Lib.hid h0; clear h0) | (go_at_call 26; (with_reducible refine (HM.out _ _ H0.out).mono ?_); rintro e w1 ⟨rfl, h1⟩; have H1 := Lib.hid h1; clear h1) | (go_at_call 27; (with_reducible refine (HW.out _ _ H1.out).mono ?_); rintro e w2 ⟨rfl, h2⟩; have H2 := Lib.hid h2; clear h2) | (go_at_call 33; (with_reducible refine (HR.out _ _ H2.out).mono ?_); rintro e w3 ⟨xa, xc, rfl, h3⟩; have H3 := Lib.hid h3.on; clear h3) | (go_at_call 27; (with_reducible refine (HZ.out _ _ H3.out).mono ?_); rintro e w4 ⟨rfl, h4⟩; have H4 := Lib.hid h4; clear h4) | (go_at_call 34; (with_reducible refine (HS.out _ _ H4.out).mono ?_); rintro e w5 ⟨rfl, rfl⟩) | (go_at_call 31; (with_reducible refine (num1_any _ _).mono ?_); rintro e w14 ⟨rfl, rfl⟩) | (go_at_call 14; (with_reducible refine (awake4_any _).mono ?_); rintro e w15 ⟨rfl, B15⟩))
    go_ret
    exact ⟨by first | rfl | (show Ending.returned (Value.bool !decide (0 ≤ n)) = _; rw [decide_eq_false (by omega)]; rfl), H4.out.below.trans (Kept.below (Kept.of B15 (R := fun k => k < w4.heap.size) fun _ h => h) fun k hk => Nat.lt_of_lt_of_le hk H4.out.below.size)⟩
  · have q3 : max la.length (i + 1) = la.length := by omega
    have q4 : ¬ (i : Int) = (la.length : Int) := by omega
    go_enter Try.func11, Try.ntmps11
    go_wp2_with (first | (go_at_call 15; (with_reducible refine (HN.out).mono ?_); rintro e w0 ⟨p, rfl, h0⟩; have H0 := Lib.hid h0; clear h0) | (go_at_call 26; (with_reducible refine (HM.out _ _ H0.out).mono ?_); rintro e w1 ⟨rfl, h1⟩; have H1 := Lib.hid h1; clear h1) | (go_at_call 27; (with_reducible refine (HW.out _ _ H1.out).mono ?_); rintro e w2 ⟨rfl, h2⟩; have H2 := Lib.hid h2; clear h2) | (go_at_call 33; (with_reducible refine (HR.out _ _ H2.out).mono ?_); rintro e w3 ⟨xa, xc, rfl, h3⟩; have H3 := Lib.hid h3.on; clear h3) | (go_at_call 27; (with_reducible refine (HZ.out _ _ H3.out).mono ?_); rintro e w4 ⟨rfl, h4⟩; have H4 := Lib.hid h4; clear h4) | (go_at_call 34; (with_reducible refine (HS.out _ _ H4.out).mono ?_); rintro e w5 ⟨rfl, rfl⟩) | (go_at_call 31; (with_reducible refine (num1_any _ _).mono ?_); rintro e w14 ⟨rfl, rfl⟩) | (go_at_call 14; (with_reducible refine (awake4_any _).mono ?_); rintro e w15 ⟨rfl, B15⟩))
    go_ret
    exact ⟨by first | rfl | (show Ending.returned (Value.bool !decide (0 ≤ n)) = _; rw [decide_eq_false (by omega)]; rfl), H4.out.below.trans (Kept.below (Kept.of B15 (R := fun k => k < w4.heap.size) fun _ h => h) fun k hk => Nat.lt_of_lt_of_le hk H4.out.below.size)⟩

set_option maxRecDepth 100000 in
set_option maxHeartbeats 8000000 in
set_option linter.unusedSimpArgs false in
theorem holes_ok (va : Option Addr) (ca : Nat) (la : List UInt8) (W : World) (h1 : RdB W (.slice va la.length ca) la) (l1 : la.length ≤ 200) (n : Int) (i : Nat) (hin : i ≤ la.length) (hn : 0 ≤ n) :
    Calls Try.prog 11 #[.slice va la.length ca, .int .i64 (i : Int), .int .i64 n] W fun e w' => e = .returned (.bool true) ∧ Below W.heap.size W w' := by
  have HN := Lib.hid (on_new W W (Below.refl _ _) 4194304 0 0 false (.slice none 0 0))
  have HM := Lib.hid (fun (w : World) (p : Nat) (h : On W w p (PD.new 4194304 0 false)) => on_make h (f0_small _) (by decide) ⟨#[120]⟩ (by decide) 0 _ (x1_make 4194304))
  have HW := Lib.hid (fun (w : World) (p : Nat) (h : On W w p (x1 4194304 1 PF.new (sfx false) (lsx true))) => on_write h (x1_small _ _ _ _ _ (by omega) fok_new) (by show 1 + 1 < 10000; omega) ⟨#[120]⟩ (by decide) 0 _ la h1 (by omega) 0 _ (x1_write 4194304 1 PF.new _ _ 0 la (Nat.zero_le _) (by omega) (by show ((0 : Nat) : Int) + (la.length : Int) ≤ 4194304; omega)))
  have hfl : (PF.new.wrote 0 la).now.length = la.length := by simp [PF.wrote, PF.new, wr]
  have hfk : FOk (PF.new.wrote 0 la) := fok_of (by simp [PF.wrote, PF.new, manyL]; omega) (by rw [hfl]; omega) (by simp [PF.wrote, PF.new]) ⟨Nat.zero_le _, trivial⟩
  have HR := Lib.hid (fun (w : World) (p : Nat) (h : On W w p (x1 4194304 2 (PF.new.wrote 0 la) (sfx false) (lsx true))) => on_read h (x1_small _ _ _ _ _ (by omega) hfk) ⟨#[120]⟩ (by decide) (i : Int) n (((PF.new.wrote 0 la).now.drop i).take n.toNat) 0 (by rw [x1_read, hfl, if_neg (by omega)]; rfl))
  have HZ := Lib.hid (fun (w : World) (p : Nat) (h : On W w p (x1 4194304 2 (PF.new.wrote 0 la) (sfx false) (lsx true))) => on_write_new (w2 := w.alloc (.cells #[.int .u8 122] 5 (1, 2))) h ((Below.refl _ _).alloc (Nat.le_refl _) _) (x1_small _ _ _ _ _ (by omega) hfk) (by show 2 + 1 < 10000; omega) ⟨#[120]⟩ (by decide) (i : Int) (.slice (some ⟨w.heap.size, 0, none⟩) 1 1) [122] (rd_const1 w 122) (by decide) (fun _ k e => by cases e; exact .inl (Nat.le_refl _)) 0 _ (x1_write 4194304 2 (PF.new.wrote 0 la) _ _ i [122] (by rw [hfl]; exact hin) (by simp; omega) (by rw [hfl]; simp; omega)))
  have hl3 : ((PF.new.wrote 0 la).wrote i [122]).now.length = max la.length (i + 1) := by show (wr (PF.new.wrote 0 la).now i [122]).length = _; rw [wr_length _ _ _ (by rw [hfl]; exact hin), hfl]; rfl
  have hfk3 : FOk ((PF.new.wrote 0 la).wrote i [122]) := fok_of (by simp [PF.wrote, PF.new, manyL]; omega) (by rw [hl3]; omega) (by simp [PF.wrote, PF.new]) ⟨Nat.zero_le _, by show i ≤ (wr [] 0 la).length; simp [wr]; omega, trivial⟩
  have HS := Lib.hid (fun (w : World) (p : Nat) (h : On W w p (x1 4194304 3 ((PF.new.wrote 0 la).wrote i [122]) (sfx false) (lsx true))) => on_size h (x1_small _ _ _ _ _ (by omega) hfk3) ⟨#[120]⟩ (by decide) (max la.length (i + 1)) true (by rw [x1_size, hl3]))
  have g1 : ¬ (200 : Int) < (la.length : Int) := by omega
  clear h1 hfk
  have hcv := fun (w : World) (C : Array Value) (n c : Nat) => Lib.run_convert_bytes_const (P := Try.prog) w 32 5 C n c Try.underlying32 Try.underlying5
  have q0 : ¬ (i : Int) < 0 := by omega
  have q1 : ¬ (la.length : Int) < (i : Int) := by omega
  by_cases q2 : i = la.length
  · subst q2
    have q3 : max la.length (la.length + 1) = la.length + 1 := by omega
    go_enter Try.func11, Try.ntmps11
    go_wp2_with (first | (go_at_call 15; (with_reducible refine (HN.out).mono ?_); rintro e w0 ⟨p, rfl, h0⟩; have H0 := Lib.hid h0; clear h0) | (go_at_call 26; (with_reducible refine (HM.out _ _ H0.out).mono ?_); rintro e w1 ⟨rfl, h1⟩; have H1 := Lib.hid h1; clear h1) | (go_at_call 27; (with_reducible refine (HW.out _ _ H1.out).mono ?_); rintro e w2 ⟨rfl, h2⟩; have H2 := Lib.hid h2; clear h2) | (go_at_call 33; (with_reducible refine (HR.out _ _ H2.out).mono ?_); rintro e w3 ⟨xa, xc, rfl, h3⟩; have H3 := Lib.hid h3.on; clear h3) | (go_at_call 27; (with_reducible refine (HZ.out _ _ H3.out).mono ?_); rintro e w4 ⟨rfl, h4⟩; have H4 := Lib.hid h4; clear h4) | (go_at_call 34; (with_reducible refine (HS.out _ _ H4.out).mono ?_); rintro e w5 ⟨rfl, rfl⟩) | (go_at_call 31; (with_reducible refine (num1_any _ _).mono ?_); rintro e w14 ⟨rfl, rfl⟩) | (go_at_call 14; (with_reducible refine (awake4_any _).mono ?_); rintro e w15 ⟨rfl, B15⟩))
    go_ret
    exact ⟨by first | rfl | (show Ending.returned (Value.bool !decide (0 ≤ n)) = _; rw [decide_eq_false (by omega)]; rfl), H4.out.below.trans (Kept.below (Kept.of B15 (R := fun k => k < w4.heap.size) fun _ h => h) fun k hk => Nat.lt_of_lt_of_le hk H4.out.below.size)⟩
  · have q3 : max la.length (i + 1) = la.length := by omega
    have q4 : ¬ (i : Int) = (la.length : Int) := by omega
    go_enter Try.func11, Try.ntmps11
    go_wp2_with (first | (go_at_call 15; (with_reducible refine (HN.out).mono ?_); rintro e w0 ⟨p, rfl, h0⟩; have H0 := Lib.hid h0; clear h0) | (go_at_call 26; (with_reducible refine (HM.out _ _ H0.out).mono ?_); rintro e w1 ⟨rfl, h1⟩; have H1 := Lib.hid h1; clear h1) | (go_at_call 27; (with_reducible refine (HW.out _ _ H1.out).mono ?_); rintro e w2 ⟨rfl, h2⟩; have H2 := Lib.hid h2; clear h2) | (go_at_call 33; (with_reducible refine (HR.out _ _ H2.out).mono ?_); rintro e w3 ⟨xa, xc, rfl, h3⟩; have H3 := Lib.hid h3.on; clear h3) | (go_at_call 27; (with_reducible refine (HZ.out _ _ H3.out).mono ?_); rintro e w4 ⟨rfl, h4⟩; have H4 := Lib.hid h4; clear h4) | (go_at_call 34; (with_reducible refine (HS.out _ _ H4.out).mono ?_); rintro e w5 ⟨rfl, rfl⟩) | (go_at_call 31; (with_reducible refine (num1_any _ _).mono ?_); rintro e w14 ⟨rfl, rfl⟩) | (go_at_call 14; (with_reducible refine (awake4_any _).mono ?_); rintro e w15 ⟨rfl, B15⟩))
    go_ret
    exact ⟨by first | rfl | (show Ending.returned (Value.bool !decide (0 ≤ n)) = _; rw [decide_eq_false (by omega)]; rfl), H4.out.below.trans (Kept.below (Kept.of B15 (R := fun k => k < w4.heap.size) fun _ h => h) fun k hk => Nat.lt_of_lt_of_le hk H4.out.below.size)⟩

set_option maxRecDepth 100000 in
set_option maxHeartbeats 8000000 in
set_option linter.unusedSimpArgs false in
theorem diskHoles_walk (v : Value) (l : List UInt8) (a n : Int) (W : World) (hv : RdB W v l) (_ : (Lit.int .i64 a).wf = true) (_ : (Lit.int .i64 n).wf = true) :
    Calls Try.prog 11 #[v, .int .i64 a, .int .i64 n] W fun e w' => e = .returned (.bool true) ∧ Below W.heap.size W w' := by
  have hv0 := hv
  obtain ⟨va, vc, rfl, _, _⟩ := RdB.form hv
  by_cases hl : l.length ≤ 200
  · by_cases hin : a < 0 ∨ (l.length : Int) < a
    · exact holes_out va vc l W hv0 hl a n hin
    · obtain ⟨i, rfl⟩ := Int.eq_ofNat_of_zero_le (show 0 ≤ a by omega)
      by_cases hn : n < 0
      · exact holes_neg va vc l W hv0 hl n i (by omega) hn
      · exact holes_ok va vc l W hv0 hl n i (by omega) (by omega)
  · clear hv hv0
    go_enter Try.func11, Try.ntmps11
    go_wp2_with (go_at_call 14; (with_reducible refine (awake4_any _).mono ?_); rintro e w15 ⟨rfl, B15⟩)
    go_ret
    exact ⟨rfl, B15⟩
end Go.Proofs.Ytaljebhiacglpaa
