/-
  What cmp.Compare does at bytes and numbers; what key.Cmp does, for every two keys.
-/
import Derived.Test.YtnmmeaoapfampaaKeyMay
import Derived.Deep.QuietTactic
import Derived.BigQuiet
namespace Go.Proofs.Ytnmmeaoapfampaa
open Go.RowKit

set_option maxRecDepth 100000 in
theorem isNaN_int (a : Int) (w : World) : Calls Try.prog 49 #[.int .i64 a] w fun e w' => e = .returned (.bool false) ∧ w = w' := by
  go_enter Try.func49, Try.ntmps49
  go_wp2
  go_ret
  exact ⟨rfl, rfl⟩

set_option maxRecDepth 100000 in
theorem isNaN_byte (a : Int) (w : World) : Calls Try.prog 48 #[.int .u8 a] w fun e w' => e = .returned (.bool false) ∧ w = w' := by
  go_enter Try.func48, Try.ntmps48
  go_wp2
  go_ret
  exact ⟨rfl, rfl⟩

set_option maxRecDepth 100000 in
theorem compare_int (a b : Int) (w : World) : Calls Try.prog 42 #[.int .i64 a, .int .i64 b] w fun e w' => e = .returned (.int .i64 (cmpZ a b)) ∧ w = w' := by
  go_enter Try.func42, Try.ntmps42
  go_wp2_with (go_at_call 49; refine (isNaN_int _ _).mono ?_; rintro e w' ⟨rfl, rfl⟩)
  all_goals
    go_ret
    refine ⟨ret_num ?_, rfl⟩
    unfold cmpZ
    (repeat' split) <;> omega

set_option maxRecDepth 100000 in
theorem compare_byte (a b : Int) (w : World) : Calls Try.prog 41 #[.int .u8 a, .int .u8 b] w fun e w' => e = .returned (.int .i64 (cmpZ a b)) ∧ w = w' := by
  go_enter Try.func41, Try.ntmps41
  go_wp2_with (go_at_call 48; refine (isNaN_byte _ _).mono ?_; rintro e w' ⟨rfl, rfl⟩)
  all_goals
    go_ret
    refine ⟨ret_num ?_, rfl⟩
    unfold cmpZ
    (repeat' split) <;> omega

/-- A callee that leaves the world as it is. -/
theorem quiet_eq {P : Program} {f : FuncId} {args : Array Value} {w : World} {n : Nat} {v : Value} (h : Calls P f args (w.drewN n) fun e w' => e = .returned v ∧ w.drewN n = w') :
    Calls P f args (w.drewN n) fun e w'' => e = .returned v ∧ ∃ m, w'' = w.drewN m :=
  h.mono fun _ _ ⟨he, hm⟩ => ⟨he, n, hm.symm⟩

set_option maxRecDepth 100000 in
set_option maxHeartbeats 1000000 in
theorem cmp_any (u1 : ByteArray) (s1 k1 : Int) (u2 : ByteArray) (s2 k2 : Int) (hu1 : u1.size ≤ maxLen) (hu2 : u2.size ≤ maxLen) (w : World) :
    Calls Try.prog 33 #[.agg #[.string u1, .int .i64 s1, .int .i64 k1], .agg #[.string u2, .int .i64 s2, .int .i64 k2]] w
      fun e w' => e = .returned (.int .i64 (cmpK u1.data.toList s1 k1 u2.data.toList s2 k2)) ∧ Below w.heap.size w w' := by
  unfold maxLen at hu1 hu2
  go_enter Try.func33, Try.ntmps33
  go_wp2
  go_loopw [5, 6] (fun c p wr => Below w.heap.size w wr ∧ wr.cell? ⟨w.heap.size, 0, none⟩ = some (.string u1) ∧ wr.cell? ⟨w.heap.size, 1, none⟩ = some (.int .i64 s1) ∧ wr.cell? ⟨w.heap.size, 2, none⟩ = some (.int .i64 k1) ∧
      wr.cell? ⟨w.heap.size + 1, 0, none⟩ = some (.string u2) ∧ wr.cell? ⟨w.heap.size + 1, 1, none⟩ = some (.int .i64 s2) ∧ wr.cell? ⟨w.heap.size + 1, 2, none⟩ = some (.int .i64 k2) ∧
      ((p = .int .i64 0 ∧ c = .int .i64 0) ∨ (p = .int .i64 1 ∧ ∃ x : Int, c = .int .i64 x ∧ x = cmpL u1.data.toList u2.data.toList) ∨
       (p = .int .i64 2 ∧ cmpL u1.data.toList u2.data.toList = 0 ∧ ∃ x : Int, c = .int .i64 x ∧ x = cmpZ s2 s1) ∨
       (p = .int .i64 3 ∧ cmpL u1.data.toList u2.data.toList = 0 ∧ cmpZ s2 s1 = 0 ∧ ∃ x : Int, c = .int .i64 x ∧ x = cmpZ k2 k1)))
    (fun _ p _ => 3 - (intOf p).toNat)
  case atStart =>
    refine ⟨((Below.refl _ _).alloc (Nat.le_refl _) _).alloc (by simp) _, ?_, ?_, ?_, ?_, ?_, ?_, .inl ⟨rfl, rfl⟩⟩
    all_goals go_simp
  case round =>
    obtain ⟨hb, d0, d1, d2, e0, e1, e2, hp⟩ := hrel
    rcases hp with ⟨rfl, rfl⟩ | ⟨rfl, x, rfl, hx⟩ | ⟨rfl, h1, x, rfl, hx⟩ | ⟨rfl, h1, h2, x, rfl, hx⟩
    · rcases Nat.lt_or_ge u2.size u1.size with hmin | hmin
      all_goals
        go_wp2
        go_step3
        go_wp2
        go_step3
        go_wp2
        go_loopw [5, 26] (fun c i wq => ∃ k : Nat, k ≤ u1.size ∧ k ≤ u2.size ∧ i = .int .i64 k ∧ c = .int .i64 0 ∧ cmpL u1.data.toList u2.data.toList = cmpL (u1.data.toList.drop k) (u2.data.toList.drop k) ∧ Below w.heap.size w wq ∧
      wq.cell? ⟨w.heap.size, 0, none⟩ = some (.string u1) ∧ wq.cell? ⟨w.heap.size, 1, none⟩ = some (.int .i64 s1) ∧ wq.cell? ⟨w.heap.size, 2, none⟩ = some (.int .i64 k1) ∧
      wq.cell? ⟨w.heap.size + 1, 0, none⟩ = some (.string u2) ∧ wq.cell? ⟨w.heap.size + 1, 1, none⟩ = some (.int .i64 s2) ∧ wq.cell? ⟨w.heap.size + 1, 2, none⟩ = some (.int .i64 k2))
          (fun _ i _ => u1.size - (intOf i).toNat)
        case atStart => exact ⟨0, Nat.zero_le _, Nat.zero_le _, rfl, rfl, rfl, hb, d0, d1, d2, e0, e1, e2⟩
        case round =>
          clear hb d0 d1 d2 e0 e1 e2
          obtain ⟨k, hk1, hk2, rfl, rfl, hc, hb, d0, d1, d2, e0, e1, e2⟩ := hrel
          have HC := Lib.hid hc
          clear hc
          by_cases hlt : k < u1.size ∧ k < u2.size
          · obtain ⟨hlt1, hlt2⟩ := hlt
            by_cases hz : u1[k].toNat = u2[k].toNat
            · have hz0 : cmpZ (u1[k].toNat : Int) (u2[k].toNat : Int) = 0 := (cmpZ_zero _ _).2 (by omega)
              have hz1 : (cmpZ (u1[k].toNat : Int) (u2[k].toNat : Int) != 0) = false := by rw [hz0]; rfl
              have hc' := cmpL_same u1.data.toList u2.data.toList k (by rw [str_len]; exact hlt1) (by rw [str_len]; exact hlt2) (by rw [str_at u1 k hlt1, str_at u2 k hlt2]; exact hz) HC.out
              have HC' := Lib.hid hc'
              have HZ := Lib.hid hz0
              clear hc' hz0 hz HC
              go_wp2
              go_quiet ((go_at_call 41; exact quiet_eq (compare_byte _ _ _)))
              go_wp2
              go_roundw
              case rel => exact ⟨k + 1, by omega, by omega, by go_num, congrArg (Value.int .i64) HZ.out, HC'.out, below_drewN hb _, d0, d1, d2, e0, e1, e2⟩
              case measure => simp [intOf]; omega
            · have hz1 : (cmpZ (u1[k].toNat : Int) (u2[k].toNat : Int) != 0) = true := by
                have : cmpZ (u1[k].toNat : Int) (u2[k].toNat : Int) ≠ 0 := fun h => hz (by have := (cmpZ_zero _ _).1 h; omega)
                simpa using this
              have hc' := cmpL_differ u1.data.toList u2.data.toList k (by rw [str_len]; exact hlt1) (by rw [str_len]; exact hlt2) (by rw [str_at u1 k hlt1, str_at u2 k hlt2]; exact hz) HC.out
              rw [str_at u1 k hlt1, str_at u2 k hlt2] at hc'
              have HC' := Lib.hid hc'
              clear hc' hz HC
              go_wp2
              go_quiet ((go_at_call 41; exact quiet_eq (compare_byte _ _ _)))
              go_wp2
              rw [Exit.noGoto_normal]
              go_wp2
              go_roundw
              case rel => exact ⟨below_drewN hb _, d0, d1, d2, e0, e1, e2, .inr (.inl ⟨rfl, _, rfl, HC'.out.symm⟩)⟩
              case measure => simp [intOf]
          · have hc' := cmpL_end u1.data.toList u2.data.toList k (by rw [str_len]; exact hk1) (by rw [str_len]; exact hk2) (by rw [str_len, str_len]; omega) HC.out
            rw [str_len, str_len] at hc'
            have HC' := Lib.hid hc'
            clear hc' HC
            rcases Nat.lt_or_ge k u1.size with g1 | g1
            · have g2 : ¬ k < u2.size := by omega
              clear hlt
              first
              | (exfalso; omega)
              | (have g3 : ¬ (k : Int) < (u2.size : Int) := (by omega)
                 go_wp2_with (go_at_call 42; refine (compare_int _ _ _).mono ?_; rintro e w' ⟨rfl, rfl⟩)
                 rw [Exit.noGoto_normal]
                 go_wp2
                 go_roundw
                 case rel => exact ⟨hb, d0, d1, d2, e0, e1, e2, .inr (.inl ⟨rfl, _, rfl, HC'.out.symm⟩)⟩
                 case measure => simp [intOf])
            · clear hlt
              rcases Nat.lt_or_ge k u2.size with g2 | g2
              · have g3 : ¬ (k : Int) < (u1.size : Int) := by omega
                have g4 : (k : Int) < (u2.size : Int) := by omega
                first
                | (exfalso; omega)
                | (go_wp2_with (go_at_call 42; refine (compare_int _ _ _).mono ?_; rintro e w' ⟨rfl, rfl⟩)
                   rw [Exit.noGoto_normal]
                   go_wp2
                   go_roundw
                   case rel => exact ⟨hb, d0, d1, d2, e0, e1, e2, .inr (.inl ⟨rfl, _, rfl, HC'.out.symm⟩)⟩
                   case measure => simp [intOf])
              · have g3 : ¬ (k : Int) < (u1.size : Int) := by omega
                have g4 : ¬ (k : Int) < (u2.size : Int) := by omega
                first
                | (exfalso; omega)
                | (go_wp2_with (go_at_call 42; refine (compare_int _ _ _).mono ?_; rintro e w' ⟨rfl, rfl⟩)
                   rw [Exit.noGoto_normal]
                   go_wp2
                   go_roundw
                   case rel => exact ⟨hb, d0, d1, d2, e0, e1, e2, .inr (.inl ⟨rfl, _, rfl, HC'.out.symm⟩)⟩
                   case measure => simp [intOf])
    · by_cases h0 : x = 0
      · subst h0
        have HX := Lib.hid hx.symm
        clear hx
        go_wp2
        go_step3
        go_wp2
        go_step3
        go_wp2_with (go_at_call 42; refine (compare_int _ _ _).mono ?_; rintro e w' ⟨rfl, rfl⟩)
        rw [Exit.noGoto_normal]
        go_wp2
        go_roundw
        case rel => exact ⟨hb, d0, d1, d2, e0, e1, e2, .inr (.inr (.inl ⟨rfl, HX.out, _, rfl, rfl⟩))⟩
        case measure => simp [intOf]
      · have HX := Lib.hid hx
        have g0 : (x == 0) = false := by simpa using h0
        have HF : Hid (x = cmpK u1.data.toList s1 k1 u2.data.toList s2 k2) := Lib.hid (by unfold cmpK lex; rw [← HX.out, if_neg h0])
        clear hx h0
        go_wp2
        go_ret
        exact ⟨ret_num HF.out, hb⟩
    · by_cases h0 : x = 0
      · subst h0
        have HX := Lib.hid hx.symm
        have H1 := Lib.hid h1
        clear hx h1
        go_wp2
        go_step3
        go_wp2
        go_step3
        go_wp2_with (go_at_call 42; refine (compare_int _ _ _).mono ?_; rintro e w' ⟨rfl, rfl⟩)
        rw [Exit.noGoto_normal]
        go_wp2
        go_roundw
        case rel => exact ⟨hb, d0, d1, d2, e0, e1, e2, .inr (.inr (.inr ⟨rfl, H1.out, HX.out, _, rfl, rfl⟩))⟩
        case measure => simp [intOf]
      · have g0 : (x == 0) = false := by simpa using h0
        have HF : Hid (x = cmpK u1.data.toList s1 k1 u2.data.toList s2 k2) := Lib.hid (by unfold cmpK lex; rw [if_pos h1, ← hx, if_neg h0])
        clear hx h0 h1
        go_wp2
        go_ret
        exact ⟨ret_num HF.out, hb⟩
    · have HF : Hid (x = cmpK u1.data.toList s1 k1 u2.data.toList s2 k2) := Lib.hid (by unfold cmpK lex; rw [if_pos h1, if_pos h2, ← hx])
      clear hx h1 h2
      go_wp2
      go_ret
      exact ⟨ret_num HF.out, hb⟩
end Go.Proofs.Ytnmmeaoapfampaa
