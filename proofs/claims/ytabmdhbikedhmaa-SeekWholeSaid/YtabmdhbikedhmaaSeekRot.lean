/-
  The library's exchange of two parts that lie side by side.
-/
import Derived.Test.YtabmdhbikedhmaaSeekSwap
namespace Go.Proofs.Ytabmdhbikedhmaa
open Go.RowKit

set_option maxRecDepth 100000 in
set_option maxHeartbeats 1000000 in
theorem rotate_any {B g cap n a m b : Nat} {w0 w : World} {A X Y C : List Ent} {f : Value} (h : SL B w0 (some ⟨g, 0, none⟩) cap n (A ++ (X ++ (Y ++ C))) w) (ha : a = A.length) (hm : m = A.length + X.length) (hb : b = A.length + X.length + Y.length) (hX : 1 ≤ X.length) (hY : 1 ≤ Y.length) (hn : n ≤ 1000) :
    Calls Try.prog 50 #[.slice (some ⟨g, 0, none⟩) n cap, .int .i64 a, .int .i64 m, .int .i64 b, f] w fun e w' => e = .returned (.tuple #[]) ∧ SL B w0 (some ⟨g, 0, none⟩) cap n (A ++ (Y ++ (X ++ C))) w' := by
  have hlen := h.len
  simp only [List.length_append] at hlen
  obtain ⟨T, hT⟩ : ∃ T, T = A ++ (Y ++ (X ++ C)) := ⟨_, rfl⟩
  rw [← hT]
  have HS : Hid (∃ i j : Nat, (m : Int) - (a : Int) = (i : Int) ∧ (b : Int) - (m : Int) = (j : Int) ∧ 1 ≤ i ∧ 1 ≤ j ∧ i + j ≤ b ∧ ∃ A' X' Y' C', X'.length = i ∧ Y'.length = j ∧ A'.length + i = m ∧ m + j ≤ b ∧ A' ++ (Y' ++ (X' ++ C')) = T ∧ SL B w0 (some ⟨g, 0, none⟩) cap n (A' ++ (X' ++ (Y' ++ C'))) w) :=
    Lib.hid ⟨X.length, Y.length, by omega, by omega, hX, hY, by omega, A, X, Y, C, rfl, rfl, by omega, by omega, hT.symm, h⟩
  have hb1 : b ≤ n := by omega
  have hm1 : m ≤ n := by omega
  have ha1 : a ≤ m := by omega
  have hmb : m ≤ b := by omega
  clear hlen ha hm hb hX hY hT h
  obtain ⟨i0, j0, hi0, hj0, HS⟩ := HS.out
  have HS := Lib.hid HS
  go_enter Try.func50, Try.ntmps50
  go_wp2
  go_loopg [10, 11] (i0 + j0) (fun kx s10 s11 wr => ∃ i j : Nat, s10 = .int .i64 i ∧ s11 = .int .i64 j ∧ i + j ≤ kx ∧ 1 ≤ i ∧ 1 ≤ j ∧ i ≤ m ∧ m + j ≤ b ∧ Hid (∃ A' X' Y' C', X'.length = i ∧ Y'.length = j ∧ A'.length + i = m ∧ A' ++ (Y' ++ (X' ++ C')) = T ∧ SL B w0 (some ⟨g, 0, none⟩) cap n (A' ++ (X' ++ (Y' ++ C'))) wr))
  case atStart =>
    obtain ⟨h1, h2, h3, A', X', Y', C', h4, h5, h6, h7, h8⟩ := HS.out
    exact ⟨i0, j0, rfl, rfl, Nat.le_refl _, h1, h2, by omega, by omega, A', X', Y', C', h4, h5, h6, h8⟩
  case round =>
    clear HS
    obtain ⟨i, j, rfl, rfl, hk, hi, hj, him, hjb, H⟩ := hrel
    obtain ⟨p, hp⟩ : ∃ p : Nat, p + i = m := ⟨m - i, by omega⟩
    have hpz : (m : Int) - (i : Int) = (p : Int) := by omega
    have hpn : p ≤ n := by omega
    rcases Nat.lt_trichotomy i j with hlt | heq | hgt
    · obtain ⟨q, hq⟩ : ∃ q : Nat, q = m + j - i := ⟨_, rfl⟩
      have hqz : (m : Int) + (j : Int) - (i : Int) = (q : Int) := by omega
      have HQ := Lib.hid hq
      have HP := Lib.hid hp
      have hne : ((i : Int) != (j : Int)) = true := by simp; omega
      have hng : ¬ (j : Int) < (i : Int) := by omega
      have HC : Hid (Calls Try.prog 52 #[.slice (some ⟨g, 0, none⟩) n cap, .int .i64 p, .int .i64 q, .int .i64 i, f] wr fun e w' => e = .returned (.tuple #[]) ∧ Hid (∃ A' X' Y' C', X'.length = i ∧ Y'.length = j - i ∧ A'.length + i = m ∧ A' ++ (Y' ++ (X' ++ C')) = T ∧ SL B w0 (some ⟨g, 0, none⟩) cap n (A' ++ (X' ++ (Y' ++ C'))) w')) := by
        obtain ⟨A', X', Y', C', h4, h5, h6, h7, h8⟩ := H.out
        have e : A' ++ (X' ++ (Y' ++ C')) = A' ++ (X' ++ (Y'.take (j - i) ++ (Y'.drop (j - i) ++ C'))) := by
          conv => lhs; rw [← List.take_append_drop (j - i) Y']
          simp only [List.append_assoc]
        rw [e] at h8
        refine (swapRange_any h8 (by omega) (by rw [List.length_take]; omega) h4 (by rw [List.length_drop]; omega) hn).mono ?_
        rintro e w' ⟨rfl, h9⟩
        refine ⟨rfl, Lib.hid ⟨A', Y'.drop (j - i), Y'.take (j - i), X' ++ C', by rw [List.length_drop]; omega, by rw [List.length_take]; omega, h6, ?_, h9⟩⟩
        rw [← h7]
        conv => rhs; rw [← List.take_append_drop (j - i) Y']
        simp only [List.append_assoc]
      clear H hp hq
      go_wp2_with (go_at_call 52; refine HC.out.mono ?_; rintro e w' ⟨rfl, H2⟩)
      go_roundg (i + (j - i))
      case measure => omega
      case rel => exact ⟨i, j - i, rfl, congrArg (Value.int .i64) (by omega), by omega, by omega, by omega, by omega, by omega, H2⟩
    · obtain rfl := heq
      have HC : Hid (Calls Try.prog 52 #[.slice (some ⟨g, 0, none⟩) n cap, .int .i64 p, .int .i64 m, .int .i64 i, f] wr fun e w' => e = .returned (.tuple #[]) ∧ SL B w0 (some ⟨g, 0, none⟩) cap n T w') := by
        obtain ⟨A', X', Y', C', h4, h5, h6, h7, h8⟩ := H.out
        refine (swapRange_any (M := []) (by simpa using h8) (by omega) (by simp; omega) h4 h5 hn).mono ?_
        rintro e w' ⟨rfl, h9⟩
        exact ⟨rfl, by rw [← h7]; simpa using h9⟩
      have hne : ((i : Int) != (i : Int)) = false := by simp
      clear H hp
      go_wp2_with (go_at_call 52; refine HC.out.mono ?_; rintro e w' ⟨rfl, H2⟩)
      go_end0
      exact ⟨rfl, H2⟩
    · have hne : ((i : Int) != (j : Int)) = true := by simp; omega
      have hg : (j : Int) < (i : Int) := by omega
      have HC : Hid (Calls Try.prog 52 #[.slice (some ⟨g, 0, none⟩) n cap, .int .i64 p, .int .i64 m, .int .i64 j, f] wr fun e w' => e = .returned (.tuple #[]) ∧ Hid (∃ A' X' Y' C', X'.length = i - j ∧ Y'.length = j ∧ A'.length + (i - j) = m ∧ A' ++ (Y' ++ (X' ++ C')) = T ∧ SL B w0 (some ⟨g, 0, none⟩) cap n (A' ++ (X' ++ (Y' ++ C'))) w')) := by
        obtain ⟨A', X', Y', C', h4, h5, h6, h7, h8⟩ := H.out
        have e : A' ++ (X' ++ (Y' ++ C')) = A' ++ (X'.take j ++ (X'.drop j ++ (Y' ++ C'))) := by
          conv => lhs; rw [← List.take_append_drop j X']
          simp only [List.append_assoc]
        rw [e] at h8
        refine (swapRange_any h8 (by omega) (by rw [List.length_drop]; omega) (by rw [List.length_take]; omega) h5 hn).mono ?_
        rintro e w' ⟨rfl, h9⟩
        refine ⟨rfl, Lib.hid ⟨A' ++ Y', X'.drop j, X'.take j, C', by rw [List.length_drop]; omega, by rw [List.length_take]; omega, by rw [List.length_append]; omega, ?_, by rw [List.append_assoc]; exact h9⟩⟩
        rw [← h7]
        conv => rhs; rw [← List.take_append_drop j X']
        simp only [List.append_assoc]
      clear H hp
      go_wp2_with (go_at_call 52; refine HC.out.mono ?_; rintro e w' ⟨rfl, H2⟩)
      go_roundg (i - j + j)
      case measure => omega
      case rel => exact ⟨i - j, j, congrArg (Value.int .i64) (by omega), rfl, by omega, by omega, by omega, by omega, by omega, H2⟩
end Go.Proofs.Ytabmdhbikedhmaa
