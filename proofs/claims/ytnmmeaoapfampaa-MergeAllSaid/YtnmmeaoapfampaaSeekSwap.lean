/-
  The library's exchange of two parts of a row of entries.
-/
import Derived.Test.YtnmmeaoapfampaaSeekSL
namespace Go.Proofs.Ytnmmeaoapfampaa
open Go.RowKit

theorem swp_step {A X M Y C : List Ent} {i a b m : Nat} (hX : X.length = m) (hY : Y.length = m) (hi : i < m) (ha : a = A.length) (hb : b = A.length + m + M.length) :
    swpE (A ++ (Y.take i ++ X.drop i ++ (M ++ (X.take i ++ Y.drop i ++ C)))) (a + i) (b + i) = A ++ (Y.take (i + 1) ++ X.drop (i + 1) ++ (M ++ (X.take (i + 1) ++ Y.drop (i + 1) ++ C))) := by
  have e1 : A ++ (Y.take i ++ X.drop i ++ (M ++ (X.take i ++ Y.drop i ++ C))) = (A ++ Y.take i) ++ X[i] :: ((X.drop (i + 1) ++ M ++ X.take i) ++ Y[i] :: (Y.drop (i + 1) ++ C)) := by
    rw [List.drop_eq_getElem_cons (by omega : i < X.length), List.drop_eq_getElem_cons (by omega : i < Y.length)]
    simp only [List.append_assoc, List.cons_append]
  rw [e1, swp_parts (by simp; omega) (by simp; omega), List.take_succ_eq_append_getElem (by omega : i < X.length), List.take_succ_eq_append_getElem (by omega : i < Y.length)]
  simp only [List.append_assoc, List.cons_append, List.nil_append]

set_option maxRecDepth 100000 in
set_option maxHeartbeats 1000000 in
theorem swapRange_any {B g cap n a b m : Nat} {w0 w : World} {A X M Y C : List Ent} {f : Value} (h : SL B w0 (some ⟨g, 0, none⟩) cap n (A ++ (X ++ (M ++ (Y ++ C)))) w) (ha : a = A.length) (hb : b = A.length + m + M.length) (hX : X.length = m) (hY : Y.length = m) (hn : n ≤ 1000) :
    Calls Try.prog 52 #[.slice (some ⟨g, 0, none⟩) n cap, .int .i64 a, .int .i64 b, .int .i64 m, f] w fun e w' => e = .returned (.tuple #[]) ∧ SL B w0 (some ⟨g, 0, none⟩) cap n (A ++ (Y ++ (M ++ (X ++ C)))) w' := by
  have hlen := h.len
  simp only [List.length_append] at hlen
  have H := Lib.hid h
  clear h
  have HA := Lib.hid ha
  have HX := Lib.hid hX
  have HY := Lib.hid hY
  have h1 : a + m ≤ b := by omega
  have h2 : b + m ≤ n := by omega
  have HB := Lib.hid hb
  clear hlen ha hX hY hb
  go_enter Try.func52, Try.ntmps52
  go_wp2
  go_loopg [10] m (fun kx s10 wr => ∃ i : Nat, s10 = .int .i64 i ∧ i ≤ m ∧ m - i ≤ kx ∧ Hid (SL B w0 (some ⟨g, 0, none⟩) cap n (A ++ (Y.take i ++ X.drop i ++ (M ++ (X.take i ++ Y.drop i ++ C)))) wr))
  case atStart => exact ⟨0, rfl, Nat.zero_le _, Nat.le_refl _, by simpa [Hid] using H.out⟩
  case round =>
    clear H
    obtain ⟨i, rfl, hi, hk, H⟩ := hrel
    by_cases hlt : i < m
    · have hz : (i : Int) < (m : Int) := by omega
      obtain ⟨L, hL⟩ : ∃ L, L = A ++ (Y.take i ++ X.drop i ++ (M ++ (X.take i ++ Y.drop i ++ C))) := ⟨_, rfl⟩
      rw [← hL] at H
      have e2 : swpE L (a + i) (b + i) = A ++ (Y.take (i + 1) ++ X.drop (i + 1) ++ (M ++ (X.take (i + 1) ++ Y.drop (i + 1) ++ C))) := by
        rw [hL]
        exact swp_step HX.out HY.out hlt HA.out HB.out
      clear hL
      obtain ⟨c0, c1, c2, c3⟩ := H.out.cells (i := a + i) (by omega)
      obtain ⟨d0, d1, d2, d3⟩ := H.out.cells (i := b + i) (by omega)
      have fz : ∀ o, wr.frozen? ⟨g, o, none⟩ = false := fun o => H.out.free o (i := a + i) (by omega)
      obtain ⟨x, hx⟩ : ∃ x, L.getD (a + i) Ent.none_ = x := ⟨_, rfl⟩
      obtain ⟨y, hy⟩ : ∃ y, L.getD (b + i) Ent.none_ = y := ⟨_, rfl⟩
      rw [hx] at c0 c1 c2 c3
      rw [hy] at d0 d1 d2 d3
      have S2 := H.out.swap (i := a + i) (j := b + i) (by omega) (by omega) hx hy
      rw [e2] at S2
      clear hx hy e2
      have HS := Lib.hid S2
      clear S2
      have ea : ((a : Int) + (i : Int)).toNat = a + i := by omega
      have pa : (0 : Int) ≤ (a : Int) + (i : Int) := by omega
      have ba : (a : Int) + (i : Int) < (n : Int) := by omega
      have ra : IntKind.i64.wrap ((a : Int) + (i : Int)) = (a : Int) + (i : Int) := by rw [IntKind.wrap_i64]; omega
      have eb : ((b : Int) + (i : Int)).toNat = b + i := by omega
      have pb : (0 : Int) ≤ (b : Int) + (i : Int) := by omega
      have bb : (b : Int) + (i : Int) < (n : Int) := by omega
      have rb : IntKind.i64.wrap ((b : Int) + (i : Int)) = (b : Int) + (i : Int) := by rw [IntKind.wrap_i64]; omega
      go_wp2_with fail
      go_big_region
      go_wp2
      go_roundg (m - (i + 1))
      case measure => omega
      case rel => exact ⟨i + 1, by go_num, by omega, Nat.le_refl _, HS.out⟩
    · have hz : ¬ (i : Int) < (m : Int) := by omega
      obtain rfl : i = m := by omega
      go_wp2
      go_end0
      refine ⟨rfl, ?_⟩
      have e := H.out
      rw [List.take_of_length_le (by rw [HY.out]; exact Nat.le_refl _), List.take_of_length_le (by rw [HX.out]; exact Nat.le_refl _), List.drop_eq_nil_of_le (by rw [HX.out]; exact Nat.le_refl _), List.drop_eq_nil_of_le (by rw [HY.out]; exact Nat.le_refl _)] at e
      simpa using e
end Go.Proofs.Ytnmmeaoapfampaa
