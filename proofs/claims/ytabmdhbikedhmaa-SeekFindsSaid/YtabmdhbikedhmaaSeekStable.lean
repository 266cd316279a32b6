/-
  slices.SortStableFunc of entries by their keys.
-/
import Derived.Test.YtabmdhbikedhmaaSeekSym3
import Derived.Test.YtabmdhbikedhmaaSeekSym4
namespace Go.Proofs.Ytabmdhbikedhmaa
open Go.RowKit

theorem sym_any {B g cap n : Nat} {w0 : World} (hn : n ≤ 1000) : ∀ K, SymTo B g cap n w0 K
  | 0 => fun A X Y C a m b w _ _ _ _ _ _ h1 h2 h3 => by omega
  | K + 1 => fun A X Y C a m b w h ha hm hb hX hY h1 h2 h3 => by
    by_cases g1 : X.length = 1
    · obtain ⟨x, rfl⟩ := List.length_eq_one_iff.1 g1
      exact sym_one (by simpa using h) ha (by simpa using hm) hb hY hn
    · by_cases g2 : Y.length = 1
      · obtain ⟨y, rfl⟩ := List.length_eq_one_iff.1 g2
        exact sym_two (by simpa using h) ha hm (by simpa using hb) hX (by omega) hn
      · by_cases g3 : (a + b) / 2 < m
        · exact sym_gt (sym_any hn K) h ha hm hb hX hY (by omega) (by omega) (by omega) hn g3
        · exact sym_le (sym_any hn K) h ha hm hb hX hY (by omega) (by omega) (by omega) hn g3

/-- The parts so far are in order, the rest is as it was. -/
def Stands (B g cap n : Nat) (w0 : World) (l : List Ent) (s a : Nat) (w : World) : Prop :=
  ∃ T D R t, l = T ++ R ∧ Stab T D ∧ Blocks s D ∧ D.length = s * t ∧ a = D.length ∧ SL B w0 (some ⟨g, 0, none⟩) cap n (D ++ R) w
section
variable {B g cap n : Nat} {w0 : World} {l : List Ent} {s a : Nat} {w : World}
theorem Stands.start (h : SL B w0 (some ⟨g, 0, none⟩) cap n l w) : Stands B g cap n w0 l s 0 w := ⟨[], [], l, 0, rfl, Stab.refl _, Blocks.nil _, by simp, rfl, h⟩
/-- One part more is put in order by itself. -/
theorem Stands.part (h : Stands B g cap n w0 l s a w) (hs : 0 < s) (hl : l.length = n) (hb : a + s ≤ n) (hn : n ≤ 1000) :
    Calls Try.prog 43 #[.slice (some ⟨g, 0, none⟩) n cap, .int .i64 a, .int .i64 (a + s : Nat), .func (.func 29) #[] #[]] w fun e w' => e = .returned (.tuple #[]) ∧ Stands B g cap n w0 l s (a + s) w' := by
  obtain ⟨T, D, R, t, h1, h2, h3, h4, rfl, h6⟩ := h
  have hl2 : R.length = n - D.length := by rw [h1, List.length_append, h2.len] at hl; omega
  have e : D ++ R = D ++ (R.take s ++ R.drop s) := by rw [List.take_append_drop]
  rw [e] at h6
  refine (insertion_any h6 rfl (by rw [List.length_take]; omega) hn).mono ?_
  rintro r w' ⟨rfl, S, k1, k2, k3⟩
  have k4 : S.length = s := by rw [← k2.len, List.length_take]; omega
  refine ⟨rfl, T ++ R.take s, D ++ S, R.drop s, t + 1, by rw [List.append_assoc, List.take_append_drop]; exact h1, h2.app k2, h3.snoc k1 h4 (by omega) hs, by rw [List.length_append, k4, h4, Nat.mul_add, Nat.mul_one], by rw [List.length_append, k4], by rw [List.append_assoc]; exact k3⟩
theorem Stands.last (h : Stands B g cap n w0 l s a w) (hs : 0 < s) (hl : l.length = n) (hb : n < a + s) (hn : n ≤ 1000) :
    Calls Try.prog 43 #[.slice (some ⟨g, 0, none⟩) n cap, .int .i64 a, .int .i64 n, .func (.func 29) #[] #[]] w fun e w' => e = .returned (.tuple #[]) ∧ ∃ l', Blocks s l' ∧ Stab l l' ∧ SL B w0 (some ⟨g, 0, none⟩) cap n l' w' := by
  obtain ⟨T, D, R, t, h1, h2, h3, h4, rfl, h6⟩ := h
  have hl3 := hl
  rw [h1, List.length_append, h2.len] at hl3
  have e : D ++ R = D ++ (R ++ []) := by simp
  rw [e] at h6
  refine (insertion_any h6 rfl (by omega) hn).mono ?_
  rintro r w' ⟨rfl, S, k1, k2, k3⟩
  exact ⟨rfl, D ++ S, h3.snoc k1 h4 (by rw [← k2.len]; omega) hs, by rw [h1]; exact h2.app k2, by simpa using k3⟩
/-- Two parts more are laid together. -/
theorem Stands.merge (h : Stands B g cap n w0 l (2 * s) a w) (hs : 0 < s) (hB : Blocks s l) (hl : l.length = n) (hb : a + 2 * s ≤ n) (hn : n ≤ 1000) :
    Calls Try.prog 44 #[.slice (some ⟨g, 0, none⟩) n cap, .int .i64 a, .int .i64 (a + s : Nat), .int .i64 (a + 2 * s : Nat), .func (.func 29) #[] #[]] w fun e w' => e = .returned (.tuple #[]) ∧ Stands B g cap n w0 l (2 * s) (a + 2 * s) w' := by
  obtain ⟨T, D, R, t, h1, h2, h3, h4, rfl, h6⟩ := h
  have hl2 : R.length = n - D.length := by rw [h1, List.length_append, h2.len] at hl; omega
  have e : R = R.take s ++ ((R.drop s).take s ++ R.drop (2 * s)) := by
    rw [show 2 * s = s + s by omega, ← List.drop_drop, List.take_append_drop, List.take_append_drop]
  have lX : (R.take s).length = s := by rw [List.length_take]; omega
  have lY : ((R.drop s).take s).length = s := by rw [List.length_take, List.length_drop]; omega
  have hX : Le (R.take s) := by
    have : l = T ++ (R.take s ++ R.drop s) := by rw [List.take_append_drop]; exact h1
    rw [this] at hB
    exact hB.part (t := 2 * t) (by rw [h2.len, h4, ← Nat.mul_assoc, Nat.mul_comm s 2]) (by omega)
  have hY : Le ((R.drop s).take s) := by
    have : l = (T ++ R.take s) ++ ((R.drop s).take s ++ R.drop (2 * s)) := by rw [List.append_assoc, ← e]; exact h1
    rw [this] at hB
    exact hB.part (t := 2 * t + 1) (by rw [List.length_append, lX, h2.len, h4, Nat.mul_add, ← Nat.mul_assoc, Nat.mul_comm s 2, Nat.mul_one]) (by omega)
  rw [e] at h6
  refine (sym_any hn (2 * s) D _ _ _ _ _ _ w h6 rfl (by omega) (by omega) hX hY (by omega) (by omega) (by omega)).mono ?_
  rintro r w' ⟨rfl, Z, k1, k2, k3⟩
  have k4 : Z.length = 2 * s := by rw [← k2.len, List.length_append]; omega
  refine ⟨rfl, T ++ (R.take s ++ (R.drop s).take s), D ++ Z, R.drop (2 * s), t + 1, by rw [List.append_assoc, List.append_assoc, ← e]; exact h1, h2.app k2, h3.snoc k1 h4 (by omega) (by omega), by rw [List.length_append, k4, h4, Nat.mul_add, Nat.mul_one], by rw [List.length_append, k4], by rw [List.append_assoc]; exact k3⟩
theorem Stands.mergeLast (h : Stands B g cap n w0 l (2 * s) a w) (hs : 0 < s) (hB : Blocks s l) (hl : l.length = n) (hb : n < a + 2 * s) (hm : a + s < n) (hn : n ≤ 1000) :
    Calls Try.prog 44 #[.slice (some ⟨g, 0, none⟩) n cap, .int .i64 a, .int .i64 (a + s : Nat), .int .i64 n, .func (.func 29) #[] #[]] w fun e w' => e = .returned (.tuple #[]) ∧ ∃ l', Blocks (2 * s) l' ∧ Stab l l' ∧ SL B w0 (some ⟨g, 0, none⟩) cap n l' w' := by
  obtain ⟨T, D, R, t, h1, h2, h3, h4, rfl, h6⟩ := h
  have hl2 : R.length = n - D.length := by rw [h1, List.length_append, h2.len] at hl; omega
  have e : R = R.take s ++ (R.drop s ++ []) := by simp
  have lX : (R.take s).length = s := by rw [List.length_take]; omega
  have lY : (R.drop s).length = R.length - s := by rw [List.length_drop]
  have hX : Le (R.take s) := by
    have : l = T ++ (R.take s ++ R.drop s) := by rw [List.take_append_drop]; exact h1
    rw [this] at hB
    exact hB.part (t := 2 * t) (by rw [h2.len, h4, ← Nat.mul_assoc, Nat.mul_comm s 2]) (by omega)
  have hY : Le (R.drop s) := by
    have : l = (T ++ R.take s) ++ (R.drop s ++ []) := by rw [List.append_assoc, ← e]; exact h1
    rw [this] at hB
    exact hB.part (t := 2 * t + 1) (by rw [List.length_append, lX, h2.len, h4, Nat.mul_add, ← Nat.mul_assoc, Nat.mul_comm s 2, Nat.mul_one]) (by omega)
  rw [e] at h6
  refine (sym_any hn (2 * s) D _ _ _ _ _ _ w h6 rfl (by omega) (by omega) hX hY (by omega) (by omega) (by omega)).mono ?_
  rintro r w' ⟨rfl, Z, k1, k2, k3⟩
  have k4 : Z.length = R.length := by rw [← k2.len, List.length_append]; omega
  exact ⟨rfl, D ++ Z, h3.snoc k1 h4 (by omega) (by omega), by rw [h1, ← List.take_append_drop s R]; exact h2.app k2, by simpa using k3⟩
theorem Stands.all (h : Stands B g cap n w0 l (2 * s) a w) (hs : 0 < s) (hB : Blocks s l) (hl : l.length = n) (hm : n ≤ a + s) : ∃ l', Blocks (2 * s) l' ∧ Stab l l' ∧ SL B w0 (some ⟨g, 0, none⟩) cap n l' w := by
  obtain ⟨T, D, R, t, h1, h2, h3, h4, rfl, h6⟩ := h
  have hl3 := hl
  rw [h1, List.length_append, h2.len] at hl3
  have hR : Le R := by
    have : l = T ++ (R ++ []) := by simpa using h1
    rw [this] at hB
    exact hB.part (t := 2 * t) (by rw [h2.len, h4, ← Nat.mul_assoc, Nat.mul_comm s 2]) (by omega)
  exact ⟨D ++ R, h3.snoc hR h4 (by omega) (by omega), by rw [h1]; exact h2.app (Stab.refl _), h6⟩
end

set_option maxRecDepth 100000 in
set_option maxHeartbeats 1000000 in
theorem stable_any {B g cap n : Nat} {w0 w : World} {l : List Ent} (h : SL B w0 (some ⟨g, 0, none⟩) cap n l w) (hn : n ≤ 1000) :
    Calls Try.prog 38 #[.slice (some ⟨g, 0, none⟩) n cap, .int .i64 n, .func (.func 29) #[] #[]] w fun e w' => e = .returned (.tuple #[]) ∧ ∃ l', Le l' ∧ Stab l l' ∧ SL B w0 (some ⟨g, 0, none⟩) cap n l' w' := by
  have HL := Lib.hid h.len
  have HS := Lib.hid (Stands.start (s := 20) h)
  clear h
  go_enter Try.func38, Try.ntmps38
  go_wp2
  go_loopg [7, 8] n (fun kx s7 s8 wr => ∃ a : Nat, s7 = .int .i64 a ∧ s8 = .int .i64 (a + 20 : Nat) ∧ a ≤ n ∧ n - a ≤ kx ∧ Hid (Stands B g cap n w0 l 20 a wr))
  case atStart => exact ⟨0, rfl, rfl, by omega, by omega, HS⟩
  case round =>
    clear HS
    obtain ⟨a, rfl, rfl, han, hk, HS⟩ := hrel
    by_cases hb : a + 20 ≤ n
    · have hbz : (a : Int) + 20 ≤ (n : Int) := by omega
      have HC := Lib.hid (HS.out.part (by omega) HL.out hb hn)
      clear HS
      go_wp2_with (go_at_call 43; (refine HC.out.mono ?_); rintro e w1 ⟨rfl, HS⟩)
      go_roundg (n - (a + 20))
      case measure => omega
      case rel => exact ⟨a + 20, by go_num, by go_num, hb, Nat.le_refl _, HS⟩
    · have hbz : ¬ (a : Int) + 20 ≤ (n : Int) := by omega
      have HC := Lib.hid (HS.out.last (by omega) HL.out (by omega) hn)
      clear HS
      go_wp2_with (go_at_call 43; (refine HC.out.mono ?_); rintro e w1 ⟨rfl, HS⟩)
      clear HC
      have HS := Lib.hid HS
      go_loopg [6] n (fun kx s6 wr => ∃ s : Nat, s6 = .int .i64 s ∧ 20 ≤ s ∧ s ≤ 2000 ∧ n - s ≤ kx ∧ Hid (∃ l', Blocks s l' ∧ Stab l l' ∧ SL B w0 (some ⟨g, 0, none⟩) cap n l' wr))
      case atStart => exact ⟨20, rfl, by omega, by omega, by omega, HS⟩
      case round =>
        clear HS
        obtain ⟨s, rfl, hs1, hs2, hk2, HS⟩ := hrel
        by_cases hsn : s < n
        · have hsz : (s : Int) < (n : Int) := by omega
          obtain ⟨l', hB, hst, hsl⟩ := HS.out
          have HB := Lib.hid hB
          have HST := Lib.hid hst
          have HL2 := Lib.hid hsl.len
          have HQ := Lib.hid (Stands.start (s := 2 * s) hsl)
          clear HS hB hst hsl
          go_wp2
          go_loopg [7, 8] n (fun kx s7 s8 wr => ∃ a : Nat, s7 = .int .i64 a ∧ s8 = .int .i64 (a + 2 * s : Nat) ∧ a ≤ n ∧ n - a ≤ kx ∧ Hid (Stands B g cap n w0 l' (2 * s) a wr))
          case atStart => exact ⟨0, rfl, by go_num, by omega, by omega, HQ⟩
          case round =>
            clear HQ
            obtain ⟨a2, rfl, rfl, han2, hk3, HQ⟩ := hrel
            by_cases hb2 : a2 + 2 * s ≤ n
            · have hbz2 : (a2 : Int) + 2 * (s : Int) ≤ (n : Int) := by omega
              have HC := Lib.hid (HQ.out.merge (by omega) HB.out HL2.out hb2 hn)
              clear HQ
              go_wp2_with (go_at_call 44; (refine HC.out.mono ?_); rintro e w1 ⟨rfl, HS⟩)
              go_roundg (n - (a2 + 2 * s))
              case measure => omega
              case rel => exact ⟨a2 + 2 * s, by go_num, by go_num, hb2, Nat.le_refl _, HS⟩
            · have hbz2 : ¬ (a2 : Int) + 2 * (s : Int) ≤ (n : Int) := by omega
              by_cases hm : a2 + s < n
              · have hmz : (a2 : Int) + (s : Int) < (n : Int) := by omega
                have HC := Lib.hid (HQ.out.mergeLast (by omega) HB.out HL2.out (by omega) hm hn)
                clear HQ
                go_wp2_with (go_at_call 44; (refine HC.out.mono ?_); rintro e w1 ⟨rfl, HS⟩)
                go_roundg (n - 2 * s)
                case measure => omega
                case rel =>
                  obtain ⟨l2, k1, k2, k3⟩ := HS
                  exact ⟨2 * s, by go_num, by omega, by omega, Nat.le_refl _, Lib.hid ⟨l2, k1, HST.out.trans k2, k3⟩⟩
              · have hmz : ¬ (a2 : Int) + (s : Int) < (n : Int) := by omega
                have HC := Lib.hid (HQ.out.all (by omega) HB.out HL2.out (by omega))
                clear HQ
                go_wp2
                go_roundg (n - 2 * s)
                case measure => omega
                case rel =>
                  obtain ⟨l2, k1, k2, k3⟩ := HC.out
                  exact ⟨2 * s, by go_num, by omega, by omega, Nat.le_refl _, Lib.hid ⟨l2, k1, HST.out.trans k2, k3⟩⟩
        · have hsz : ¬ (s : Int) < (n : Int) := by omega
          go_wp2
          go_end0
          obtain ⟨l', hB, hst, hsl⟩ := HS.out
          exact ⟨rfl, l', hB.all (by rw [hsl.len]; omega), hst, hsl⟩

set_option maxRecDepth 100000 in
theorem sortStable_any {B g cap n : Nat} {w0 w : World} {l : List Ent} (h : SL B w0 (some ⟨g, 0, none⟩) cap n l w) (hn : n ≤ 1000) :
    Calls Try.prog 28 #[.slice (some ⟨g, 0, none⟩) n cap, .func (.func 29) #[] #[]] w fun e w' => e = .returned (.tuple #[]) ∧ ∃ l', Le l' ∧ Stab l l' ∧ SL B w0 (some ⟨g, 0, none⟩) cap n l' w' := by
  have HC := Lib.hid (stable_any h hn)
  clear h
  go_enter Try.func28, Try.ntmps28
  go_wp2_with (go_at_call 38; (refine HC.out.mono ?_); rintro e w1 ⟨rfl, HS⟩)
  go_end0
  exact ⟨rfl, HS⟩

set_option maxRecDepth 100000 in
theorem stable_none (a : Option Addr) (cap : Nat) (f : Value) (w : World) :
    Calls Try.prog 38 #[.slice a 0 cap, .int .i64 0, f] w fun e w' => e = .returned (.tuple #[]) ∧ w' = w := by
  have HC := Lib.hid (insertion_none (.slice a 0 cap) f)
  go_enter Try.func38, Try.ntmps38
  go_wp2
  go_loopg [7, 8] 0 (fun _ s7 s8 wr => s7 = .int .i64 0 ∧ s8 = .int .i64 20 ∧ wr = w)
  case atStart => exact ⟨rfl, rfl, rfl⟩
  case round =>
    obtain ⟨rfl, rfl, rfl⟩ := hrel
    go_wp2_with (go_at_call 43; (refine (HC.out _).mono ?_); rintro e w1 ⟨rfl, rfl⟩)
    go_loopg [6] 0 (fun _ s6 wq => s6 = .int .i64 20 ∧ wq = w1)
    case atStart => exact ⟨rfl, rfl⟩
    case round =>
      obtain ⟨rfl, rfl⟩ := hrel
      go_wp2
      go_end0
      exact ⟨rfl, rfl⟩

set_option maxRecDepth 100000 in
theorem sortStable_none (a : Option Addr) (cap : Nat) (f : Value) (w : World) :
    Calls Try.prog 28 #[.slice a 0 cap, f] w fun e w' => e = .returned (.tuple #[]) ∧ w' = w := by
  have HC := Lib.hid (stable_none a cap f)
  go_enter Try.func28, Try.ntmps28
  go_wp2_with (go_at_call 38; (refine (HC.out _).mono ?_); rintro e w1 ⟨rfl, rfl⟩)
  go_end0
  exact ⟨rfl, rfl⟩
end Go.Proofs.Ytabmdhbikedhmaa
