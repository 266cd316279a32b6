/-
  The library's merge of two parts that are in order, in place: the middle.
-/
import Derived.Test.YtabmdhbikedhmaaSeekSym2
namespace Go.Proofs.Ytabmdhbikedhmaa
open Go.RowKit

/-- What the merge does at parts of no more than 'K' entries. -/
def SymTo (B g cap n : Nat) (w0 : World) (K : Nat) : Prop :=
  ∀ (A X Y C : List Ent) (a m b : Nat) (w : World), SL B w0 (some ⟨g, 0, none⟩) cap n (A ++ (X ++ (Y ++ C))) w → a = A.length → m = a + X.length → b = m + Y.length → Le X → Le Y → 1 ≤ X.length → 1 ≤ Y.length → X.length + Y.length ≤ K →
    Calls Try.prog 44 #[.slice (some ⟨g, 0, none⟩) n cap, .int .i64 a, .int .i64 m, .int .i64 b, .func (.func 29) #[] #[]] w fun e w' => e = .returned (.tuple #[]) ∧ ∃ Z, Le Z ∧ Stab (X ++ Y) Z ∧ SL B w0 (some ⟨g, 0, none⟩) cap n (A ++ (Z ++ C)) w'

/-- What the search for the middle finds. -/
structure Mid (L X Y : List Ent) (a m b d q p s0 r0 : Nat) : Prop where
  hd : d = (a + b) / 2
  hq : q = d + m
  hp : p + 1 = q
  ham : a + 2 ≤ m
  hmb : m + 2 ≤ b
  lX : m = a + X.length
  lY : b = m + Y.length
  lx : ∀ t, t < X.length → L.getD (a + t) Ent.none_ = X.getD t Ent.none_
  ly : ∀ t, t < Y.length → L.getD (m + t) Ent.none_ = Y.getD t Ent.none_
  LX : ∀ c c', a ≤ c → c ≤ c' → c' < m → (L.getD c Ent.none_).cmp (L.getD c' Ent.none_) ≤ 0
  LY : ∀ c c', m ≤ c → c ≤ c' → c' < b → (L.getD c Ent.none_).cmp (L.getD c' Ent.none_) ≤ 0
  s0a : a ≤ s0
  sr : s0 ≤ r0
  r0m : r0 ≤ m
  hrq : r0 + m ≤ q
  hqs : q ≤ s0 + b
  sw : s0 = a ∨ q = s0 + b
  rw_ : r0 = m ∨ q = r0 + m
/-- Where the search stands. -/
def Found (L : List Ent) (p s0 r0 s r : Nat) : Prop := s0 ≤ s ∧ r ≤ r0 ∧ (∀ c, s0 ≤ c → c < s → (L.getD c Ent.none_).cmp (L.getD (p - c) Ent.none_) ≤ 0) ∧ (∀ c, r ≤ c → c < r0 → (L.getD (p - c) Ent.none_).cmp (L.getD c Ent.none_) < 0)
section
variable {L X Y : List Ent} {a m b d q p s0 r0 s r h : Nat}
theorem Mid.start (_ : Mid L X Y a m b d q p s0 r0) : Found L p s0 r0 s0 r0 := ⟨Nat.le_refl _, Nat.le_refl _, fun c h1 h2 => by omega, fun c h1 h2 => by omega⟩
theorem Mid.low (M : Mid L X Y a m b d q p s0 r0) (F : Found L p s0 r0 s r) (h1 : s ≤ h) (h2 : h < r) (hv : (L.getD (p - h) Ent.none_).cmp (L.getD h Ent.none_) < 0) : Found L p s0 r0 s h := by
  obtain ⟨f1, f2, f3, f4⟩ := F
  have := M.hp; have := M.r0m; have := M.hrq; have := M.hqs; have := M.s0a
  refine ⟨f1, by omega, f3, fun c c1 c2 => ?_⟩
  exact cmp_le_lt (M.LY (p - c) (p - h) (by omega) (by omega) (by omega)) (cmp_lt_le hv (M.LX h c (by omega) c1 (by omega)))
theorem Mid.high (M : Mid L X Y a m b d q p s0 r0) (F : Found L p s0 r0 s r) (h1 : s ≤ h) (h2 : h < r) (hv : ¬ (L.getD (p - h) Ent.none_).cmp (L.getD h Ent.none_) < 0) : Found L p s0 r0 (h + 1) r := by
  obtain ⟨f1, f2, f3, f4⟩ := F
  have := M.hp; have := M.r0m; have := M.hrq; have := M.hqs; have := M.s0a
  refine ⟨by omega, f2, fun c c1 c2 => ?_, f4⟩
  exact cmp_le_trans (M.LX c h (by omega) (by omega) (by omega)) (cmp_le_trans (cmp_ge hv) (M.LY (p - h) (p - c) (by omega) (by omega) (by omega)))
/-- The four parts. -/
theorem Mid.parts (M : Mid L X Y a m b d q p s0 r0) (F : Found L p s0 r0 s s) : ∃ x1 x2 y1 y2, X = x1 ++ x2 ∧ Y = y1 ++ y2 ∧ s = a + x1.length ∧ m = s + x2.length ∧ q - s = m + y1.length ∧ b = q - s + y2.length ∧ d = s + y1.length ∧ s ≤ q ∧
    (∀ u ∈ x1, ∀ v ∈ y2, u.cmp v ≤ 0) ∧ (∀ u ∈ y1, ∀ v ∈ x2, u.cmp v < 0) := by
  obtain ⟨f1, f2, f3, f4⟩ := F
  have := M.hp; have := M.r0m; have := M.hrq; have := M.hqs; have := M.s0a; have := M.sw; have := M.rw_; have := M.hq; have := M.lX; have := M.lY; have := M.hd; have := M.ham; have := M.hmb
  refine ⟨X.take (s - a), X.drop (s - a), Y.take (q - s - m), Y.drop (q - s - m), (List.take_append_drop _ _).symm, (List.take_append_drop _ _).symm, by rw [List.length_take]; omega, by rw [List.length_drop]; omega, by rw [List.length_take]; omega, by rw [List.length_drop]; omega, by rw [List.length_take]; omega, by omega, ?_, ?_⟩
  · refine take_all (Q := fun u => ∀ v ∈ Y.drop (q - s - m), u.cmp v ≤ 0) fun t ht htl => drop_all (Q := fun v => (X.getD t Ent.none_).cmp v ≤ 0) fun t' ht' htl' => ?_
    have h1 := f3 (s - 1) (by omega) (by omega)
    have h2 := M.LX (a + t) (s - 1) (by omega) (by omega) (by omega)
    have h3 := M.LY (p - (s - 1)) (m + t') (by omega) (by omega) (by omega)
    rw [M.lx t htl] at h2
    rw [M.ly t' htl'] at h3
    exact cmp_le_trans h2 (cmp_le_trans h1 h3)
  · refine take_all (Q := fun u => ∀ v ∈ X.drop (s - a), u.cmp v < 0) fun t ht htl => drop_all (Q := fun v => (Y.getD t Ent.none_).cmp v < 0) fun t' ht' htl' => ?_
    have h1 := f4 s (by omega) (by omega)
    have h2 := M.LY (m + t) (p - s) (by omega) (by omega) (by omega)
    have h3 := M.LX s (a + t') (by omega) (by omega) (by omega)
    rw [M.ly t htl] at h2
    rw [M.lx t' htl'] at h3
    exact cmp_le_lt h2 (cmp_lt_le h1 h3)
end
end Go.Proofs.Ytabmdhbikedhmaa
