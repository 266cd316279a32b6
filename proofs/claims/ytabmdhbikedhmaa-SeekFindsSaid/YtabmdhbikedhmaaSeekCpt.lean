/-
  slices.CompactFunc of entries: of those of one key side by side the first stays.
-/
import Derived.Test.YtabmdhbikedhmaaSeekStable
import Derived.Lib.SliceRun
namespace Go.Proofs.Ytabmdhbikedhmaa
open Go.RowKit

/-- Does the entry stay? -/
def keepAt (l : List Ent) (j : Nat) : Bool := j == 0 || !same (l.getD j Ent.none_) (l.getD (j - 1) Ent.none_)
/-- What stays of the first ones. -/
def cpN (l : List Ent) : Nat → List Ent
  | 0 => []
  | j + 1 => cpN l j ++ (if keepAt l j then [l.getD j Ent.none_] else [])
theorem cpN_len (l : List Ent) : ∀ j, (cpN l j).length ≤ j
  | 0 => Nat.le_refl _
  | j + 1 => by
    have := cpN_len l j
    unfold cpN
    rw [List.length_append]
    split
    · rw [List.length_singleton]; omega
    · rw [List.length_nil]; omega
theorem cpN_yes {l : List Ent} {j : Nat} (h : keepAt l j = true) : cpN l (j + 1) = cpN l j ++ [l.getD j Ent.none_] := by unfold cpN; rw [if_pos h]; cases j <;> rfl
theorem cpN_no {l : List Ent} {j : Nat} (h : keepAt l j = false) : cpN l (j + 1) = cpN l j := by unfold cpN; rw [if_neg (by rw [h]; decide), List.append_nil]; cases j <;> rfl
theorem keep_of {l : List Ent} {j u : Nat} {x y : Ent} (hu : u + 1 = j) (hx : l.getD j Ent.none_ = x) (hy : l.getD u Ent.none_ = y) : keepAt l j = !same x y := by
  subst hu
  unfold keepAt
  rw [Nat.add_sub_cancel, hx, hy]
  simp
theorem cpN_take {l : List Ent} {k : Nat} (h : cpN l k = l.take k) (hk : keepAt l k = true) (hl : k < l.length) : cpN l (k + 1) = l.take (k + 1) := by
  rw [cpN_yes hk, h, List.take_succ_eq_append_getElem hl]
  simp [List.getD, hl]

set_option maxRecDepth 100000 in
theorem sameE_any (x y : Ent) (W : World) : Calls Try.prog 32 #[entV x, entV y] W fun e w' => e = .returned (.bool (same x y)) ∧ Below W.heap.size W w' := by
  have hz := cmp_zero x y
  have HSM : Hid (same x y = decide (x.u = y.u ∧ x.s = y.s ∧ x.k = y.k)) := by
    show _ = _
    unfold same
    simp only [hz]
  clear hz
  rw [HSM.out]
  have h0 : x.u.toList = y.u.toList ↔ x.u = y.u := ⟨fun e => by rw [Lib.toList_data, Lib.toList_data] at e; exact ByteArray.ext (Array.toList_inj.1 e), fun e => by rw [e]⟩
  by_cases h1 : x.u.toList = y.u.toList <;> by_cases h2 : x.s = y.s <;> by_cases h3 : x.k = y.k
  all_goals
    have HU := Lib.hid h0
    clear h0
    go_enter Try.func32, Try.ntmps32
    go_wp2
    go_ret
    refine ⟨?_, ((Below.refl _ W).alloc (Nat.le_refl _) _).alloc (by simp) _⟩
    simp [← HU.out, h1, h2, h3]
section
variable {B g : Nat} {w0 W : World} {a : Option Addr} {cap n : Nat} {l : List Ent}
theorem SL.alike (_ : SL B w0 (some ⟨g, 0, none⟩) cap n l W) {i j : Nat} (_ : i < n) (_ : j < n) (m : Nat) (os : Array Obj) :
    Calls Try.prog 32 #[entV (l.getD i Ent.none_), entV (l.getD j Ent.none_)] (shiftW W m os) fun e w'' => e = .returned (.bool (same (l.getD i Ent.none_) (l.getD j Ent.none_))) ∧ ∃ p : ShiftBy, w'' = shiftW W p.n p.os :=
  Calls.shift_of (sameE_any _ _ _)
/-- The first ones alone. -/
theorem SL.front {P R : List Ent} {k : Nat} (h : SL B w0 (some ⟨g, 0, none⟩) cap n (P ++ R) W) (hk : k = P.length) (hn : 0 < n) : SL B w0 (some ⟨g, 0, none⟩) cap k P W := by
  obtain ⟨g', he, hb, cur, hg, hs, hnc, ht⟩ := h.at_ hn
  cases he
  have hl := h.len
  rw [List.length_append] at hl
  have hm : cap ≤ maxLen := by
    rcases h.own.2 with ⟨h1, _⟩ | ⟨_, _, _, hv, _, _, _, hm, _⟩
    · cases h1
    · cases hv; exact hm
  refine ⟨hk.symm, h.below, h.le, ⟨by rw [flat_length], .inr ⟨g, cap, cur, by rw [hk], hb, hg, by omega, hm, hs, ?_⟩⟩, fun e he => h.fits e (List.mem_append_left _ he)⟩
  have h9 := congrArg (List.take (P.length * 4)) ht
  rw [List.take_take, Nat.min_eq_left (by omega), List.flatMap_append, List.take_append_of_le_length (by rw [flat_length]; exact Nat.le_refl _), List.take_of_length_le (l := P.flatMap Ent.cells) (by rw [flat_length]; exact Nat.le_refl _)] at h9
  exact h9
/-- Stores behind it leave it. -/
theorem SL.beyond {P : List Ent} {k o : Nat} (h : SL B w0 (some ⟨g, 0, none⟩) cap k P W) (hk : 0 < k) (ho : k * 4 ≤ o) (vs : List Value) : SL B w0 (some ⟨g, 0, none⟩) cap k P (W.setCells g o vs) := by
  obtain ⟨g', he, hb, cur, hg, hs, hnc, ht⟩ := h.at_ hk
  cases he
  have hm : cap ≤ maxLen := by
    rcases h.own.2 with ⟨h1, _⟩ | ⟨_, _, _, hv, _, _, _, hm, _⟩
    · cases h1
    · cases hv; exact hm
  obtain ⟨cur', k1, k2, k3⟩ := setCells_row vs o W cur hg
  have hB : Below B W (W.setCells g o vs) := Kept.below (kept_setCells (R := fun k => k < B) (by omega) _ _ _ (Kept.refl _ _)) fun _ h => h
  refine ⟨h.len, h.below.trans hB, Nat.le_trans h.le hB.size, ⟨by rw [flat_length], .inr ⟨g, cap, cur', by rw [h.len], hb, k1, by rw [h.len]; exact hnc, hm, by rw [k2, hs], ?_⟩⟩, h.fits⟩
  rw [← ht, h.len]
  refine List.ext_getElem? fun j => ?_
  by_cases hj : j < k * 4
  · have hjc : j < cur.size := by rw [hs]; have := Nat.mul_le_mul_right 4 hnc; omega
    rw [List.getElem?_take_of_lt hj, List.getElem?_take_of_lt hj, Array.getElem?_toList, Array.getElem?_toList, k3 j hjc, if_neg (by omega)]
  · rw [List.getElem?_take_eq_none (by omega), List.getElem?_take_eq_none (by omega)]
def zeroRow (m : Nat) : List Value := (Builtin.zeroCells (Value.agg #[.string ⟨#[]⟩, .int .i64 0, .int .i64 0, .string ⟨#[]⟩]).cells m).toList
theorem zeroRow_len (m : Nat) : (zeroRow m).length = 4 * m ∨ (zeroRow m).length = m * 4 := by
  unfold zeroRow
  first | (left; simp [Builtin.zeroCells, Value.cells]; done) | (right; simp [Builtin.zeroCells, Value.cells]; done)
theorem zeroRow_one (m : Nat) : ∀ v ∈ zeroRow m, v.oneCell' = true := by
  intro v hv
  unfold zeroRow at hv
  have hc : ∀ i, ((Value.agg #[.string ⟨#[]⟩, .int .i64 0, .int .i64 0, .string ⟨#[]⟩]).cells[i % 4]!).oneCell' = true := fun i => by
    have : i % 4 < 4 := Nat.mod_lt _ (by decide)
    generalize i % 4 = r at this
    obtain rfl | rfl | rfl | rfl : r = 0 ∨ r = 1 ∨ r = 2 ∨ r = 3 := by omega
    all_goals rfl
  rw [Builtin.zeroCells, Array.toList_map] at hv
  obtain ⟨i, _, rfl⟩ := List.mem_map.1 hv
  exact hc i
theorem SL.zeroed (h : SL B w0 (some ⟨g, 0, none⟩) cap n l W) {k : Nat} (hk : k < n) (c : Nat) (ty : TypeId) :
    (Builtin.clear_ #[22] ty #[.slice (some ⟨g, k * 4, none⟩) (n - k) c]).run Try.prog W = .ok (.tuple #[]) (W.setCells g (k * 4) (zeroRow (n - k))) := by
  obtain ⟨g', he, hb, cur, hg, hs, hnc, ht⟩ := h.at_ hk
  cases he
  have hll : (zeroRow (n - k)).length = (n - k) * 4 := by rcases zeroRow_len (n - k) with h1 | h1 <;> omega
  have hst := run_storeCells_cells (P := Try.prog) g (k * 4) (zeroRow (n - k)) 0 W (fun j hj => by
    rw [Nat.add_zero, blk_cell hg]
    have : k * 4 + j < cur.size := by rw [hs]; have := Nat.mul_le_mul_right 4 hnc; omega
    simp [this]) (fun j _ => blk_free hg) (zeroRow_one _)
  simp only [Nat.add_zero] at hst
  obtain ⟨m, hm⟩ : ∃ m, n - k = m + 1 := ⟨n - k - 1, by omega⟩
  rw [hm] at hst ⊢
  have hv : (zeroValue 36).run Try.prog W = .ok (.agg #[.string ⟨#[]⟩, .int .i64 0, .int .i64 0, .string ⟨#[]⟩]) W := by kernel_rfl
  unfold zeroRow at hst ⊢
  simp [Builtin.clear_, run_underlying Try.underlying22, hv, hst]
end

end Go.Proofs.Ytabmdhbikedhmaa
