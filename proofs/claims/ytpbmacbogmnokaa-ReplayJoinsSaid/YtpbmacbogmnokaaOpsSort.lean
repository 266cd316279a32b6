/-
  slices.SortFunc of operations by their keys; strings.Compare; bytes.Equal.
-/
import Derived.Test.YtpbmacbogmnokaaOpsIns
import Derived.Test.YtpbmacbogmnokaaLayO
import Derived.Sort.OwnSorted
namespace Go.Proofs.Ytpbmacbogmnokaa
open Go.RowKit

theorem cmpL_lib : ∀ a b : List UInt8, Lib.compareBytes a b = cmpL a b
  | [], [] => rfl
  | [], _ :: _ => rfl
  | _ :: _, [] => rfl
  | a :: r, b :: t => by
    rw [Lib.compareBytes, cmpL, cmpL_lib r t]
    simp only [UInt8.lt_iff_toNat_lt]

theorem compare_any (a b : ByteArray) (w : World) : Calls Try.prog 60 #[.string a, .string b] w fun e w' => e = .returned (.int .i64 (cmpL a.data.toList b.data.toList)) ∧ w' = w := by
  have h := Any.strings_Compare Try.cmpS a b w
  rw [cmpL_lib] at h
  exact h

/-- Whose key is ahead? -/
def cfO (x y : Ope) : Int := cmpL x.key y.key

theorem closure_any (x y : Ope) (W : World) : Calls Try.prog 59 #[x.val, y.val] W fun e w' => e = .returned (.int .i64 (cfO x y)) ∧ ∃ q os', w' = Sort.grow (W.drewN q) os' := by
  have hcon := fun W' => compare_any x.u y.u W'
  have hr : cmpL x.u.data.toList y.u.data.toList = cfO x y := rfl
  rw [hr] at hcon
  generalize cfO x y = r at hcon ⊢
  clear hr
  go_enter Try.func59, Try.ntmps59
  go_wp2_with (go_at_call 60; refine (hcon _).mono ?_; rintro e w' ⟨rfl, rfl⟩)
  go_ret
  exact ⟨rfl, 0, _, by rw [Sort.alloc_eq_grow, Sort.alloc_eq_grow, Sort.grow_grow]; rfl⟩

theorem ltO (x y : Ope) : ltOf cfO x y = decide (cmpL x.key y.key = -1) := by
  unfold ltOf cfO
  have := cmpL_sgn x.key y.key
  unfold Sgn at this
  rcases this with h | h | h <;> rw [h] <;> rfl

theorem swoO : Sort.SWO (ltOf cfO) where
  irrefl x := by rw [ltO, (cmpL_zero _ _).2 rfl]; rfl
  trans x y z h1 h2 := by
    rw [ltO, decide_eq_true_eq] at *
    exact cmpL_trans h1 h2
  ntrans x y z h1 h2 := by
    rw [ltO, decide_eq_false_iff_not] at *
    intro h
    have h3 := cmpL_three x.key y.key z.key
    have s1 := cmpL_sgn x.key y.key
    have s2 := cmpL_sgn y.key z.key
    unfold Three Sgn at *
    omega

theorem flat_arr (d : Array Ope) : Sort.flatK Ope.cells 3 d = (d.toList.flatMap Ope.cells).toArray := by
  refine Array.ext (by rw [Sort.size_flatK]; simp only [List.size_toArray, opFlat_length, Array.length_toList]) fun t h1 h2 => ?_
  have ht : t < d.size * 3 := by rwa [Sort.size_flatK] at h1
  have e := opFlat_at d.toList (t / 3) (t % 3) (by rw [Array.length_toList]; omega) (Nat.mod_lt _ (by decide))
  rw [show t / 3 * 3 + t % 3 = t by omega] at e
  rw [← getElem!_pos _ t h1, Sort.get_flatK _ _ _ _ ht]
  have h3 : t < (d.toList.flatMap Ope.cells).length := by rw [opFlat_length, Array.length_toList]; exact ht
  rw [List.getElem?_eq_getElem h3] at e
  have e2 : d.toList.getD (t / 3) Ope.none_ = d[t / 3]! := by
    have : t / 3 < d.size := by omega
    simp [List.getD, this, getElem!_pos]
  rw [e2] at e
  have e3 : (d[t / 3]!.cells)[t % 3]! = (d.toList.flatMap Ope.cells)[t] := by
    rw [List.getElem!_eq_getElem?_getD, ← e]
    rfl
  rw [e3]
  simp

theorem OwnO.holds {w : World} {B e g cap : Nat} {l : List Ope} (h : OwnO w B e (.slice (some ⟨g, 0, none⟩) l.length cap) l) : Sort.HoldsK Ope.cells 3 w g 0 l.toArray := by
  intro j hj
  have hj' : j < l.length * 3 := by simpa using hj
  refine ⟨?_, World.ownsRow.frozenAt h _⟩
  rw [Nat.zero_add, World.ownsRow.cellAt h j hj', flat_arr]
  have h3 : j < (l.flatMap Ope.cells).length := by rw [opFlat_length]; exact hj'
  rw [List.getElem?_eq_getElem h3, getElem!_pos _ j (by simpa using h3)]
  simp

theorem OwnO.sorted {w : World} {B e g cap : Nat} {l : List Ope} (h : OwnO w B e (.slice (some ⟨g, 0, none⟩) l.length cap) l) (d : Array Ope) (hd : d.size = l.length) (n : Nat) (os : Array Obj) :
    OwnO (sortWorldK Ope.cells 3 w g 0 n d os) B e (.slice (some ⟨g, 0, none⟩) l.length cap) d.toList ∧ (B ≤ w.heap.size → Below B w (sortWorldK Ope.cells 3 w g 0 n d os)) := by
  obtain ⟨h0, h1⟩ := h
  rcases h1 with ⟨h1, _⟩ | ⟨g', cap', cur, hv, hb, hg, hn, hm, hs, ht⟩
  · cases h1
  · cases hv
    have hlt := (Array.getElem?_eq_some_iff.1 hg).1
    have hblk : (sortWorldK Ope.cells 3 w g 0 n d os).heap[g]? = some (.cells (Sort.putCells id 0 (Sort.flatK Ope.cells 3 d) cur) e (0, 0)) := by
      unfold sortWorldK Sort.putRowK
      rw [Sort.heap_grow_old _ _ (by simpa using hlt)]
      simp [Sort.putRow, Sort.mapBlock, Sort.ahead, Array.getElem?_modify, hg, Sort.onCells]
    refine ⟨⟨by rw [opFlat_length], .inr ⟨g, cap, _, ?_, hb, hblk, by rw [Array.length_toList]; omega, hm, by simp [Sort.putCells, hs], ?_⟩⟩, fun hB => ?_⟩
    · have e : d.toList.length = l.length := hd
      rw [e]
    · rw [Array.length_toList, flat_arr]
      apply List.ext_getElem?
      intro j
      by_cases hj : j < d.size * 3
      · have h3 : j < (d.toList.flatMap Ope.cells).length := by rw [opFlat_length, Array.length_toList]; exact hj
        have hc : j < cur.size := by omega
        rw [List.getElem?_take_of_lt hj, Array.getElem?_toList, List.getElem?_eq_getElem h3]
        simp only [Sort.putCells, Array.getElem?_mapIdx, Array.getElem?_eq_getElem hc, Option.map_some]
        rw [if_pos (by simp only [List.size_toArray, opFlat_length, Array.length_toList]; omega)]
        rw [getElem!_pos _ _ (by simpa using h3)]
        simp
      · rw [List.getElem?_take_eq_none (by omega), List.getElem?_eq_none (by rw [opFlat_length, Array.length_toList]; omega)]
    · refine ⟨rfl, rfl, rfl, ?_, fun k hk => ?_⟩
      · unfold sortWorldK Sort.putRowK
        simp
      · unfold sortWorldK Sort.putRowK
        rw [Sort.heap_grow_old _ _ (by simp; omega)]
        have : g ≠ k := by omega
        simp [Sort.putRow, Sort.mapBlock, Sort.ahead, Array.getElem?_modify, this]

theorem sort_any (w : World) (B g cap : Nat) (l : List Ope) (h : OwnO w B 43 (.slice (some ⟨g, 0, none⟩) l.length cap) l) (hB : B ≤ w.heap.size) (hn : l.length < 1000000) :
    Calls Try.prog 58 #[.slice (some ⟨g, 0, none⟩) l.length cap, .func (.func 59) #[] #[]] w fun e w' => e = .returned (.tuple #[]) ∧ ∃ m : List Ope, l.Perm m ∧ (m.Pairwise fun a b => ¬ cmpL b.key a.key = -1) ∧
      OwnO w' B 43 (.slice (some ⟨g, 0, none⟩) l.length cap) m ∧ Below B w w' := by
  have eg : ∀ args w, (callFunc 59 args).run Try.prog w = .ok (.enter 59 args) w := enters_of Try.func59 (by kernel_rfl) rfl
  have hblk : g < w.heap.size := by
    rcases h.2 with ⟨h1, _⟩ | ⟨g', cap', cur, hv, hb, hg, _⟩
    · cases h1
    · cases hv
      exact (Array.getElem?_eq_some_iff.1 hg).1
  have hcon := AnyQ.slices_SortFunc Try.sortO 3 Try.isAgg43 Try.sizeOf43 Ope.cells (fun _ => rfl) opCells_one cfO swoO 59 #[] g 0 cap l.toArray w eg (fun _ _ _ _ x y => closure_any x y _) h.holds hblk (by simp; omega)
  rw [List.size_toArray] at hcon
  refine hcon.mono ?_
  rintro e w' ⟨rfl, d', n, os, hp, hs, rfl⟩
  obtain ⟨hp1, _, hp3⟩ := hp
  have hp1 : d'.size = l.length := by simpa using hp1
  have hq := h.sorted d' hp1 n os
  have e1 : (d'.extract 0 l.length).toList = d'.toList := by rw [← hp1]; simp
  have e2 : (l.toArray.extract 0 l.length).toList = l := by simp
  rw [e1, e2] at hp3
  refine ⟨rfl, d'.toList, hp3.symm, ?_, hq.1, hq.2 hB⟩
  rw [List.pairwise_iff_getElem]
  intro i j hi hj hij
  have h4 := hs i j (Nat.zero_le _) hij (by rw [Array.length_toList] at hj; omega)
  rw [ltO, decide_eq_false_iff_not] at h4
  rw [Array.length_toList] at hi hj
  rw [getElem!_pos d' j hj, getElem!_pos d' i hi] at h4
  simpa using h4
end Go.Proofs.Ytpbmacbogmnokaa
