import Derived.Test.YteeikmpfgbfeoaaMg11
import Derived.Test.YteeikmpfgbfeoaaMg07
import Derived.Deep.Cut
import Derived.Test.YteeikmpfgbfeoaaBase
import Derived.Test.YteeikmpfgbfeoaaRows
import Derived.ProofKit
import Derived.OpenShut
import Derived.ShutString
import Derived.ChangeOld

/-
  Tables: plain facts: of a table that is cut, or has something behind, nothing is a table.
-/
namespace Go.Proofs.Yteeikmpfgbfeoaa
open Go.RowKit

theorem getD_app (P Q : List UInt8) (k i : Nat) (h : P.length = k) : (P ++ Q).getD (k + i) 0 = Q.getD i 0 := by
  subst h
  simp only [List.getD]
  rw [List.getElem?_append_right (Nat.le_add_right _ _), Nat.add_sub_cancel_left]
theorem fix4_head (m : Nat) (h : m < 16777216) : (fixL ((m : Nat) : Int) 4).getD 0 0 = 0 := by
  have h1 := fixL_head m 4 (by omega) (by omega)
  have h2 : ((fixL (m : Int) 4).getD 0 0).toNat = 0 := by
    have e : (2 : Int) ^ (8 * ((4 : Int) - 1)).toNat = 16777216 := by decide
    rw [show ((4 : Nat) : Int) = 4 from rfl, e] at h1
    omega
  exact UInt8.toNat_inj.1 h2

/-- What the last bytes of a table are. -/
theorem tab_tail {x : List UInt8} {es : List Ent} {f : List UInt8} (h : IsTab x es f) (hl : x.length ≤ 1000000) :
    32 ≤ x.length ∧ x.getD (x.length - 16) 0 = 0 ∧ x.getD (x.length - 12) 0 = 0 ∧ x.getD (x.length - 8) 0 = 0 ∧ x.getD (x.length - 4) 0 = 105 ∧ x.getD (x.length - 3) 0 = 99 ∧ x.getD (x.length - 2) 0 = 98 ∧ x.getD (x.length - 1) 0 = 49 := by
  obtain ⟨per, h1, h2, hm, hf, rfl⟩ := h
  have hlen := IsTabP.len (show IsTabP (tableL es per f) es per f from ⟨h1, h2, hm, hf, rfl⟩)
  have hes := hm.2.2
  unfold tableL at hl hlen ⊢
  obtain ⟨at_, hat⟩ : ∃ n, (tabB es per (nBlk es per)).length = n := ⟨_, rfl⟩
  obtain ⟨P, hP⟩ : ∃ P, tabB es per (nBlk es per) ++ frRaw f ++ frRaw (idxB es per (nBlk es per)) = P := ⟨_, rfl⟩
  rw [hP, hat] at hl hlen ⊢
  obtain ⟨n, hn⟩ : ∃ n, P.length = n := ⟨_, rfl⟩
  have hfl := fixL_length
  obtain ⟨A, hA⟩ : ∃ A, fixL ((at_ : Nat) : Int) 4 = A := ⟨_, rfl⟩
  obtain ⟨B, hB⟩ : ∃ B, fixL (((at_ + (f.length + 8)) : Nat) : Int) 4 = B := ⟨_, rfl⟩
  obtain ⟨C, hC⟩ : ∃ C, fixL ((es.length : Nat) : Int) 4 = C := ⟨_, rfl⟩
  rw [hA, hB, hC] at hl hlen ⊢
  have lA : A.length = 4 := by rw [← hA]; exact hfl _ _
  have lB : B.length = 4 := by rw [← hB]; exact hfl _ _
  have lC : C.length = 4 := by rw [← hC]; exact hfl _ _
  have hX : (P ++ A ++ B ++ C ++ [105, 99, 98, 49]).length = n + 16 := by simp only [List.length_append, lA, lB, lC, hn, List.length_cons, List.length_nil]
  rw [hX] at hl hlen ⊢
  have hE : P ++ A ++ B ++ C ++ [105, 99, 98, 49] = P ++ (A ++ (B ++ (C ++ [105, 99, 98, 49]))) := by simp only [List.append_assoc]
  rw [hE]
  have zA : A.getD 0 0 = 0 := by rw [← hA]; exact fix4_head _ (by omega)
  have zB : B.getD 0 0 = 0 := by rw [← hB]; exact fix4_head _ (by omega)
  have zC : C.getD 0 0 = 0 := by rw [← hC]; exact fix4_head _ (by omega)
  have g : ∀ i, (P ++ (A ++ (B ++ (C ++ [105, 99, 98, 49])))).getD (n + i) 0 = (A ++ (B ++ (C ++ [105, 99, 98, 49]))).getD i 0 := fun i => getD_app _ _ n i hn
  have gA : (A ++ (B ++ (C ++ [105, 99, 98, 49]))).getD 0 0 = A.getD 0 0 := by
    simp only [List.getD]
    rw [List.getElem?_append_left (by omega)]
  have g4 : ∀ i, (A ++ (B ++ (C ++ [105, 99, 98, 49]))).getD (4 + i) 0 = (B ++ (C ++ [105, 99, 98, 49])).getD i 0 := fun i => getD_app _ _ 4 i lA
  have gB : (B ++ (C ++ [105, 99, 98, 49])).getD 0 0 = B.getD 0 0 := by
    simp only [List.getD]
    rw [List.getElem?_append_left (by omega)]
  have g8 : ∀ i, (B ++ (C ++ [105, 99, 98, 49])).getD (4 + i) 0 = (C ++ [105, 99, 98, 49]).getD i 0 := fun i => getD_app _ _ 4 i lB
  have gC : (C ++ [105, 99, 98, 49] : List UInt8).getD 0 0 = C.getD 0 0 := by
    simp only [List.getD]
    rw [List.getElem?_append_left (by omega)]
  have g12 : ∀ i, (C ++ [105, 99, 98, 49] : List UInt8).getD (4 + i) 0 = ([105, 99, 98, 49] : List UInt8).getD i 0 := fun i => getD_app _ _ 4 i lC
  refine ⟨by omega, ?_, ?_, ?_, ?_, ?_, ?_, ?_⟩
  · rw [show n + 16 - 16 = n + 0 by omega, g, gA, zA]
  · rw [show n + 16 - 12 = n + (4 + 0) by omega, g, g4, gB, zB]
  · rw [show n + 16 - 8 = n + (4 + (4 + 0)) by omega, g, g4, g8, gC, zC]
  · rw [show n + 16 - 4 = n + (4 + (4 + (4 + 0))) by omega, g, g4, g8, g12]; rfl
  · rw [show n + 16 - 3 = n + (4 + (4 + (4 + 1))) by omega, g, g4, g8, g12]; rfl
  · rw [show n + 16 - 2 = n + (4 + (4 + (4 + 2))) by omega, g, g4, g8, g12]; rfl
  · rw [show n + 16 - 1 = n + (4 + (4 + (4 + 3))) by omega, g, g4, g8, g12]; rfl

theorem cut_none {b : List UInt8} {es : List Ent} {f : List UInt8} (h : IsTab b es f) (hl : b.length ≤ 1000000) {j : Nat} (h1 : 1 ≤ j) (h2 : j ≤ 12) : getT (b.take (b.length - j)) = none := by
  refine getT_none fun es' f' h' => ?_
  obtain ⟨b32, hb16, hb12, hb8, hm0, hm1, hm2, hm3⟩ := tab_tail h hl
  have hxl : (b.take (b.length - j)).length = b.length - j := by rw [List.length_take]; omega
  obtain ⟨x32, _, _, _, xm0, xm1, xm2, xm3⟩ := tab_tail h' (by omega)
  rw [hxl] at x32 xm0 xm1 xm2 xm3
  have hx : ∀ i, i < b.length - j → (b.take (b.length - j)).getD i 0 = b.getD i 0 := fun i hi => by
    simp only [List.getD, List.getElem?_take]
    rw [if_pos hi]
  have xm0' : ∀ q, q = j → (b.take (b.length - j)).getD (b.length - q - 4 + 0) 0 = 105 := by rintro q rfl; exact xm0
  have xm1' : ∀ q, q = j → (b.take (b.length - j)).getD (b.length - q - 4 + 1) 0 = 99 := by rintro q rfl; rw [show b.length - q - 4 + 1 = b.length - q - 3 by omega]; exact xm1
  have xm2' : ∀ q, q = j → (b.take (b.length - j)).getD (b.length - q - 4 + 2) 0 = 98 := by rintro q rfl; rw [show b.length - q - 4 + 2 = b.length - q - 2 by omega]; exact xm2
  have xm3' : ∀ q, q = j → (b.take (b.length - j)).getD (b.length - q - 4 + 3) 0 = 49 := by rintro q rfl; rw [show b.length - q - 4 + 3 = b.length - q - 1 by omega]; exact xm3
  clear xm0 xm1 xm2 xm3 h h'
  have hj : j = 1 ∨ j = 2 ∨ j = 3 ∨ j = 4 ∨ j = 5 ∨ j = 6 ∨ j = 7 ∨ j = 8 ∨ j = 9 ∨ j = 10 ∨ j = 11 ∨ j = 12 := by omega
  rcases hj with rfl | rfl | rfl | rfl | rfl | rfl | rfl | rfl | rfl | rfl | rfl | rfl
  · have e := hx (b.length - 1 - 4 + 1) (by omega)
    rw [xm1' 1 rfl] at e
    rw [show b.length - 1 - 4 + 1 = b.length - 4 by omega, hm0] at e
    revert e
    decide
  · have e := hx (b.length - 2 - 4 + 2) (by omega)
    rw [xm2' 2 rfl] at e
    rw [show b.length - 2 - 4 + 2 = b.length - 4 by omega, hm0] at e
    revert e
    decide
  · have e := hx (b.length - 3 - 4 + 3) (by omega)
    rw [xm3' 3 rfl] at e
    rw [show b.length - 3 - 4 + 3 = b.length - 4 by omega, hm0] at e
    revert e
    decide
  · have e := hx (b.length - 4 - 4 + 0) (by omega)
    rw [xm0' 4 rfl] at e
    rw [show b.length - 4 - 4 + 0 = b.length - 8 by omega, hb8] at e
    revert e
    decide
  · have e := hx (b.length - 5 - 4 + 1) (by omega)
    rw [xm1' 5 rfl] at e
    rw [show b.length - 5 - 4 + 1 = b.length - 8 by omega, hb8] at e
    revert e
    decide
  · have e := hx (b.length - 6 - 4 + 2) (by omega)
    rw [xm2' 6 rfl] at e
    rw [show b.length - 6 - 4 + 2 = b.length - 8 by omega, hb8] at e
    revert e
    decide
  · have e := hx (b.length - 7 - 4 + 3) (by omega)
    rw [xm3' 7 rfl] at e
    rw [show b.length - 7 - 4 + 3 = b.length - 8 by omega, hb8] at e
    revert e
    decide
  · have e := hx (b.length - 8 - 4 + 0) (by omega)
    rw [xm0' 8 rfl] at e
    rw [show b.length - 8 - 4 + 0 = b.length - 12 by omega, hb12] at e
    revert e
    decide
  · have e := hx (b.length - 9 - 4 + 1) (by omega)
    rw [xm1' 9 rfl] at e
    rw [show b.length - 9 - 4 + 1 = b.length - 12 by omega, hb12] at e
    revert e
    decide
  · have e := hx (b.length - 10 - 4 + 2) (by omega)
    rw [xm2' 10 rfl] at e
    rw [show b.length - 10 - 4 + 2 = b.length - 12 by omega, hb12] at e
    revert e
    decide
  · have e := hx (b.length - 11 - 4 + 3) (by omega)
    rw [xm3' 11 rfl] at e
    rw [show b.length - 11 - 4 + 3 = b.length - 12 by omega, hb12] at e
    revert e
    decide
  · have e := hx (b.length - 12 - 4 + 0) (by omega)
    rw [xm0' 12 rfl] at e
    rw [show b.length - 12 - 4 + 0 = b.length - 16 by omega, hb16] at e
    revert e
    decide

theorem more_none {b more : List UInt8} {es : List Ent} {f : List UInt8} (h : IsTab b es f) (hl : b.length + more.length ≤ 1000000) (h1 : 1 ≤ more.length) (h2 : more.length ≤ 12) : getT (b ++ more) = none := by
  refine getT_none fun es' f' h' => ?_
  obtain ⟨b32, hb16, hb12, hb8, hm0, hm1, hm2, hm3⟩ := tab_tail h (by omega)
  have hN : (b ++ more).length = b.length + more.length := List.length_append
  obtain ⟨x32, xb16, xb12, xb8, xm0, xm1, xm2, xm3⟩ := tab_tail h' (by omega)
  have hx : ∀ i, i < b.length → (b ++ more).getD i 0 = b.getD i 0 := fun i hi => by
    simp only [List.getD]
    rw [List.getElem?_append_left hi]
  clear h h'
  obtain ⟨m, hmm⟩ : ∃ m, more.length = m := ⟨_, rfl⟩
  rw [hmm] at hN h1 h2 hl
  have hj : m = 1 ∨ m = 2 ∨ m = 3 ∨ m = 4 ∨ m = 5 ∨ m = 6 ∨ m = 7 ∨ m = 8 ∨ m = 9 ∨ m = 10 ∨ m = 11 ∨ m = 12 := by omega
  rcases hj with rfl | rfl | rfl | rfl | rfl | rfl | rfl | rfl | rfl | rfl | rfl | rfl
  · have e := hx (b.length - 4 + 1) (by omega)
    rw [show b.length - 4 + 1 = b.length - 3 by omega, hm1] at e
    rw [show b.length - 3 = (b ++ more).length - 4 by rw [hN]; omega, xm0] at e
    revert e
    decide
  · have e := hx (b.length - 4 + 2) (by omega)
    rw [show b.length - 4 + 2 = b.length - 2 by omega, hm2] at e
    rw [show b.length - 2 = (b ++ more).length - 4 by rw [hN]; omega, xm0] at e
    revert e
    decide
  · have e := hx (b.length - 4 + 3) (by omega)
    rw [show b.length - 4 + 3 = b.length - 1 by omega, hm3] at e
    rw [show b.length - 1 = (b ++ more).length - 4 by rw [hN]; omega, xm0] at e
    revert e
    decide
  · have e := hx (b.length - 4 + 0) (by omega)
    rw [show b.length - 4 + 0 = b.length - 4 by omega, hm0] at e
    rw [show b.length - 4 = (b ++ more).length - 8 by rw [hN]; omega, xb8] at e
    revert e
    decide
  · have e := hx (b.length - 4 + 1) (by omega)
    rw [show b.length - 4 + 1 = b.length - 3 by omega, hm1] at e
    rw [show b.length - 3 = (b ++ more).length - 8 by rw [hN]; omega, xb8] at e
    revert e
    decide
  · have e := hx (b.length - 4 + 2) (by omega)
    rw [show b.length - 4 + 2 = b.length - 2 by omega, hm2] at e
    rw [show b.length - 2 = (b ++ more).length - 8 by rw [hN]; omega, xb8] at e
    revert e
    decide
  · have e := hx (b.length - 4 + 3) (by omega)
    rw [show b.length - 4 + 3 = b.length - 1 by omega, hm3] at e
    rw [show b.length - 1 = (b ++ more).length - 8 by rw [hN]; omega, xb8] at e
    revert e
    decide
  · have e := hx (b.length - 4 + 0) (by omega)
    rw [show b.length - 4 + 0 = b.length - 4 by omega, hm0] at e
    rw [show b.length - 4 = (b ++ more).length - 12 by rw [hN]; omega, xb12] at e
    revert e
    decide
  · have e := hx (b.length - 4 + 1) (by omega)
    rw [show b.length - 4 + 1 = b.length - 3 by omega, hm1] at e
    rw [show b.length - 3 = (b ++ more).length - 12 by rw [hN]; omega, xb12] at e
    revert e
    decide
  · have e := hx (b.length - 4 + 2) (by omega)
    rw [show b.length - 4 + 2 = b.length - 2 by omega, hm2] at e
    rw [show b.length - 2 = (b ++ more).length - 12 by rw [hN]; omega, xb12] at e
    revert e
    decide
  · have e := hx (b.length - 4 + 3) (by omega)
    rw [show b.length - 4 + 3 = b.length - 1 by omega, hm3] at e
    rw [show b.length - 1 = (b ++ more).length - 12 by rw [hN]; omega, xb12] at e
    revert e
    decide
  · have e := hx (b.length - 4 + 0) (by omega)
    rw [show b.length - 4 + 0 = b.length - 4 by omega, hm0] at e
    rw [show b.length - 4 = (b ++ more).length - 16 by rw [hN]; omega, xb16] at e
    revert e
    decide

theorem few_none {b : List UInt8} (h : b.length < 16) : getT b = none := getT_none fun es f ⟨per, ht⟩ => by
  have := IsTabP.len (show IsTabP b es per f from ht)
  omega
end Go.Proofs.Yteeikmpfgbfeoaa

/-
  The walk of TableCuts.
-/
namespace Go.Proofs.Yteeikmpfgbfeoaa
open Go.RowKit

theorem made_ownT (w : World) (e size : Nat) : (w.alloc (.cells #[] e)).ownsRow w.heap.size e size (.slice (some ⟨w.heap.size, 0, none⟩) 0 0) 0 [] :=
  ⟨by simp, .inr ⟨w.heap.size, 0, #[], rfl, Nat.le_refl _, heap_alloc_new w _, Nat.le_refl _, Nat.zero_le _, by simp, by simp⟩⟩

set_option maxRecDepth 100000 in
set_option maxHeartbeats 1000000 in
theorem tableCuts_walkC (HP : PutTC) (HA : AllTC) (HF : FindTC) (v0 : Value) (ns : List UInt8) (a1 : Int) (v2 : Value) (more : List UInt8) (W : World) (w0 : RdB W v0 ns) (wa1 : (Lit.int .u16 a1).wf = true) (w2 : RdB W v2 more) :
    Calls Try.prog 4 #[v0, .int .u16 a1, v2] W fun r w' => r = .returned (.bool true) ∧ Below W.heap.size W w' := by
  have HAW := Lib.hid (awake13_any HP HA)
  have n1 := bounds_u16 wa1
  obtain ⟨cut, rfl⟩ : ∃ n : Nat, a1 = (n : Int) := ⟨a1.toNat, by omega⟩
  clear wa1
  obtain ⟨va, vc, rfl, hc1, hc2⟩ := w0.form
  obtain ⟨ma, mc, rfl, hm1, hm2⟩ := w2.form
  unfold maxLen at hc2 hm2
  have HV0 := Lib.hid w0
  have HMO := Lib.hid w2
  clear w0 w2
  by_cases c0 : ns.length = 0
  · have d0 : ((ns.length : Int) == 0) = true := by rw [c0]; rfl
    clear c0
    go_enter Try.func4, Try.ntmps4
    go_wp2_with (go_at_call 7; (refine (HAW.out _).mono ?_); rintro e w9 ⟨rfl, hb9⟩)
    go_ret
    exact ⟨rfl, hb9⟩
  · have d0 : ((ns.length : Int) == 0) = false := by
      have : (ns.length : Int) ≠ 0 := by omega
      simpa using this
    by_cases c1 : 60 < ns.length
    · have d1 : decide ((60 : Int) < (ns.length : Int)) = true := by simp; omega
      have d1n : decide (60 < ns.length) = true := by simp; omega
      clear c0
      go_enter Try.func4, Try.ntmps4
      go_wp2_with (go_at_call 7; (refine (HAW.out _).mono ?_); rintro e w9 ⟨rfl, hb9⟩)
      go_ret
      exact ⟨rfl, hb9⟩
    · have d1 : decide ((60 : Int) < (ns.length : Int)) = false := by simp; omega
      have d1n : decide (60 < ns.length) = false := by simp; omega
      by_cases c2 : more.length = 0
      · have d2 : ((more.length : Int) == 0) = true := by rw [c2]; rfl
        clear c0 c2
        go_enter Try.func4, Try.ntmps4
        go_wp2_with (go_at_call 7; (refine (HAW.out _).mono ?_); rintro e w9 ⟨rfl, hb9⟩)
        go_ret
        exact ⟨rfl, hb9⟩
      · have d2 : ((more.length : Int) == 0) = false := by
          have : (more.length : Int) ≠ 0 := by omega
          simpa using this
        by_cases c3 : 12 < more.length
        · have d3 : decide ((12 : Int) < (more.length : Int)) = true := by simp; omega
          have d3n : decide (12 < more.length) = true := by simp; omega
          clear c0
          go_enter Try.func4, Try.ntmps4
          go_wp2_with (go_at_call 7; (refine (HAW.out _).mono ?_); rintro e w9 ⟨rfl, hb9⟩)
          go_ret
          exact ⟨rfl, hb9⟩
        · have d3 : decide ((12 : Int) < (more.length : Int)) = false := by simp; omega
          have d3n : decide (12 < more.length) = false := by simp; omega
          have hne : ns ≠ [] := fun h => c0 (by rw [h]; rfl)
          have HMK := Lib.hid (make12_any _ ns 3 (by omega) W HV0.out (by omega))
          have hm := mayT_mk 3 hne (by omega)
          have HFT := Lib.hid (mk_fits ns 3)
          generalize mkB ns 3 = L at *
          have hmo1 : 1 ≤ more.length := by omega
          have hmo2 : more.length ≤ 12 := by omega
          clear c0 c1 c2 c3 hne
          have hf := makeF_few L 4620693217682128896 (by have := hm.2.2; omega)
          have hts := table_small (per := 5) hm (by omega) (by omega) hf
          have hts2 : (tableL L 5 (makeL (hashes (usersL L)) 4620693217682128896)).length + more.length ≤ 1000000 := by
            have h3 := tab_small hm.1 (show 1 ≤ 5 by omega) (by omega) (nBlk L 5) (Nat.le_refl _)
            have h4 := nBlk_le (show 1 ≤ 5 by omega) hm.2.1
            have h5 := idxB_len (es := L) (per := 5) (fun k hk => part_err hm.1 (by omega) (by omega) ((nBlk_lt (by omega) k).1 hk)) (by have := hm.2.2; omega) (nBlk L 5) (Nat.le_refl _)
            have h6 := hm.2.2
            unfold tableL
            simp only [List.length_append, frRaw_length, fixL_length, List.length_cons, List.length_nil]
            omega
          have HPU : Hid (∀ v w, OwnE w 0 v L → Calls Try.prog 13 #[v, .int .i64 5, .float .f64 4620693217682128896] w fun e w' => ∃ x, e = .returned (.tuple #[x, .int .i64 0]) ∧ RdB w' x (tableL L 5 (makeL (hashes (usersL L)) 4620693217682128896)) ∧ Below w.heap.size w w') := Lib.hid fun v w ho => by
            refine (put_yes (per := 5) HP (ho.read HFT.out) hm (by omega) (by omega) (by kernel_rfl)).mono ?_
            rintro e w' ⟨x, rfl, ho, h⟩
            exact ⟨x, rfl, ho.read, h⟩
          have hist : IsTab (tableL L 5 (makeL (hashes (usersL L)) 4620693217682128896)) L (makeL (hashes (usersL L)) 4620693217682128896) := ⟨5, by omega, by omega, hm, by omega, rfl⟩
          obtain ⟨T, hT⟩ : ∃ T, tableL L 5 (makeL (hashes (usersL L)) 4620693217682128896) = T := ⟨_, rfl⟩
          rw [hT] at HPU hts hts2 hist
          obtain ⟨n, hn⟩ : ∃ n, T.length = n := ⟨_, rfl⟩
          obtain ⟨j, hj⟩ : ∃ j, cut % 12 = j := ⟨_, rfl⟩
          obtain ⟨q, hq⟩ : ∃ q, cut % 16 = q := ⟨_, rfl⟩
          have hj2 : j < 12 := by omega
          have hq2 : q < 16 := by omega
          have j1 : (cut : Int).tmod 12 = (j : Int) := by rw [Int.tmod_eq_emod_of_nonneg (by omega)]; omega
          have j2 : (cut : Int) % 12 = (j : Int) := by omega
          have q1 : (cut : Int).tmod 16 = (q : Int) := by rw [Int.tmod_eq_emod_of_nonneg (by omega)]; omega
          have q2 : (cut : Int) % 16 = (q : Int) := by omega
          have hb32 := (tab_tail hist hts.2).1
          have g1 := cut_none hist hts.2 (j := j + 1) (by omega) (by omega)
          have g2 := more_none hist hts2 hmo1 hmo2
          have g3 := few_none (b := T.take q) (by rw [List.length_take]; omega)
          rw [hn] at hb32 g1 hts hts2
          rw [show n - (j + 1) = n - 1 - j by omega] at g1
          have HAN : Hid (∀ b, getT b = none → b.length ≤ 1000000 → ∀ v w, RdB w v b → Calls Try.prog 14 #[v] w fun e w' => ∃ x, e = .returned (.tuple #[x, .int .i64 5]) ∧ Below w.heap.size w w') := Lib.hid fun b hb hbl v w hv => by
            refine (HA v b w hv hbl).mono ?_
            rintro e w' ⟨x, rfl, _, h⟩
            exact ⟨x, by unfold errT; rw [hb]; rfl, h⟩
          have HA1 := Lib.hid (HAN.out _ g1 (by rw [List.length_take]; omega))
          have HA2 := Lib.hid (HAN.out _ g2 (by rw [List.length_append, hn]; omega))
          have HA3 := Lib.hid (HAN.out _ g3 (by rw [List.length_take]; omega))
          have HF3 : Hid (∀ v w, RdB w v (T.take q) → Calls Try.prog 15 #[v, .string ⟨#[107, 101, 121, 49]⟩, .int .i64 5] w fun e w' => e = .returned (.tuple #[.agg #[.string ⟨#[]⟩, .int .i64 0, .int .i64 0, .string ⟨#[]⟩], .bool false, .int .i64 5]) ∧ Below w.heap.size w w') := Lib.hid fun v w hv => by
            have h := HF v (T.take q) ⟨#[107, 101, 121, 49]⟩ 5 w hv (by rw [List.length_take]; omega) (by decide) (by decide)
            unfold findT at h
            rw [g3] at h
            exact h
          have HTN := Lib.hid hn
          have HNE := Lib.hid (show T ≠ [] from fun h => by rw [h] at hn; simp at hn; omega)
          have k1 : decide ((n : Int) < 16) = false := by simp; omega
          have k1n : decide (n < 16) = false := by simp; omega
          have k2 : IntKind.i64.wrap ((n : Int) - 1) = (n : Int) - 1 := IntWalk.i64_in _ (by omega)
          have k3 : IntKind.i64.wrap ((n : Int) - 1 - (j : Int)) = ((n - 1 - j : Nat) : Int) := by rw [IntWalk.i64_in _ (by omega)]; omega
          have hn6 : n ≤ 1000000 := by omega
          have hqn : q ≤ n := by omega
          have hjn : n - 1 - j ≤ n := by omega
          clear hf hts hts2 hist hT hm g1 g2 g3 HAN hj hq hn
          go_enter Try.func4, Try.ntmps4
          go_upto_region 7 with (first | (go_at_call 7; (refine (HAW.out _).mono ?_); rintro e w9 ⟨rfl, hb9⟩) | (go_at_call 16; (refine (num12_any _ _).mono ?_); rintro e w10 ⟨rfl, rfl⟩) | (go_at_call 8; (refine HMK.out.mono ?_); rintro e w1 ⟨x1, rfl, ho1, hb1⟩; have HO1 := Lib.hid (show OwnE w1 0 x1 L from own_base ho1 fun _ _ => Nat.zero_le _); have HB1 : Hid (Below W.heap.size W w1) := Lib.hid hb1; clear ho1 hb1) | (go_at_call 13; (refine (HPU.out _ _ HO1.out).mono ?_); rintro e w2 ⟨x2, rfl, hr2, hb2⟩; obtain ⟨g, off, cx, hx2, hcx, _, _, _⟩ := hr2.cells HNE.out; rw [HTN.out] at hx2 hcx; subst hx2; have hjc : n - 1 - j ≤ cx := Nat.le_trans hjn hcx; have hqc : q ≤ cx := Nat.le_trans hqn hcx; have HR2 := Lib.hid hr2; have HB2 := Lib.hid (belowT HB1.out hb2); clear hr2 hb2) | (go_at_call 14; have hr := HR2.out; rw [← HTN.out] at hr; have hf := hr.front (n - 1 - j) (by have := HTN.out; omega); (with_reducible refine (HA1.out _ _ hf).mono ?_); clear hr hf; rintro e w3 ⟨x3, rfl, hb3⟩; have HR3 := Lib.hid (HR2.out.below hb3 (Nat.le_refl _)); have HB3 := Lib.hid (belowT HB2.out hb3); have HM3 := Lib.hid (HMO.out.below HB3.out (Nat.le_refl _)); clear hb3))
          have HTn := Lib.hid (show T.length = n from HTN.out)
          go_wp2_with (at_builtin; refine wpList_append_bytes rfl (.tmp 60) (.tmp 61) 22 rfl w3.heap.size 5 Try.underlying22 info_u8 _ _ [] T rfl rfl (made_ownT w3 _ _) (HR3.out.below ((Below.refl _ _).alloc (Nat.le_refl _) _) (Nat.le_refl _)) ?ba1 ?bl1 ?kk1)
          case ba1 => simp
          case bl1 => have := HTN.out; simp only [List.length_nil]; omega
          case kk1 =>
            intro v4 w4 hown4 hb4
            have HO4 : Hid (OwnB w4 w3.heap.size 5 v4 T) := Lib.hid hown4
            have E4 : Hid (Below w3.heap.size w3 w4) := Lib.hid (hb4 _ _ (Nat.le_refl _) ((Below.refl _ _).alloc (Nat.le_refl _) _))
            have HM4 := Lib.hid (HM3.out.below E4.out (Nat.le_refl _))
            clear hown4 hb4
            go_wp2_with (at_builtin; refine wpList_append_bytes rfl (.tmp 62) (.tmp 63) 22 rfl w3.heap.size 5 Try.underlying22 info_u8 _ _ T more rfl rfl HO4.out HM4.out ?ba2 ?bl2 ?kk2)
            case ba2 => exact E4.out.size
            case bl2 => have := HTN.out; omega
            case kk2 =>
              intro v5 w5 hown5 hb5
              have HO5 := Lib.hid hown5
              have E5 : Hid (Below w3.heap.size w3 w5) := Lib.hid (hb5 _ _ (Nat.le_refl _) E4.out)
              clear hown5 hb5
              go_wp2_with (first | (go_at_call 7; (refine (HAW.out _).mono ?_); rintro e w9 ⟨rfl, hb9⟩) | (go_at_call 16; (refine (num12_any _ _).mono ?_); rintro e w10 ⟨rfl, rfl⟩) | (go_at_call 14; first | ((with_reducible refine (HA2.out _ _ HO5.out.read).mono ?_); rintro e w6 ⟨x6, rfl, hb6⟩; have E6 := Lib.hid (belowT E5.out hb6); have HR6 := Lib.hid (HR3.out.below E6.out (Nat.le_refl _)); clear hb6) | (have hr := HR6.out; rw [← HTN.out] at hr; have hf := hr.front q (by have := HTN.out; omega); (with_reducible refine (HA3.out _ _ hf).mono ?_); clear hr hf; rintro e w7 ⟨x7, rfl, hb7⟩; have E7 := Lib.hid hb7; have HR7 := Lib.hid (HR6.out.below hb7 (Nat.le_refl _)); clear hb7)) | (go_at_call 15; have hr := HR7.out; rw [← HTN.out] at hr; have hf := hr.front q (by have := HTN.out; omega); (with_reducible refine (HF3.out _ _ hf).mono ?_); clear hr hf; rintro e w8 ⟨rfl, hb8⟩; have E8 := Lib.hid (belowT hb8 ((Below.refl _ w8).alloc (Nat.le_refl _) (.cells #[.string ⟨#[]⟩, .int .i64 0, .int .i64 0, .string ⟨#[]⟩] 34))); clear hb8))
              go_ret
              exact ⟨rfl, belowT (belowT (belowT HB3.out E6.out) (belowT E7.out E8.out)) hb9⟩
end Go.Proofs.Yteeikmpfgbfeoaa

/-
  The walk of TableCuts, on what is landed.
-/
namespace Go.Proofs.Yteeikmpfgbfeoaa
open Go.RowKit

theorem tableCuts_walk (v0 : Value) (ns : List UInt8) (a1 : Int) (v2 : Value) (more : List UInt8) (W : World) (w0 : RdB W v0 ns) (wa1 : (Lit.int .u16 a1).wf = true) (w2 : RdB W v2 more) :
    Calls Try.prog 4 #[v0, .int .u16 a1, v2] W fun r w' => r = .returned (.bool true) ∧ Below W.heap.size W w' :=
  tableCuts_walkC puttab_any all_any find_any v0 ns a1 v2 more W w0 wa1 w2
end Go.Proofs.Yteeikmpfgbfeoaa

/-
  How arguments are opened: a slice of bytes that came in reads as a list of bytes; a slice of integers as a list of integers.
-/
namespace Go.Proofs.Yteeikmpfgbfeoaa
open Go.ChangeShapes Go.WideShapes Go.ChangeAt Go.RowKit

/-- The slice 'v' reads as the integers 'zs' (each of them fits the kind 'k') in world 'w'. -/
def RdI (k : IntKind) (w : World) (v : Value) (zs : List Int) : Prop :=
  ∃ a cap, v = .slice a zs.length cap ∧ zs.length ≤ cap ∧ cap ≤ maxLen ∧ (∀ n ∈ zs, (Lit.int k n).wf = true) ∧
    ((zs = [] ∧ (a = none → cap = 0)) ∨ ∃ b off, a = some ⟨b, off, none⟩ ∧ b < w.heap.size ∧ ∀ i, i < zs.length → w.cell? ⟨b, off + i, none⟩ = some (.int k (zs.getD i 0)))

theorem rdI_open {H : Type} {enc : TypeId × Value → H} {P : Program} {w : World} {k : IntKind} {t e : TypeId} {base : Nat} {m : Nat} {spare : Nat → Bool} {held : Bool} {v : Value} {d : DataW H} {p : List MemPlace} (ht : P.underlying t = some (.slice e)) (he : P.underlying e = some (.int k)) (hc : P.cellsOf e = 1)
    (hok : Value.okWide P w .any base t v) (hd : DataW.Trod enc P w m spare held t v d p) : ∃ zs, RdI k w v zs := by
  obtain ⟨a, len, cap, rfl⟩ := okWide_slice ht hok
  obtain ⟨fuel, hf⟩ := hd
  rcases open_ints ht he hc hf with ⟨hcs, _⟩ | ⟨x, l, c, zs, hcs, _, hl, hm, hz, _, hcell, hwz⟩
  · simp [Value.cells] at hcs
    obtain ⟨rfl, rfl, rfl⟩ := hcs
    exact ⟨[], none, 0, rfl, Nat.le_refl _, Nat.zero_le _, by simp, .inl ⟨rfl, fun _ => rfl⟩⟩
  · simp [Value.cells] at hcs
    obtain ⟨rfl, rfl, rfl⟩ := hcs
    have hz' : len ≤ zs.length := by rw [hz]; split <;> omega
    have hlen : (zs.take len).length = len := by rw [List.length_take]; omega
    refine ⟨zs.take len, some x, cap, by rw [hlen], by rw [hlen]; exact hl, hm, fun n hn => hwz n (List.mem_of_mem_take hn), ?_⟩
    by_cases h0 : len = 0
    · left; subst h0; exact ⟨rfl, fun h => by cases h⟩
    · right
      obtain ⟨b, off, spot⟩ := x
      have hc0 := hcell 0 (by omega)
      have hspot : spot = none := by simpa [Addr.add] using World.cell?_spot hc0
      subst hspot
      refine ⟨b, off, rfl, World.block_lt_of_cell? w _ hc0, fun i hi => ?_⟩
      have hi' : i < len := by omega
      have h1 := hcell i (by omega)
      have hadd : (⟨b, off, none⟩ : Addr).add i = ⟨b, off + i, none⟩ := by unfold Addr.add; split <;> simp_all
      rw [hadd] at h1
      rw [h1]
      simp [List.getD, hi']

theorem RdI.bytes {w : World} {v : Value} {zs : List Int} (h : RdI .u8 w v zs) : ∃ l, RdB w v l := by
  obtain ⟨a, cap, rfl, h1, h2, h3, h4⟩ := h
  have key : ∀ (zs : List Int), (∀ n ∈ zs, (Lit.int .u8 n).wf = true) → ∃ l : List UInt8, l.map (fun c => (c.toNat : Int)) = zs := by
    intro zs
    induction zs with
    | nil => exact fun _ => ⟨[], rfl⟩
    | cons z zs ih =>
      intro h
      obtain ⟨l, hl⟩ := ih fun n hn => h n (List.mem_cons_of_mem _ hn)
      have hz := bounds_u8 (h z (List.mem_cons_self ..))
      refine ⟨UInt8.ofNat z.toNat :: l, ?_⟩
      rw [List.map_cons, hl, UInt8.toNat_ofNat', Nat.mod_eq_of_lt (by omega)]
      congr 1
      omega
  obtain ⟨l, rfl⟩ := key zs h3
  simp only [List.length_map] at h1 h4 ⊢
  refine ⟨l, a, cap, rfl, h1, h2, by simp, ?_⟩
  rcases h4 with ⟨h4, h5⟩ | ⟨b, off, rfl, h5, h6⟩
  · left; exact ⟨by simpa using h4, h5⟩
  · refine .inr ⟨b, off, rfl, h5, fun j u hj => ?_⟩
    have hj' : j < l.length := by
      rcases Nat.lt_or_ge j l.length with h | h
      · exact h
      · simp [List.getElem?_eq_none h] at hj
    rw [h6 j hj']
    simp [hj'] at hj
    simp [List.getD, hj', hj]

theorem rdB_open {H : Type} {enc : TypeId × Value → H} {P : Program} {w : World} {t e : TypeId} {base : Nat} {m : Nat} {spare : Nat → Bool} {held : Bool} {v : Value} {d : DataW H} {p : List MemPlace} (ht : P.underlying t = some (.slice e)) (he : P.underlying e = some (.int .u8)) (hc : P.cellsOf e = 1)
    (hok : Value.okWide P w .any base t v) (hd : DataW.Trod enc P w m spare held t v d p) : ∃ l, RdB w v l :=
  let ⟨_, h⟩ := rdI_open ht he hc hok hd
  h.bytes
end Go.Proofs.Yteeikmpfgbfeoaa
