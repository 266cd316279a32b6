/-
  Chapter 14, what is asked of package seek: as contracts over where the program's iterator lies, which the walks take and the program's own texts give.
-/
import Derived.Test.YtabmdhbikedhmaaSeekMath
import Derived.Test.YtabmdhbikedhmaaKept
import Derived.Test.YtabmdhbikedhmaaMkSmall
namespace Go.Proofs.Ytabmdhbikedhmaa
open Go.RowKit

/-- What a move of the iterator tells and leaves. -/
def PMove (It : (Nat → Prop) → World → Nat → List Ent → Int → Prop) (G : Nat → Prop) (q : Nat) (L : List Ent) (a : Int) (w : World) (r : Ending) (w' : World) : Prop := r = .returned (.bool (stands L a)) ∧ It G w' q L a ∧ Touch G w w'

/-- 'It G w q L a': the program's iterator 'q', with the blocks 'G', goes over 'L' and stands at 'a'. -/
structure ItC (It : (Nat → Prop) → World → Nat → List Ent → Int → Prop) : Prop where
  lt : ∀ {G w q L a}, It G w q L a → ∀ k, G k → k < w.heap.size
  kept : ∀ {G R w w' q L a}, It G w q L a → Kept R w w' → (∀ k, G k → R k) → It G w' q L a
  new_ : ∀ (v : Value) (es : List Ent) (w : World), RdE w v es → SmallE es → Calls Try.prog 9 #[v] w fun e w' => ∃ q G, e = .returned (.pointer (some ⟨q, 0, none⟩)) ∧ It G w' q (sortE es) (-1) ∧ (∀ k, G k → w.heap.size ≤ k) ∧ Below w.heap.size w w'
  first : ∀ {G w q L a}, It G w q L a → Calls Try.prog 11 #[.pointer (some ⟨q, 0, none⟩)] w (PMove It G q L 0 w)
  last : ∀ {G w q L a}, It G w q L a → Calls Try.prog 13 #[.pointer (some ⟨q, 0, none⟩)] w (PMove It G q L ((L.length : Int) - 1) w)
  next : ∀ {G w q L a}, It G w q L a → Calls Try.prog 17 #[.pointer (some ⟨q, 0, none⟩)] w (PMove It G q L (nextA L a) w)
  prev : ∀ {G w q L a}, It G w q L a → Calls Try.prog 19 #[.pointer (some ⟨q, 0, none⟩)] w (PMove It G q L (prevA a) w)
  seek : ∀ {G w q L a}, It G w q L a → ∀ (u : ByteArray) (s k : Int), u.size ≤ maxLen → (Lit.int .i64 s).wf = true → (Lit.int .i64 k).wf = true → Calls Try.prog 15 #[.pointer (some ⟨q, 0, none⟩), .agg #[.string u, .int .i64 s, .int .i64 k]] w (PMove It G q L (seekN L u s k : Int) w)
  at_ : ∀ {G w q L a}, It G w q L a → Calls Try.prog 21 #[.pointer (some ⟨q, 0, none⟩)] w fun e w' => e = .returned (ansN (atA L a)) ∧ Below w.heap.size w w'
  nfirst : ∀ w, Calls Try.prog 11 #[.pointer none] w fun e w' => e = .returned (.bool false) ∧ Below w.heap.size w w'
  nlast : ∀ w, Calls Try.prog 13 #[.pointer none] w fun e w' => e = .returned (.bool false) ∧ Below w.heap.size w w'
  nnext : ∀ w, Calls Try.prog 17 #[.pointer none] w fun e w' => e = .returned (.bool false) ∧ Below w.heap.size w w'
  nprev : ∀ w, Calls Try.prog 19 #[.pointer none] w fun e w' => e = .returned (.bool false) ∧ Below w.heap.size w w'
  nseek : ∀ w (u : ByteArray) (s k : Int), u.size ≤ maxLen → (Lit.int .i64 s).wf = true → (Lit.int .i64 k).wf = true → Calls Try.prog 15 #[.pointer none, .agg #[.string u, .int .i64 s, .int .i64 k]] w fun e w' => e = .returned (.bool false) ∧ Below w.heap.size w w'
  nat_ : ∀ w, Calls Try.prog 21 #[.pointer none] w fun e w' => e = .returned (ansN none) ∧ Below w.heap.size w w'

section
variable {It : (Nat → Prop) → World → Nat → List Ent → Int → Prop}
theorem ItC.below (hi : ItC It) {G : Nat → Prop} {w w' : World} {q : Nat} {L : List Ent} {a : Int} (h : It G w q L a) (hb : Below w.heap.size w w') : It G w' q L a := hi.kept (R := G) h (Kept.of hb fun k hk => hi.lt h k hk) fun _ h => h
theorem ItC.touch (hi : ItC It) {G F : Nat → Prop} {w w' : World} {q : Nat} {L : List Ent} {a : Int} (h : It G w q L a) (hk : Touch F w w') (hF : ∀ k, G k → ¬ F k) : It G w' q L a := hi.kept (R := G) h (Kept.mono hk fun k hk' => ⟨hi.lt h k hk', hF k hk'⟩) fun _ h => h
end
/-- What was there before the iterator is as it was. -/
theorem touch_below {G : Nat → Prop} {W w w' : World} (hG : ∀ k, G k → W.heap.size ≤ k) (hb : Below W.heap.size W w) (ht : Touch G w w') : Below W.heap.size W w' :=
  hb.trans (Kept.below ht fun k hk => ⟨Nat.lt_of_lt_of_le hk hb.size, fun hg => by have := hG k hg; omega⟩)

set_option maxRecDepth 100000 in
set_option maxHeartbeats 600000 in
theorem awake14_any {It : (Nat → Prop) → World → Nat → List Ent → Int → Prop} (hi : ItC It) (w : World) : Calls Try.prog 8 #[] w fun e w' => e = .returned (.bool true) ∧ Below w.heap.size w w' := by
  have HI := Lib.hid hi
  have HN1 : Hid (∀ w, Calls Try.prog 9 #[.slice none 0 0] w fun e w' => ∃ q G, e = .returned (.pointer (some ⟨q, 0, none⟩)) ∧ It G w' q [] (-1) ∧ (∀ k, G k → w.heap.size ≤ k) ∧ Below w.heap.size w w') := Lib.hid fun w =>
    hi.new_ (.slice none 0 0) [] w ⟨rd_of_own (World.ownsRow_nil w 0 36 4), fun e h => by cases h⟩ ⟨by simp, fun e h => by cases h⟩
  have HMK := Lib.hid (fun v w hv => make12_any v [1] 0 (by omega) w hv (by simp))
  have hl2 := List.length_pos_iff.2 (mkB_ne (ns := [1]) 0 (by simp) (by simp))
  have HSM := Lib.hid (may_small (mkB_may [1] 0) (by have := mkB_len [1] 0; simp at this; omega))
  have HFT := Lib.hid (mk_fits [1] 0)
  have hso := sort_self (mkB_up [1] 0)
  generalize mkB [1] 0 = L at *
  have HN2 : Hid (∀ v w, OwnE w 0 v L → Calls Try.prog 9 #[v] w fun e w' => ∃ q G, e = .returned (.pointer (some ⟨q, 0, none⟩)) ∧ It G w' q L (-1) ∧ (∀ k, G k → w.heap.size ≤ k) ∧ Below w.heap.size w w') := Lib.hid fun v w ho => by
    have h := hi.new_ v L w (ho.read HFT.out) HSM.out
    rw [hso] at h
    exact h
  have HS0 := Lib.hid (show stands ([] : List Ent) 0 = false from rfl)
  have HS1 := Lib.hid (show stands L 0 = true by unfold stands; simp; omega)
  clear hi hl2 hso
  go_enter Try.func8, Try.ntmps8
  go_wp2_with (first | (go_at_call 9; first | ((with_reducible refine (HN1.out _).mono ?_); rintro e w1 ⟨p, G, rfl, i1, g1, hb1⟩; have I1 := Lib.hid i1; have G1 := Lib.hid g1; have HB1 := Lib.hid hb1; clear i1 g1 hb1) | ((with_reducible refine (HN2.out _ _ HO3.out).mono ?_); rintro e w4 ⟨q, H, rfl, i4, g4, hb4⟩; have I4 := Lib.hid i4; have G4 := Lib.hid g4; have HB4 := Lib.hid (belowT HB3.out hb4); have J4 := Lib.hid (HI.out.below J3.out hb4); clear i4 g4 hb4)) | (go_at_call 23; (refine (HMK.out _ _ (rdB_row w1 [1] (by simp))).mono ?_); rintro e w3 ⟨x3, rfl, ho3, hb3⟩; have HO3 := Lib.hid (show OwnE w3 0 x3 L from own_base ho3 fun _ _ => Nat.zero_le _); have D13 := Lib.hid (belowT ((Below.refl _ w1).alloc (Nat.le_refl _) (.cells #[.int .u8 1] 5)) hb3); have HB3 := Lib.hid (belowT HB1.out D13.out); have J3 := Lib.hid (HI.out.below I1.out D13.out); clear hb3) | (go_at_call 11; first | ((with_reducible refine (HI.out.first J4.out).mono ?_); rintro e w5 ⟨rfl, i5, t5⟩; rw [HS0.out]; have HB5 := Lib.hid (touch_below (fun k hk => G1.out k hk) HB4.out t5); have I5 := Lib.hid (HI.out.touch I4.out t5 (fun k h1 h2 => by have a1 := G4.out k h1; have a2 := HI.out.lt J3.out k h2; omega)); clear i5 t5) | ((with_reducible refine (HI.out.first I5.out).mono ?_); rintro e w6 ⟨rfl, i6, t6⟩; rw [HS1.out]; have HB6 := Lib.hid (touch_below (fun k hk => by have a1 := G4.out k hk; have a2 := HB3.out.size; omega) HB5.out t6); clear i6 t6)))
  go_ret
  exact ⟨rfl, HB6.out⟩
end Go.Proofs.Ytabmdhbikedhmaa
