/-
  What frame.Put and frame.Get do, for all that they are given.
-/
import Derived.Test.YteeikmpfgbfeoaaGreatFrameMath
import Derived.Test.YteeikmpfgbfeoaaGreatFrameLib
import Derived.Test.YteeikmpfgbfeoaaGreatFixedOut
import Derived.Test.YteeikmpfgbfeoaaGreatSum
import Derived.OwnWalk
namespace Go.Proofs.YteeikmpfgbfeoaaGreat
open Go.RowKit

theorem rdB_form' {w : World} {v : Value} {l : List UInt8} (h : RdB w v l) : ∃ a cap, v = .slice a l.length cap := let ⟨a, cap, h, _⟩ := h.form; ⟨a, cap, h⟩

/-- A slice of three slices that was built. -/
theorem rdLL_three {w : World} {B : Nat} {c1 c2 c3 : Value} {l1 l2 l3 : List UInt8} {e : Nat} (h : w.heap[B]? = some (.cells #[c1, c2, c3] e (0, 0))) (h1 : RdB w c1 l1) (h2 : RdB w c2 l2) (h3 : RdB w c3 l3) :
    RdLL w (.slice (some ⟨B, 0, none⟩) 3 3) [l1, l2, l3] := by
  refine ⟨[c1, c2, c3], ⟨_, _, rfl, Nat.le_refl _, by unfold maxLen; simp, rfl, .inr ⟨B, 0, rfl, blk_lt h, fun j u hj => ?_⟩⟩, fun i c l hc hl => ?_⟩
  · rw [Nat.zero_add, blk_cell h]
    simpa using hj
  · match i, hc, hl with
    | 0, hc, hl => simp at hc hl; subst hc hl; exact h1
    | 1, hc, hl => simp at hc hl; subst hc hl; exact h2
    | 2, hc, hl => simp at hc hl; subst hc hl; exact h3
    | i + 3, hc, hl => simp at hc

set_option maxRecDepth 100000 in
set_option maxHeartbeats 1000000 in
theorem fput_any (w : World) (v : Value) (l : List UInt8) (h : RdB w v l) (hn : l.length < 1000000000000) :
    Calls Tryz.prog 21 #[v] w (RetB w.heap.size w (frL l)) := by
  obtain ⟨a, cap, rfl, hc1, hc2⟩ := h.form
  unfold maxLen at hc2
  by_cases hm : l.length ≤ 1048576
  · have g1 : ¬ (1048576 : Int) < (l.length : Int) := by omega
    have e1 : frL l = [fixL (l.length : Int) 4, fixL (sumL l : Int) 4, l].flatten := by
      unfold frL
      rw [if_pos hm]
      simp [frRaw]
    have HV := Lib.hid h
    rw [e1]
    clear e1
    have hs : sumLen [fixL (l.length : Int) 4, fixL (sumL l : Int) 4, l] < 1000000000000 := by
      simp [sumLen, fixL_length]
      omega
    have HS := Lib.hid hs
    clear h hs
    obtain ⟨fl, hfl⟩ : ∃ fl, fl = [fixL (l.length : Int) 4, fixL (sumL l : Int) 4, l].flatten := ⟨_, rfl⟩
    rw [← hfl]
    have HFL := Lib.hid hfl
    clear hfl
    go_enter Tryz.func21, Tryz.ntmps21
    go_wp2_with fail
    refine (fixed_yes (l.length : Int) 4 (by omega) _).mono ?_
    rintro e w1 ⟨u1, rfl, hu1, hb1⟩
    obtain ⟨a1, k1, rfl⟩ := rdB_form' hu1.read
    rw [fixL_length] at *
    have HV1 := Lib.hid (HV.out.below hb1 (Nat.le_refl _))
    have HU1 := Lib.hid hu1
    have HB1 := Lib.hid hb1
    clear hu1 hb1
    go_wp2_with fail
    refine (sum_any _ l _ HV1.out).mono ?_
    rintro e w2 ⟨rfl, rfl⟩
    go_wp2_with fail
    refine (fixed_yes (sumL l : Int) 4 (by omega) _).mono ?_
    rintro e w3 ⟨u3, rfl, hu3, hb3⟩
    obtain ⟨a3, k3, rfl⟩ := rdB_form' hu3.read
    rw [fixL_length] at *
    have HV3 := Lib.hid (HV1.out.below hb3 (Nat.le_refl _))
    have HU13 := Lib.hid (HU1.out.below hb3 (Nat.le_refl _))
    have HU3 := Lib.hid hu3
    have HB3 := Lib.hid (HB1.out.trans (hb3.mono HB1.out.size))
    clear hu3 hb3
    go_wp2_with fail
    obtain ⟨o3, ho3⟩ : ∃ o3, o3 = Obj.cells #[.slice a1 4 k1, .slice a3 4 k3, .slice a l.length cap] 24 := ⟨_, rfl⟩
    rw [← ho3]
    have hal : Below w.heap.size w (w3.alloc o3) := HB3.out.alloc HB3.out.size _
    have hal3 : Below w3.heap.size w3 (w3.alloc o3) := (Below.refl _ _).alloc (Nat.le_refl _) _
    have hrd := rdLL_three (w := w3.alloc o3) (B := w3.heap.size) (e := 24) (by rw [← ho3]; exact heap_alloc_new w3 o3) (HU13.out.read.below hal3 (Nat.le_refl _)) (HU3.out.read.below hal3 (Nat.le_refl _)) (HV3.out.below hal3 (Nat.le_refl _))
    refine (concat_any _ _ _ hrd (by simp) HS.out).mono ?_
    rintro e w4 ⟨u4, rfl, hu4, hb4⟩
    go_wp2_with fail
    go_ret
    rw [HFL.out]
    exact ⟨_, rfl, own_base hu4 fun k hk => Nat.le_trans hal.size (World.ownsRow.lt hu4 k hk).1, hal.trans (hb4.mono hal.size)⟩
  · have g1 : (1048576 : Int) < (l.length : Int) := by omega
    have e1 : frL l = [] := by unfold frL; rw [if_neg hm]
    rw [e1]
    clear h e1
    go_enter Tryz.func21, Tryz.ntmps21
    go_wp2
    go_ret
    exact ⟨_, rfl, OwnB.nil _ _ _, Below.refl _ _⟩

/-- What Get tells of a place: nothing, or what the record there holds, and where it ends. -/
def GetFr (w : World) (l : List UInt8) (at_ : Int) (e : Ending) (w' : World) : Prop :=
  ((∀ p : Nat, at_ = p → frOk l p = false) ∧ e = .returned (.tuple #[.slice none 0 0, .int .i64 0, .bool false]) ∧ Below w.heap.size w w') ∨
  (∃ p : Nat, at_ = p ∧ frOk l p = true ∧ ∃ u, e = .returned (.tuple #[u, .int .i64 ((p + 8 + frN l p : Nat) : Int), .bool true]) ∧ OwnB w' w.heap.size 5 u (frP l p) ∧ Below w.heap.size w w')

theorem frN_lt (l : List UInt8) (p : Nat) : frN l p < 4294967296 := by
  have h := valL_lt ((l.drop p).take 4)
  have h2 : ((l.drop p).take 4).length ≤ 4 := by rw [List.length_take]; omega
  have h3 : 256 ^ ((l.drop p).take 4).length ≤ 256 ^ 4 := Nat.pow_le_pow_right (by omega) h2
  unfold frN
  omega

theorem frOk_far {l : List UInt8} {p : Nat} (h : l.length < p + 8 + frN l p) : frOk l p = false := by
  unfold frOk
  rw [decide_eq_false (by omega)]
  rfl

theorem frOk_big {l : List UInt8} {p : Nat} (h : 1048576 < frN l p) : frOk l p = false := by
  unfold frOk
  rw [decide_eq_false (p := frN l p ≤ 1048576) (by omega)]
  simp

theorem frOk_sum {l : List UInt8} {p : Nat} (h : ¬ sumL (frP l p) = valL ((l.drop (p + 4)).take 4)) : frOk l p = false := by
  unfold frOk
  rw [decide_eq_false h]
  simp

theorem frOk_mk {l : List UInt8} {p : Nat} (h1 : p + 8 + frN l p ≤ l.length) (h2 : frN l p ≤ 1048576) (h3 : sumL (frP l p) = valL ((l.drop (p + 4)).take 4)) : frOk l p = true := by
  unfold frOk
  rw [decide_eq_true h1, decide_eq_true h2, decide_eq_true h3]
  rfl

theorem rdB_empty (w : World) (a : Option Addr) (c : Nat) (hc : c ≤ maxLen) (ha : a = none → c = 0) : RdB w (.slice a 0 c) [] := ⟨a, c, rfl, Nat.zero_le _, hc, rfl, .inl ⟨rfl, ha⟩⟩

set_option maxRecDepth 100000 in
set_option maxHeartbeats 2000000 in
theorem fget_any (w : World) (v : Value) (l : List UInt8) (at_ : Int) (h : RdB w v l) (hn : l.length < 1000000000000) (ha : -9223372036854775808 ≤ at_ ∧ at_ ≤ 9223372036854775807) :
    Calls Tryz.prog 66 #[v, .int .i64 at_] w (GetFr w l at_) := by
  obtain ⟨a, cap, rfl, hc1, hc2⟩ := h.form
  unfold maxLen at hc2
  have HV := Lib.hid h
  by_cases h1 : at_ < 0 ∨ (l.length : Int) - 4 < at_
  · have HG := Lib.hid (getFixed_out _ l at_ 4 (by omega) (by omega) w h)
    have HN : Hid (∀ p : Nat, at_ = p → frOk l p = false) := Lib.hid fun p hp => frOk_far (by omega)
    clear h1 h
    go_enter Tryz.func66, Tryz.ntmps66
    go_wp2_with (go_at_call 64; refine HG.out.mono ?_; rintro e w1 ⟨rfl, rfl⟩)
    go_ret3
    exact .inl ⟨HN.out, rfl, Below.refl _ _⟩
  obtain ⟨p, rfl⟩ : ∃ p : Nat, at_ = p := ⟨at_.toNat, by omega⟩
  have hp4 : p + 4 ≤ l.length := by omega
  have HG := Lib.hid (getFixed_yes _ l p 4 (by omega) hp4 w h)
  have hlt := frN_lt l p
  have hfn : valL ((l.drop p).take 4) = frN l p := rfl
  rw [hfn] at HG
  by_cases h2 : 1048576 < frN l p ∨ l.length < p + 8 + frN l p
  · have HN : Hid (frOk l p = false) := Lib.hid (h2.elim (fun h => frOk_big h) fun h => frOk_far h)
    have HN' : Hid (∀ q : Nat, ((p : Int) = (q : Int)) → frOk l q = false) := Lib.hid fun q hq => by
      have : q = p := by omega
      rw [this]; exact HN.out
    clear h hfn h1
    generalize frN l p = n at *
    have g : (1048576 : Int) < (n : Int) ∨ ((n : Int) ≤ 1048576 ∧ (l.length : Int) - (p : Int) - 8 < (n : Int)) := by omega
    clear h2
    rcases g with g | ⟨g1, g2⟩
    all_goals
      go_enter Tryz.func66, Tryz.ntmps66
      go_wp2_with (go_at_call 64; refine HG.out.mono ?_; rintro e w1 ⟨rfl, rfl⟩)
      go_ret3
      exact .inl ⟨HN'.out, rfl, Below.refl _ _⟩
  have h3 : frN l p ≤ 1048576 := by omega
  have h4 : p + 8 + frN l p ≤ l.length := by omega
  obtain ⟨b, off, cap', hv', _, _, _, _⟩ := h.cells (by intro e; subst e; simp at h4)
  cases hv'
  have hadd : (⟨b, off, none⟩ : Addr).add (p + 8) = ⟨b, off + (p + 8), none⟩ := by unfold Addr.add; split <;> simp_all
  have HG2 := Lib.hid (getFixed_yes _ l (p + 4) 4 (by omega) (by omega) w h)
  have HSUB := Lib.hid (sub_rd h (p + 8) (frN l p) (by omega) (by omega))
  rw [Option.map_some, hadd] at HSUB
  clear hadd
  have HP := Lib.hid (frP_length h4)
  have hck : ((valL ((l.drop (p + 4)).take 4) : Nat) : Int) < 4294967296 := by
    have := frN_lt l (p + 4)
    unfold frN at this
    omega
  have hpe : ((p + 4 : Nat) : Int) = (p : Int) + 4 := by omega
  rw [hpe] at HG2
  rw [show ((4 : Nat) : Int) = 4 from rfl] at HG HG2
  have hn1 : ((p : Int) + 8 + (frN l p : Int)).toNat = p + 8 + frN l p := by omega
  have hn2 : p + 8 + frN l p - (p + 8) = frN l p := by omega
  have hret : ((p : Int) + 8 + (frN l p : Int)) = ((p + 8 + frN l p : Nat) : Int) := by omega
  have HRET := Lib.hid hret
  have hps : ((p : Int) + 8).toNat = p + 8 := by omega
  have HOK : Hid (sumL (frP l p) = valL ((l.drop (p + 4)).take 4) → frOk l p = true) := Lib.hid fun h => frOk_mk h4 h3 h
  have HNO : Hid (¬ sumL (frP l p) = valL ((l.drop (p + 4)).take 4) → frOk l p = false) := Lib.hid fun h => frOk_sum h
  have hX : (l.drop (p + 8)).take (frN l p) = frP l p := rfl
  rw [hX] at HSUB
  clear h hfn h1 h2 hpe hret hX
  generalize hfe : frP l p = f at *
  generalize valL ((l.drop (p + 4)).take 4) = ck at *
  generalize hne : frN l p = n at *
  have HFE := Lib.hid hfe
  have HNE := Lib.hid hne
  clear hfe hne
  have g1 : ¬ (1048576 : Int) < (n : Int) := by omega
  have g2 : ¬ (l.length : Int) - (p : Int) - 8 < (n : Int) := by omega
  obtain ⟨sv, hsv⟩ : ∃ sv, sv = (if cap = p + 8 then Value.slice (some ⟨b, off, none⟩) n 0 else .slice (some ⟨b, off + (p + 8), none⟩) n (cap - (p + 8))) := ⟨_, rfl⟩
  have HR : Hid (RdB w sv f) := Lib.hid (by
    rw [hsv]
    split
    · rename_i hcp
      have hn0 : n = 0 := by omega
      have hf0 : f = [] := List.eq_nil_of_length_eq_zero (by rw [HP.out, hn0])
      rw [hf0, hn0]
      exact rdB_empty _ _ _ (Nat.zero_le _) fun h => by cases h
    · unfold RdB
      rw [HP.out]
      exact HSUB.out)
  have hsum : (sumL f : Int) < 4294967296 := by have := sumL_lt f; omega
  clear hsum hck hlt
  by_cases hcp : cap = p + 8
  · rw [if_pos hcp] at hsv
    subst hsv
    subst hcp
    by_cases hs : sumL f = ck
    · have HOK' := Lib.hid (HOK.out hs)
      have HCL := Lib.hid (bclone_any w _ f HR.out (by have := HP.out; omega))
      have HSM := Lib.hid (sum_any _ f w HR.out)
      have hsi : ((sumL f : Int) != (ck : Int)) = false := by rw [hs]; simp
      clear hs
      go_enter Tryz.func66, Tryz.ntmps66
      go_wp2_with (first | (go_at_call 64; first | ((with_reducible refine HG.out.mono ?_); rintro e w1 ⟨rfl, rfl⟩) | ((with_reducible refine HG2.out.mono ?_); rintro e w1 ⟨rfl, rfl⟩)) | (go_at_call 46; (with_reducible refine HSM.out.mono ?_); rintro e w1 ⟨rfl, rfl⟩) | (go_at_call 91; (with_reducible refine HCL.out.mono ?_); rintro e w1 ⟨u, rfl, hu, hb⟩; have HU := Lib.hid hu; have HB := Lib.hid hb; clear hu hb))
      go_ret3
      refine .inr ⟨p, rfl, HOK'.out, u, ?_, ?_, HB.out⟩
      · rw [HNE.out, ← HRET.out]
        rfl
      · rw [HFE.out]
        exact HU.out
    · have HNO' : Hid (∀ q : Nat, ((p : Int) = (q : Int)) → frOk l q = false) := Lib.hid fun q hq => by
        have : q = p := by omega
        rw [this]; exact HNO.out hs
      have HSM := Lib.hid (sum_any _ f w HR.out)
      have hsb : ((sumL f : Int) != (ck : Int)) = true := by simp; omega
      clear hs
      go_enter Tryz.func66, Tryz.ntmps66
      go_wp2_with (first | (go_at_call 64; first | ((with_reducible refine HG.out.mono ?_); rintro e w1 ⟨rfl, rfl⟩) | ((with_reducible refine HG2.out.mono ?_); rintro e w1 ⟨rfl, rfl⟩)) | (go_at_call 46; (with_reducible refine HSM.out.mono ?_); rintro e w1 ⟨rfl, rfl⟩))
      go_ret3
      exact .inl ⟨HNO'.out, rfl, Below.refl _ _⟩
  · rw [if_neg hcp] at hsv
    subst hsv
    by_cases hs : sumL f = ck
    · have HOK' := Lib.hid (HOK.out hs)
      have HCL := Lib.hid (bclone_any w _ f HR.out (by have := HP.out; omega))
      have HSM := Lib.hid (sum_any _ f w HR.out)
      have hsi : ((sumL f : Int) != (ck : Int)) = false := by rw [hs]; simp
      clear hs
      go_enter Tryz.func66, Tryz.ntmps66
      go_wp2_with (first | (go_at_call 64; first | ((with_reducible refine HG.out.mono ?_); rintro e w1 ⟨rfl, rfl⟩) | ((with_reducible refine HG2.out.mono ?_); rintro e w1 ⟨rfl, rfl⟩)) | (go_at_call 46; (with_reducible refine HSM.out.mono ?_); rintro e w1 ⟨rfl, rfl⟩) | (go_at_call 91; (with_reducible refine HCL.out.mono ?_); rintro e w1 ⟨u, rfl, hu, hb⟩; have HU := Lib.hid hu; have HB := Lib.hid hb; clear hu hb))
      go_ret3
      refine .inr ⟨p, rfl, HOK'.out, u, ?_, ?_, HB.out⟩
      · rw [HNE.out, ← HRET.out]
        rfl
      · rw [HFE.out]
        exact HU.out
    · have HNO' : Hid (∀ q : Nat, ((p : Int) = (q : Int)) → frOk l q = false) := Lib.hid fun q hq => by
        have : q = p := by omega
        rw [this]; exact HNO.out hs
      have HSM := Lib.hid (sum_any _ f w HR.out)
      have hsb : ((sumL f : Int) != (ck : Int)) = true := by simp; omega
      clear hs
      go_enter Tryz.func66, Tryz.ntmps66
      go_wp2_with (first | (go_at_call 64; first | ((with_reducible refine HG.out.mono ?_); rintro e w1 ⟨rfl, rfl⟩) | ((with_reducible refine HG2.out.mono ?_); rintro e w1 ⟨rfl, rfl⟩)) | (go_at_call 46; (with_reducible refine HSM.out.mono ?_); rintro e w1 ⟨rfl, rfl⟩))
      go_ret3
      exact .inl ⟨HNO'.out, rfl, Below.refl _ _⟩
end Go.Proofs.YteeikmpfgbfeoaaGreat
