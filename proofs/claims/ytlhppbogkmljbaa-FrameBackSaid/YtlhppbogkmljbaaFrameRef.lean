/-
  What the document's Frame and Unframe do.
-/
import Derived.Test.YtlhppbogkmljbaaFrame
namespace Go.Proofs.Ytlhppbogkmljbaa
open Go.RowKit

set_option maxRecDepth 100000 in
set_option maxHeartbeats 1000000 in
theorem rframe_any (w : World) (v : Value) (l : List UInt8) (h : RdB w v l) (hn : l.length < 1000000000000) :
    Calls Try.prog 12 #[v] w (RetB w.heap.size w (frL l)) := by
  obtain ⟨a, cap, rfl, hc1, hc2⟩ := h.form
  unfold maxLen at hc2
  by_cases hm : l.length ≤ 1048576
  · have g1 : ¬ (1048576 : Int) < (l.length : Int) := by omega
    have e1 : frL l = fixL (l.length : Int) 4 ++ fixL (sumL l : Int) 4 ++ l := by
      unfold frL
      rw [if_pos hm]
      rfl
    have HV := Lib.hid h
    rw [e1]
    clear h e1
    obtain ⟨f1, hf1⟩ : ∃ f1, f1 = fixL (l.length : Int) 4 := ⟨_, rfl⟩
    obtain ⟨f2, hf2⟩ : ∃ f2, f2 = fixL (sumL l : Int) 4 := ⟨_, rfl⟩
    have H1 := Lib.hid (fun w => (rfixed_yes (l.length : Int) 4 (by omega) w : Calls _ _ _ _ _))
    have H2 := Lib.hid (fun w => (rfixed_yes (sumL l : Int) 4 (by omega) w : Calls _ _ _ _ _))
    have hl1 : f1.length = 4 := by rw [hf1, fixL_length]
    have hl2 : f2.length = 4 := by rw [hf2, fixL_length]
    rw [← hf1] at H1
    rw [← hf2] at H2
    rw [← hf1, ← hf2]
    have HL1 := Lib.hid hl1
    have HL2 := Lib.hid hl2
    clear hf1 hf2 hl1 hl2
    go_enter Try.func12, Try.ntmps12
    go_wp2_with fail
    refine (H1.out _).mono ?_
    rintro e w1 ⟨u1, rfl, hu1, hb1⟩
    have HV1 := Lib.hid (HV.out.below hb1 (Nat.le_refl _))
    have HU1 := Lib.hid hu1
    have HB1 := Lib.hid hb1
    clear hu1 hb1
    go_wp2_with fail
    refine (rsum_any _ l _ HV1.out).mono ?_
    rintro e w2 ⟨rfl, rfl⟩
    go_wp2_with fail
    refine (H2.out _).mono ?_
    rintro e w3 ⟨u3, rfl, hu3, hb3⟩
    have HV3 := Lib.hid (HV1.out.below hb3 (Nat.le_refl _))
    have HU13 := Lib.hid (HU1.out.below hb3 (Nat.le_refl _))
    have HU3 := Lib.hid hu3
    have HB3 := Lib.hid (HB1.out.trans (hb3.mono HB1.out.size))
    have HS3 := Lib.hid HB1.out.size
    clear hu3 hb3
    go_wp2_with (at_builtin; refine wpList_append_bytes rfl (.tmp 9) (.tmp 12) 22 rfl w.heap.size 5 Try.underlying22 info_u8 _ _ f1 f2 rfl rfl HU13.out HU3.out.read HB3.out.size (by have := HL1.out; have := HL2.out; omega) ?_)
    intro v4 w4 ho4 hk4
    have HU4 := Lib.hid ho4
    have HB4 := Lib.hid (hk4 w.heap.size w (Nat.le_refl _) HB3.out)
    have HV4 := Lib.hid (HV.out.below HB4.out (Nat.le_refl _))
    have HL4 : Hid ((f1 ++ f2).length = 8) := Lib.hid (by rw [List.length_append, HL1.out, HL2.out])
    clear ho4 hk4
    go_wp2_with (at_builtin; refine wpList_append_bytes rfl (.tmp 14) (.tmp 15) 22 rfl w.heap.size 5 Try.underlying22 info_u8 _ _ (f1 ++ f2) l rfl rfl HU4.out HV4.out HB4.out.size (by have := HL4.out; omega) ?_)
    intro v5 w5 ho5 hk5
    have HU5 := Lib.hid ho5
    have HB5 := Lib.hid (hk5 w.heap.size w (Nat.le_refl _) HB4.out)
    clear ho5 hk5
    go_wp2
    go_ret
    exact ⟨_, rfl, by rw [List.append_assoc]; exact HU5.out, HB5.out⟩
  · have g1 : (1048576 : Int) < (l.length : Int) := by omega
    have e1 : frL l = [] := by unfold frL; rw [if_neg hm]
    rw [e1]
    clear h e1
    go_enter Try.func12, Try.ntmps12
    go_wp2
    go_ret
    exact ⟨_, rfl, OwnB.nil _ _ _, Below.refl _ _⟩

set_option maxRecDepth 100000 in
set_option maxHeartbeats 2000000 in
theorem runframe_any (w : World) (v : Value) (l : List UInt8) (at_ : Int) (h : RdB w v l) (hn : l.length < 1000000000000) (ha : -9223372036854775808 ≤ at_ ∧ at_ ≤ 9223372036854775807) :
    Calls Try.prog 8 #[v, .int .i64 at_] w (GetFr w l at_) := by
  obtain ⟨a, cap, rfl, hc1, hc2⟩ := h.form
  unfold maxLen at hc2
  have HV := Lib.hid h
  by_cases h1 : at_ < 0 ∨ (l.length : Int) - 4 < at_
  · have HG := Lib.hid (rgetFixed_out _ l at_ 4 (by omega) (by omega) w h)
    have HN : Hid (∀ p : Nat, at_ = p → frOk l p = false) := Lib.hid fun p hp => frOk_far (by omega)
    obtain ⟨a4, ha4⟩ : ∃ a4, IntKind.i64.wrap (at_ + 4) = a4 := ⟨_, rfl⟩
    by_cases h5 : a4 < 0 ∨ (l.length : Int) - 4 < a4
    · have HG2 := Lib.hid (rgetFixed_out _ l a4 4 (by omega) (by omega) w h)
      clear h1 h h5
      go_enter Try.func8, Try.ntmps8
      go_wp2_with fail
      refine HG.out.mono ?_
      rintro e w1 ⟨rfl, rfl⟩
      go_wp2_with fail
      (with_reducible refine HG2.out.mono ?_)
      rintro e w1 ⟨rfl, rfl⟩
      go_wp2
      go_ret3
      exact .inl ⟨HN.out, rfl, Below.refl _ _⟩
    · obtain ⟨q, hq⟩ : ∃ q : Nat, a4 = q := ⟨a4.toNat, by omega⟩
      have HG2 := Lib.hid (rgetFixed_yes _ l q 4 (by omega) (by omega) w h)
      rw [← hq, show ((4 : Nat) : Int) = 4 from rfl] at HG2
      generalize valL ((l.drop q).take 4) = ck at *
      clear h1 h h5 hq
      go_enter Try.func8, Try.ntmps8
      go_wp2_with fail
      refine HG.out.mono ?_
      rintro e w1 ⟨rfl, rfl⟩
      go_wp2_with fail
      (with_reducible refine HG2.out.mono ?_)
      rintro e w1 ⟨rfl, rfl⟩
      go_wp2
      go_ret3
      exact .inl ⟨HN.out, rfl, Below.refl _ _⟩
  obtain ⟨p, rfl⟩ : ∃ p : Nat, at_ = p := ⟨at_.toNat, by omega⟩
  have hp4 : p + 4 ≤ l.length := by omega
  have HG := Lib.hid (rgetFixed_yes _ l p 4 (by omega) hp4 w h)
  have hlt := frN_lt l p
  have hfn : valL ((l.drop p).take 4) = frN l p := rfl
  rw [hfn] at HG
  have hpe : ((p + 4 : Nat) : Int) = (p : Int) + 4 := by omega
  by_cases h6 : l.length < p + 8
  · have HG2 := Lib.hid (rgetFixed_out _ l ((p : Int) + 4) 4 (by omega) (by omega) w h)
    have HN' : Hid (∀ q : Nat, ((p : Int) = (q : Int)) → frOk l q = false) := Lib.hid fun q hq => frOk_far (by omega)
    rw [show ((4 : Nat) : Int) = 4 from rfl] at HG
    clear h hfn h1 hpe hlt
    generalize frN l p = n at *
    go_enter Try.func8, Try.ntmps8
    go_wp2_with (first | (go_at_call 17; first | ((with_reducible refine HG.out.mono ?_); rintro e w1 ⟨rfl, rfl⟩) | ((with_reducible refine HG2.out.mono ?_); rintro e w1 ⟨rfl, rfl⟩)))
    go_ret3
    exact .inl ⟨HN'.out, rfl, Below.refl _ _⟩
  by_cases h2 : 1048576 < frN l p ∨ l.length < p + 8 + frN l p
  · have HN : Hid (frOk l p = false) := Lib.hid (h2.elim (fun h => frOk_big h) fun h => frOk_far h)
    have HN' : Hid (∀ q : Nat, ((p : Int) = (q : Int)) → frOk l q = false) := Lib.hid fun q hq => by
      have : q = p := by omega
      rw [this]; exact HN.out
    have HG2 := Lib.hid (rgetFixed_yes _ l (p + 4) 4 (by omega) (by omega) w h)
    rw [hpe] at HG2
    rw [show ((4 : Nat) : Int) = 4 from rfl] at HG HG2
    clear h hfn h1 hpe hlt
    generalize valL ((l.drop (p + 4)).take 4) = ck at *
    generalize frN l p = n at *
    have g : (1048576 : Int) < (n : Int) ∨ ((n : Int) ≤ 1048576 ∧ (l.length : Int) - (p : Int) - 8 < (n : Int)) := by omega
    clear h2
    rcases g with g | ⟨g1, g2⟩
    all_goals
      go_enter Try.func8, Try.ntmps8
      go_wp2_with (first | (go_at_call 17; first | ((with_reducible refine HG.out.mono ?_); rintro e w1 ⟨rfl, rfl⟩) | ((with_reducible refine HG2.out.mono ?_); rintro e w1 ⟨rfl, rfl⟩)))
      go_ret3
      exact .inl ⟨HN'.out, rfl, Below.refl _ _⟩
  have h3 : frN l p ≤ 1048576 := by omega
  have h4 : p + 8 + frN l p ≤ l.length := by omega
  obtain ⟨b, off, cap', hv', _, _, _, _⟩ := h.cells (by intro e; subst e; simp at h4)
  cases hv'
  have hadd : (⟨b, off, none⟩ : Addr).add (p + 8) = ⟨b, off + (p + 8), none⟩ := by unfold Addr.add; split <;> simp_all
  have HG2 := Lib.hid (rgetFixed_yes _ l (p + 4) 4 (by omega) (by omega) w h)
  have HSUB := Lib.hid (sub_rd h (p + 8) (frN l p) (by omega) (by omega))
  rw [Option.map_some, hadd] at HSUB
  clear hadd
  have HP := Lib.hid (frP_length h4)
  have hck : ((valL ((l.drop (p + 4)).take 4) : Nat) : Int) < 4294967296 := by
    have := frN_lt l (p + 4)
    unfold frN at this
    omega
  rw [hpe] at HG2
  rw [show ((4 : Nat) : Int) = 4 from rfl] at HG HG2
  have hn1 : ((p : Int) + 8 + (frN l p : Int)).toNat = p + 8 + frN l p := by omega
  have hn2 : p + 8 + frN l p - (p + 8) = frN l p := by omega
  have hret : ((p : Int) + 8 + (frN l p : Int)) = ((p + 8 + frN l p : Nat) : Int) := by omega
  have HRET := Lib.hid hret
  have hps : ((p : Int) + 8).toNat = p + 8 := by omega
  have HOK : Hid (sumL (frP l p) = valL ((l.drop (p + 4)).take 4) → frOk l p = true) := Lib.hid fun h => frOk_mk h4 h3 h
  have HNO : Hid (¬ sumL (frP l p) = valL ((l.drop (p + 4)).take 4) → frOk l p = false) := Lib.hid fun h => frOk_sum h
  have hX : (l.drop (p + 8)).take (frN l p) = frP l p := rfl
  rw [hX] at HSUB
  clear h hfn h1 h2 hpe hret hX
  generalize hfe : frP l p = f at *
  generalize valL ((l.drop (p + 4)).take 4) = ck at *
  generalize hne : frN l p = n at *
  have HFE := Lib.hid hfe
  have HNE := Lib.hid hne
  clear hfe hne
  have g1 : ¬ (1048576 : Int) < (n : Int) := by omega
  have g2 : ¬ (l.length : Int) - (p : Int) - 8 < (n : Int) := by omega
  obtain ⟨sv, hsv⟩ : ∃ sv, sv = (if cap = p + 8 then Value.slice (some ⟨b, off, none⟩) n 0 else .slice (some ⟨b, off + (p + 8), none⟩) n (cap - (p + 8))) := ⟨_, rfl⟩
  have HAL : Hid (Below w.heap.size w (w.alloc (.cells #[] 5))) := Lib.hid ((Below.refl _ _).alloc (Nat.le_refl _) _)
  have HR : Hid (RdB (w.alloc (.cells #[] 5)) sv f) := Lib.hid (RdB.below (w := w) (by
    rw [hsv]
    split
    · rename_i hcp
      have hn0 : n = 0 := by omega
      have hf0 : f = [] := List.eq_nil_of_length_eq_zero (by rw [HP.out, hn0])
      rw [hf0, hn0]
      exact rdB_empty _ _ _ (Nat.zero_le _) fun h => by cases h
    · unfold RdB
      rw [HP.out]
      exact HSUB.out) HAL.out (Nat.le_refl _))
  have hsum : (sumL f : Int) < 4294967296 := by have := sumL_lt f; omega
  clear hsum hck hlt
  by_cases hcp : cap = p + 8
  · rw [if_pos hcp] at hsv
    subst hsv
    subst hcp
    by_cases hs : sumL f = ck
    · have HOK' := Lib.hid (HOK.out hs)
      have hsi : ((sumL f : Int) != (ck : Int)) = false := by rw [hs]; simp
      clear hs
      go_enter Try.func8, Try.ntmps8
      go_wp2_with (first | (go_at_call 17; first | ((with_reducible refine HG.out.mono ?_); rintro e w1 ⟨rfl, rfl⟩) | ((with_reducible refine HG2.out.mono ?_); rintro e w1 ⟨rfl, rfl⟩)) | (at_builtin; refine wpList_append_bytes rfl (.tmp 44) (.tmp 52) 22 rfl w.heap.size 5 Try.underlying22 info_u8 _ _ [] f rfl rfl (OwnB.made w _ _ (Nat.le_refl _)) HR.out HAL.out.size (by have := HP.out; simp; omega) ?_))
      intro u u1 ho1 hk1
      have HU := Lib.hid (show OwnB u1 w.heap.size 5 u f from ho1)
      have HB := Lib.hid (hk1 w.heap.size w (Nat.le_refl _) HAL.out)
      have HSM := Lib.hid (rsum_any u f u1 HU.out.read)
      clear ho1 hk1
      go_wp2_with (go_at_call 18; (with_reducible refine HSM.out.mono ?_); rintro e w2 ⟨rfl, rfl⟩)
      go_ret3
      refine .inr ⟨p, rfl, HOK'.out, u, ?_, ?_, HB.out⟩
      · rw [HNE.out, ← HRET.out]
        rfl
      · rw [HFE.out]
        exact HU.out
    · have HNO' : Hid (∀ q : Nat, ((p : Int) = (q : Int)) → frOk l q = false) := Lib.hid fun q hq => by
        have : q = p := by omega
        rw [this]; exact HNO.out hs
      have hsi : ((sumL f : Int) != (ck : Int)) = true := by simp; omega
      clear hs
      go_enter Try.func8, Try.ntmps8
      go_wp2_with (first | (go_at_call 17; first | ((with_reducible refine HG.out.mono ?_); rintro e w1 ⟨rfl, rfl⟩) | ((with_reducible refine HG2.out.mono ?_); rintro e w1 ⟨rfl, rfl⟩)) | (at_builtin; refine wpList_append_bytes rfl (.tmp 44) (.tmp 52) 22 rfl w.heap.size 5 Try.underlying22 info_u8 _ _ [] f rfl rfl (OwnB.made w _ _ (Nat.le_refl _)) HR.out HAL.out.size (by have := HP.out; simp; omega) ?_))
      intro u u1 ho1 hk1
      have HU := Lib.hid (show OwnB u1 w.heap.size 5 u f from ho1)
      have HB := Lib.hid (hk1 w.heap.size w (Nat.le_refl _) HAL.out)
      have HSM := Lib.hid (rsum_any u f u1 HU.out.read)
      clear ho1 hk1
      go_wp2_with (go_at_call 18; (with_reducible refine HSM.out.mono ?_); rintro e w2 ⟨rfl, rfl⟩)
      go_ret3
      exact .inl ⟨HNO'.out, rfl, HB.out⟩
  · rw [if_neg hcp] at hsv
    subst hsv
    by_cases hs : sumL f = ck
    · have HOK' := Lib.hid (HOK.out hs)
      have hsi : ((sumL f : Int) != (ck : Int)) = false := by rw [hs]; simp
      clear hs
      go_enter Try.func8, Try.ntmps8
      go_wp2_with (first | (go_at_call 17; first | ((with_reducible refine HG.out.mono ?_); rintro e w1 ⟨rfl, rfl⟩) | ((with_reducible refine HG2.out.mono ?_); rintro e w1 ⟨rfl, rfl⟩)) | (at_builtin; refine wpList_append_bytes rfl (.tmp 44) (.tmp 52) 22 rfl w.heap.size 5 Try.underlying22 info_u8 _ _ [] f rfl rfl (OwnB.made w _ _ (Nat.le_refl _)) HR.out HAL.out.size (by have := HP.out; simp; omega) ?_))
      intro u u1 ho1 hk1
      have HU := Lib.hid (show OwnB u1 w.heap.size 5 u f from ho1)
      have HB := Lib.hid (hk1 w.heap.size w (Nat.le_refl _) HAL.out)
      have HSM := Lib.hid (rsum_any u f u1 HU.out.read)
      clear ho1 hk1
      go_wp2_with (go_at_call 18; (with_reducible refine HSM.out.mono ?_); rintro e w2 ⟨rfl, rfl⟩)
      go_ret3
      refine .inr ⟨p, rfl, HOK'.out, u, ?_, ?_, HB.out⟩
      · rw [HNE.out, ← HRET.out]
        rfl
      · rw [HFE.out]
        exact HU.out
    · have HNO' : Hid (∀ q : Nat, ((p : Int) = (q : Int)) → frOk l q = false) := Lib.hid fun q hq => by
        have : q = p := by omega
        rw [this]; exact HNO.out hs
      have hsi : ((sumL f : Int) != (ck : Int)) = true := by simp; omega
      clear hs
      go_enter Try.func8, Try.ntmps8
      go_wp2_with (first | (go_at_call 17; first | ((with_reducible refine HG.out.mono ?_); rintro e w1 ⟨rfl, rfl⟩) | ((with_reducible refine HG2.out.mono ?_); rintro e w1 ⟨rfl, rfl⟩)) | (at_builtin; refine wpList_append_bytes rfl (.tmp 44) (.tmp 52) 22 rfl w.heap.size 5 Try.underlying22 info_u8 _ _ [] f rfl rfl (OwnB.made w _ _ (Nat.le_refl _)) HR.out HAL.out.size (by have := HP.out; simp; omega) ?_))
      intro u u1 ho1 hk1
      have HU := Lib.hid (show OwnB u1 w.heap.size 5 u f from ho1)
      have HB := Lib.hid (hk1 w.heap.size w (Nat.le_refl _) HAL.out)
      have HSM := Lib.hid (rsum_any u f u1 HU.out.read)
      clear ho1 hk1
      go_wp2_with (go_at_call 18; (with_reducible refine HSM.out.mono ?_); rintro e w2 ⟨rfl, rfl⟩)
      go_ret3
      exact .inl ⟨HNO'.out, rfl, HB.out⟩
end Go.Proofs.Ytlhppbogkmljbaa
