import Derived.Test.YteeikmpfgbfeoaaGreatFrame
import Derived.Test.YteeikmpfgbfeoaaGreatRefNum
import Derived.Test.YteeikmpfgbfeoaaGreatKeyMay
import Derived.Test.YteeikmpfgbfeoaaGreatRegion
import Derived.Test.YteeikmpfgbfeoaaGreatTabGet
import Derived.Test.YteeikmpfgbfeoaaGreatOwnEnt
import Derived.Test.YteeikmpfgbfeoaaGreatTabBox
import Derived.Test.YteeikmpfgbfeoaaGreatBlkRPut
import Derived.Deep.Cut

/-
  What the document's Frame and Unframe do.
-/
namespace Go.Proofs.YteeikmpfgbfeoaaGreat
open Go.RowKit

set_option maxRecDepth 100000 in
set_option maxHeartbeats 1000000 in
theorem rframe_any (w : World) (v : Value) (l : List UInt8) (h : RdB w v l) (hn : l.length < 1000000000000) :
    Calls Tryz.prog 57 #[v] w (RetB w.heap.size w (frL l)) := by
  obtain ⟨a, cap, rfl, hc1, hc2⟩ := h.form
  unfold maxLen at hc2
  by_cases hm : l.length ≤ 1048576
  · have g1 : ¬ (1048576 : Int) < (l.length : Int) := by omega
    have e1 : frL l = fixL (l.length : Int) 4 ++ fixL (sumL l : Int) 4 ++ l := by
      unfold frL
      rw [if_pos hm]
      rfl
    have HV := Lib.hid h
    rw [e1]
    clear h e1
    obtain ⟨f1, hf1⟩ : ∃ f1, f1 = fixL (l.length : Int) 4 := ⟨_, rfl⟩
    obtain ⟨f2, hf2⟩ : ∃ f2, f2 = fixL (sumL l : Int) 4 := ⟨_, rfl⟩
    have H1 := Lib.hid (fun w => (rfixed_yes (l.length : Int) 4 (by omega) w : Calls _ _ _ _ _))
    have H2 := Lib.hid (fun w => (rfixed_yes (sumL l : Int) 4 (by omega) w : Calls _ _ _ _ _))
    have hl1 : f1.length = 4 := by rw [hf1, fixL_length]
    have hl2 : f2.length = 4 := by rw [hf2, fixL_length]
    rw [← hf1] at H1
    rw [← hf2] at H2
    rw [← hf1, ← hf2]
    have HL1 := Lib.hid hl1
    have HL2 := Lib.hid hl2
    clear hf1 hf2 hl1 hl2
    go_enter Tryz.func57, Tryz.ntmps57
    go_wp2_with fail
    refine (H1.out _).mono ?_
    rintro e w1 ⟨u1, rfl, hu1, hb1⟩
    have HV1 := Lib.hid (HV.out.below hb1 (Nat.le_refl _))
    have HU1 := Lib.hid hu1
    have HB1 := Lib.hid hb1
    clear hu1 hb1
    go_wp2_with fail
    refine (rsum_any _ l _ HV1.out).mono ?_
    rintro e w2 ⟨rfl, rfl⟩
    go_wp2_with fail
    refine (H2.out _).mono ?_
    rintro e w3 ⟨u3, rfl, hu3, hb3⟩
    have HV3 := Lib.hid (HV1.out.below hb3 (Nat.le_refl _))
    have HU13 := Lib.hid (HU1.out.below hb3 (Nat.le_refl _))
    have HU3 := Lib.hid hu3
    have HB3 := Lib.hid (HB1.out.trans (hb3.mono HB1.out.size))
    have HS3 := Lib.hid HB1.out.size
    clear hu3 hb3
    go_wp2_with (at_builtin; refine wpList_append_bytes rfl (.tmp 9) (.tmp 12) 24 rfl w.heap.size 5 Tryz.underlying24 info_u8 _ _ f1 f2 rfl rfl HU13.out HU3.out.read HB3.out.size (by have := HL1.out; have := HL2.out; omega) ?_)
    intro v4 w4 ho4 hk4
    have HU4 := Lib.hid ho4
    have HB4 := Lib.hid (hk4 w.heap.size w (Nat.le_refl _) HB3.out)
    have HV4 := Lib.hid (HV.out.below HB4.out (Nat.le_refl _))
    have HL4 : Hid ((f1 ++ f2).length = 8) := Lib.hid (by rw [List.length_append, HL1.out, HL2.out])
    clear ho4 hk4
    go_wp2_with (at_builtin; refine wpList_append_bytes rfl (.tmp 14) (.tmp 15) 24 rfl w.heap.size 5 Tryz.underlying24 info_u8 _ _ (f1 ++ f2) l rfl rfl HU4.out HV4.out HB4.out.size (by have := HL4.out; omega) ?_)
    intro v5 w5 ho5 hk5
    have HU5 := Lib.hid ho5
    have HB5 := Lib.hid (hk5 w.heap.size w (Nat.le_refl _) HB4.out)
    clear ho5 hk5
    go_wp2
    go_ret
    exact ⟨_, rfl, by rw [List.append_assoc]; exact HU5.out, HB5.out⟩
  · have g1 : (1048576 : Int) < (l.length : Int) := by omega
    have e1 : frL l = [] := by unfold frL; rw [if_neg hm]
    rw [e1]
    clear h e1
    go_enter Tryz.func57, Tryz.ntmps57
    go_wp2
    go_ret
    exact ⟨_, rfl, OwnB.nil _ _ _, Below.refl _ _⟩

set_option maxRecDepth 100000 in
set_option maxHeartbeats 2000000 in
theorem runframe_any (w : World) (v : Value) (l : List UInt8) (at_ : Int) (h : RdB w v l) (hn : l.length < 1000000000000) (ha : -9223372036854775808 ≤ at_ ∧ at_ ≤ 9223372036854775807) :
    Calls Tryz.prog 32 #[v, .int .i64 at_] w (GetFr w l at_) := by
  obtain ⟨a, cap, rfl, hc1, hc2⟩ := h.form
  unfold maxLen at hc2
  have HV := Lib.hid h
  by_cases h1 : at_ < 0 ∨ (l.length : Int) - 4 < at_
  · have HG := Lib.hid (rgetFixed_out _ l at_ 4 (by omega) (by omega) w h)
    have HN : Hid (∀ p : Nat, at_ = p → frOk l p = false) := Lib.hid fun p hp => frOk_far (by omega)
    obtain ⟨a4, ha4⟩ : ∃ a4, IntKind.i64.wrap (at_ + 4) = a4 := ⟨_, rfl⟩
    by_cases h5 : a4 < 0 ∨ (l.length : Int) - 4 < a4
    · have HG2 := Lib.hid (rgetFixed_out _ l a4 4 (by omega) (by omega) w h)
      clear h1 h h5
      go_enter Tryz.func32, Tryz.ntmps32
      go_wp2_with fail
      refine HG.out.mono ?_
      rintro e w1 ⟨rfl, rfl⟩
      go_wp2_with fail
      (with_reducible refine HG2.out.mono ?_)
      rintro e w1 ⟨rfl, rfl⟩
      go_wp2
      go_ret3
      exact .inl ⟨HN.out, rfl, Below.refl _ _⟩
    · obtain ⟨q, hq⟩ : ∃ q : Nat, a4 = q := ⟨a4.toNat, by omega⟩
      have HG2 := Lib.hid (rgetFixed_yes _ l q 4 (by omega) (by omega) w h)
      rw [← hq, show ((4 : Nat) : Int) = 4 from rfl] at HG2
      generalize valL ((l.drop q).take 4) = ck at *
      clear h1 h h5 hq
      go_enter Tryz.func32, Tryz.ntmps32
      go_wp2_with fail
      refine HG.out.mono ?_
      rintro e w1 ⟨rfl, rfl⟩
      go_wp2_with fail
      (with_reducible refine HG2.out.mono ?_)
      rintro e w1 ⟨rfl, rfl⟩
      go_wp2
      go_ret3
      exact .inl ⟨HN.out, rfl, Below.refl _ _⟩
  obtain ⟨p, rfl⟩ : ∃ p : Nat, at_ = p := ⟨at_.toNat, by omega⟩
  have hp4 : p + 4 ≤ l.length := by omega
  have HG := Lib.hid (rgetFixed_yes _ l p 4 (by omega) hp4 w h)
  have hlt := frN_lt l p
  have hfn : valL ((l.drop p).take 4) = frN l p := rfl
  rw [hfn] at HG
  have hpe : ((p + 4 : Nat) : Int) = (p : Int) + 4 := by omega
  by_cases h6 : l.length < p + 8
  · have HG2 := Lib.hid (rgetFixed_out _ l ((p : Int) + 4) 4 (by omega) (by omega) w h)
    have HN' : Hid (∀ q : Nat, ((p : Int) = (q : Int)) → frOk l q = false) := Lib.hid fun q hq => frOk_far (by omega)
    rw [show ((4 : Nat) : Int) = 4 from rfl] at HG
    clear h hfn h1 hpe hlt
    generalize frN l p = n at *
    go_enter Tryz.func32, Tryz.ntmps32
    go_wp2_with (first | (go_at_call 31; first | ((with_reducible refine HG.out.mono ?_); rintro e w1 ⟨rfl, rfl⟩) | ((with_reducible refine HG2.out.mono ?_); rintro e w1 ⟨rfl, rfl⟩)))
    go_ret3
    exact .inl ⟨HN'.out, rfl, Below.refl _ _⟩
  by_cases h2 : 1048576 < frN l p ∨ l.length < p + 8 + frN l p
  · have HN : Hid (frOk l p = false) := Lib.hid (h2.elim (fun h => frOk_big h) fun h => frOk_far h)
    have HN' : Hid (∀ q : Nat, ((p : Int) = (q : Int)) → frOk l q = false) := Lib.hid fun q hq => by
      have : q = p := by omega
      rw [this]; exact HN.out
    have HG2 := Lib.hid (rgetFixed_yes _ l (p + 4) 4 (by omega) (by omega) w h)
    rw [hpe] at HG2
    rw [show ((4 : Nat) : Int) = 4 from rfl] at HG HG2
    clear h hfn h1 hpe hlt
    generalize valL ((l.drop (p + 4)).take 4) = ck at *
    generalize frN l p = n at *
    have g : (1048576 : Int) < (n : Int) ∨ ((n : Int) ≤ 1048576 ∧ (l.length : Int) - (p : Int) - 8 < (n : Int)) := by omega
    clear h2
    rcases g with g | ⟨g1, g2⟩
    all_goals
      go_enter Tryz.func32, Tryz.ntmps32
      go_wp2_with (first | (go_at_call 31; first | ((with_reducible refine HG.out.mono ?_); rintro e w1 ⟨rfl, rfl⟩) | ((with_reducible refine HG2.out.mono ?_); rintro e w1 ⟨rfl, rfl⟩)))
      go_ret3
      exact .inl ⟨HN'.out, rfl, Below.refl _ _⟩
  have h3 : frN l p ≤ 1048576 := by omega
  have h4 : p + 8 + frN l p ≤ l.length := by omega
  obtain ⟨b, off, cap', hv', _, _, _, _⟩ := h.cells (by intro e; subst e; simp at h4)
  cases hv'
  have hadd : (⟨b, off, none⟩ : Addr).add (p + 8) = ⟨b, off + (p + 8), none⟩ := by unfold Addr.add; split <;> simp_all
  have HG2 := Lib.hid (rgetFixed_yes _ l (p + 4) 4 (by omega) (by omega) w h)
  have HSUB := Lib.hid (sub_rd h (p + 8) (frN l p) (by omega) (by omega))
  rw [Option.map_some, hadd] at HSUB
  clear hadd
  have HP := Lib.hid (frP_length h4)
  have hck : ((valL ((l.drop (p + 4)).take 4) : Nat) : Int) < 4294967296 := by
    have := frN_lt l (p + 4)
    unfold frN at this
    omega
  rw [hpe] at HG2
  rw [show ((4 : Nat) : Int) = 4 from rfl] at HG HG2
  have hn1 : ((p : Int) + 8 + (frN l p : Int)).toNat = p + 8 + frN l p := by omega
  have hn2 : p + 8 + frN l p - (p + 8) = frN l p := by omega
  have hret : ((p : Int) + 8 + (frN l p : Int)) = ((p + 8 + frN l p : Nat) : Int) := by omega
  have HRET := Lib.hid hret
  have hps : ((p : Int) + 8).toNat = p + 8 := by omega
  have HOK : Hid (sumL (frP l p) = valL ((l.drop (p + 4)).take 4) → frOk l p = true) := Lib.hid fun h => frOk_mk h4 h3 h
  have HNO : Hid (¬ sumL (frP l p) = valL ((l.drop (p + 4)).take 4) → frOk l p = false) := Lib.hid fun h => frOk_sum h
  have hX : (l.drop (p + 8)).take (frN l p) = frP l p := rfl
  rw [hX] at HSUB
  clear h hfn h1 h2 hpe hret hX
  generalize hfe : frP l p = f at *
  generalize valL ((l.drop (p + 4)).take 4) = ck at *
  generalize hne : frN l p = n at *
  have HFE := Lib.hid hfe
  have HNE := Lib.hid hne
  clear hfe hne
  have g1 : ¬ (1048576 : Int) < (n : Int) := by omega
  have g2 : ¬ (l.length : Int) - (p : Int) - 8 < (n : Int) := by omega
  obtain ⟨sv, hsv⟩ : ∃ sv, sv = (if cap = p + 8 then Value.slice (some ⟨b, off, none⟩) n 0 else .slice (some ⟨b, off + (p + 8), none⟩) n (cap - (p + 8))) := ⟨_, rfl⟩
  have HAL : Hid (Below w.heap.size w (w.alloc (.cells #[] 5))) := Lib.hid ((Below.refl _ _).alloc (Nat.le_refl _) _)
  have HR : Hid (RdB (w.alloc (.cells #[] 5)) sv f) := Lib.hid (RdB.below (w := w) (by
    rw [hsv]
    split
    · rename_i hcp
      have hn0 : n = 0 := by omega
      have hf0 : f = [] := List.eq_nil_of_length_eq_zero (by rw [HP.out, hn0])
      rw [hf0, hn0]
      exact rdB_empty _ _ _ (Nat.zero_le _) fun h => by cases h
    · unfold RdB
      rw [HP.out]
      exact HSUB.out) HAL.out (Nat.le_refl _))
  have hsum : (sumL f : Int) < 4294967296 := by have := sumL_lt f; omega
  clear hsum hck hlt
  by_cases hcp : cap = p + 8
  · rw [if_pos hcp] at hsv
    subst hsv
    subst hcp
    by_cases hs : sumL f = ck
    · have HOK' := Lib.hid (HOK.out hs)
      have hsi : ((sumL f : Int) != (ck : Int)) = false := by rw [hs]; simp
      clear hs
      go_enter Tryz.func32, Tryz.ntmps32
      go_wp2_with (first | (go_at_call 31; first | ((with_reducible refine HG.out.mono ?_); rintro e w1 ⟨rfl, rfl⟩) | ((with_reducible refine HG2.out.mono ?_); rintro e w1 ⟨rfl, rfl⟩)) | (at_builtin; refine wpList_append_bytes rfl (.tmp 44) (.tmp 52) 24 rfl w.heap.size 5 Tryz.underlying24 info_u8 _ _ [] f rfl rfl (OwnB.made w _ _ (Nat.le_refl _)) HR.out HAL.out.size (by have := HP.out; simp; omega) ?_))
      intro u u1 ho1 hk1
      have HU := Lib.hid (show OwnB u1 w.heap.size 5 u f from ho1)
      have HB := Lib.hid (hk1 w.heap.size w (Nat.le_refl _) HAL.out)
      have HSM := Lib.hid (rsum_any u f u1 HU.out.read)
      clear ho1 hk1
      go_wp2_with (go_at_call 68; (with_reducible refine HSM.out.mono ?_); rintro e w2 ⟨rfl, rfl⟩)
      go_ret3
      refine .inr ⟨p, rfl, HOK'.out, u, ?_, ?_, HB.out⟩
      · rw [HNE.out, ← HRET.out]
        rfl
      · rw [HFE.out]
        exact HU.out
    · have HNO' : Hid (∀ q : Nat, ((p : Int) = (q : Int)) → frOk l q = false) := Lib.hid fun q hq => by
        have : q = p := by omega
        rw [this]; exact HNO.out hs
      have hsi : ((sumL f : Int) != (ck : Int)) = true := by simp; omega
      clear hs
      go_enter Tryz.func32, Tryz.ntmps32
      go_wp2_with (first | (go_at_call 31; first | ((with_reducible refine HG.out.mono ?_); rintro e w1 ⟨rfl, rfl⟩) | ((with_reducible refine HG2.out.mono ?_); rintro e w1 ⟨rfl, rfl⟩)) | (at_builtin; refine wpList_append_bytes rfl (.tmp 44) (.tmp 52) 24 rfl w.heap.size 5 Tryz.underlying24 info_u8 _ _ [] f rfl rfl (OwnB.made w _ _ (Nat.le_refl _)) HR.out HAL.out.size (by have := HP.out; simp; omega) ?_))
      intro u u1 ho1 hk1
      have HU := Lib.hid (show OwnB u1 w.heap.size 5 u f from ho1)
      have HB := Lib.hid (hk1 w.heap.size w (Nat.le_refl _) HAL.out)
      have HSM := Lib.hid (rsum_any u f u1 HU.out.read)
      clear ho1 hk1
      go_wp2_with (go_at_call 68; (with_reducible refine HSM.out.mono ?_); rintro e w2 ⟨rfl, rfl⟩)
      go_ret3
      exact .inl ⟨HNO'.out, rfl, HB.out⟩
  · rw [if_neg hcp] at hsv
    subst hsv
    by_cases hs : sumL f = ck
    · have HOK' := Lib.hid (HOK.out hs)
      have hsi : ((sumL f : Int) != (ck : Int)) = false := by rw [hs]; simp
      clear hs
      go_enter Tryz.func32, Tryz.ntmps32
      go_wp2_with (first | (go_at_call 31; first | ((with_reducible refine HG.out.mono ?_); rintro e w1 ⟨rfl, rfl⟩) | ((with_reducible refine HG2.out.mono ?_); rintro e w1 ⟨rfl, rfl⟩)) | (at_builtin; refine wpList_append_bytes rfl (.tmp 44) (.tmp 52) 24 rfl w.heap.size 5 Tryz.underlying24 info_u8 _ _ [] f rfl rfl (OwnB.made w _ _ (Nat.le_refl _)) HR.out HAL.out.size (by have := HP.out; simp; omega) ?_))
      intro u u1 ho1 hk1
      have HU := Lib.hid (show OwnB u1 w.heap.size 5 u f from ho1)
      have HB := Lib.hid (hk1 w.heap.size w (Nat.le_refl _) HAL.out)
      have HSM := Lib.hid (rsum_any u f u1 HU.out.read)
      clear ho1 hk1
      go_wp2_with (go_at_call 68; (with_reducible refine HSM.out.mono ?_); rintro e w2 ⟨rfl, rfl⟩)
      go_ret3
      refine .inr ⟨p, rfl, HOK'.out, u, ?_, ?_, HB.out⟩
      · rw [HNE.out, ← HRET.out]
        rfl
      · rw [HFE.out]
        exact HU.out
    · have HNO' : Hid (∀ q : Nat, ((p : Int) = (q : Int)) → frOk l q = false) := Lib.hid fun q hq => by
        have : q = p := by omega
        rw [this]; exact HNO.out hs
      have hsi : ((sumL f : Int) != (ck : Int)) = true := by simp; omega
      clear hs
      go_enter Tryz.func32, Tryz.ntmps32
      go_wp2_with (first | (go_at_call 31; first | ((with_reducible refine HG.out.mono ?_); rintro e w1 ⟨rfl, rfl⟩) | ((with_reducible refine HG2.out.mono ?_); rintro e w1 ⟨rfl, rfl⟩)) | (at_builtin; refine wpList_append_bytes rfl (.tmp 44) (.tmp 52) 24 rfl w.heap.size 5 Tryz.underlying24 info_u8 _ _ [] f rfl rfl (OwnB.made w _ _ (Nat.le_refl _)) HR.out HAL.out.size (by have := HP.out; simp; omega) ?_))
      intro u u1 ho1 hk1
      have HU := Lib.hid (show OwnB u1 w.heap.size 5 u f from ho1)
      have HB := Lib.hid (hk1 w.heap.size w (Nat.le_refl _) HAL.out)
      have HSM := Lib.hid (rsum_any u f u1 HU.out.read)
      clear ho1 hk1
      go_wp2_with (go_at_call 68; (with_reducible refine HSM.out.mono ?_); rintro e w2 ⟨rfl, rfl⟩)
      go_ret3
      exact .inl ⟨HNO'.out, rfl, HB.out⟩
end Go.Proofs.YteeikmpfgbfeoaaGreat

/-
  What the document's answer for layer 1 does: texts out of bytes.
-/
namespace Go.Proofs.YteeikmpfgbfeoaaGreat
open Go.RowKit

set_option maxRecDepth 100000 in
set_option maxHeartbeats 1000000 in
theorem rgetText_any (v : Value) (l : List UInt8) (at_ : Int) (w : World) (hv : RdB w v l) :
    Calls Tryz.prog 70 #[v, .int .i64 at_] w fun e w' => e = .returned (ansT (textAt l at_)) ∧ w = w' := by
  have hget := rget_any v l at_ w hv
  obtain ⟨ta, ht⟩ : ∃ ta, ta = textAt l at_ := ⟨_, rfl⟩
  rw [← ht]
  cases hg : getAt l at_ with
  | none =>
    rw [hg] at hget
    have ht' : ta = none := by rw [ht, textAt, hg]; rfl
    subst ht'
    clear ht hg
    unfold ans3 at hget
    obtain ⟨a, cap, rfl, hc1, hc2⟩ := hv.form
    have HG := Lib.hid hget
    clear hget
    go_enter Tryz.func70, Tryz.ntmps70
    go_wp2_with fail
    refine HG.out.mono ?_
    rintro e w' ⟨rfl, rfl⟩
    go_wp2
    go_ret3
    exact ⟨rfl, rfl⟩
  | some x =>
    obtain ⟨n, k⟩ := x
    obtain ⟨p, hp0, hpk, hkl, hn, hp1⟩ := getAt_some hg
    clear hp0 hp1
    rw [hg] at hget
    unfold ans3 at hget
    obtain ⟨b, off, cap, rfl, hc1, hc2, hbw, hcell⟩ := hv.cells (by intro h; subst h; simp at hkl; omega)
    clear hcell
    unfold maxLen at hc2
    by_cases hle : n ≤ l.length - k
    · have ht' : ta = some ((l.drop k).take n, k + n) := by rw [ht, textAt, hg]; simp [hle]
      subst ht'
      clear ht hg
      have HG := Lib.hid hget
      clear hget
      have hpart := hv.part k (k + n) (by omega) (by omega)
      rw [show k + n - k = n from by omega] at hpart
      by_cases hcap : k = cap
      · have hn0 : n = 0 := by omega
        have hl0 : cap = l.length := by omega
        subst hn0 hcap hl0
        clear hpart
        have hconv := rdB_convert (P := Tryz.prog) (w := w) (RdB.none_left (a := ⟨b, off, none⟩)) 24 5 9 Tryz.underlying24 Tryz.underlying5 Tryz.underlying9
        go_enter Tryz.func70, Tryz.ntmps70
        go_wp2_with fail
        refine HG.out.mono ?_
        rintro e w' ⟨rfl, rfl⟩
        go_wp2
        go_ret3
        exact ⟨rfl, rfl⟩
      · have hconv := rdB_convert (P := Tryz.prog) hpart 24 5 9 Tryz.underlying24 Tryz.underlying5 Tryz.underlying9
        go_enter Tryz.func70, Tryz.ntmps70
        go_wp2_with fail
        refine HG.out.mono ?_
        rintro e w' ⟨rfl, rfl⟩
        have g1 : ¬ (l.length : Int) - (k : Int) < (n : Int) := by omega
        have hkc : k < cap := by omega
        go_wp2
        go_ret3
        exact ⟨rfl, rfl⟩
    · have ht' : ta = none := by rw [ht, textAt, hg]; simp [hle]
      subst ht'
      clear ht hg
      have HG := Lib.hid hget
      clear hget
      go_enter Tryz.func70, Tryz.ntmps70
      go_wp2_with fail
      refine HG.out.mono ?_
      rintro e w' ⟨rfl, rfl⟩
      have g1 : (l.length : Int) - (k : Int) < (n : Int) := by omega
      go_wp2
      go_ret3
      exact ⟨rfl, rfl⟩
end Go.Proofs.YteeikmpfgbfeoaaGreat

/-
  What key.Put and the document's PutKey do, for every key.
-/
namespace Go.Proofs.YteeikmpfgbfeoaaGreat
open Go.RowKit

/-- The bytes of a key: none, if it may not be. -/
def putK (u : List UInt8) (s k : Int) : List UInt8 := bif mayB u s k then putT u ++ putL (2 * s + k - 1).toNat else []

theorem put_pos (n : Int) (h0 : 0 ≤ n) (h1 : n ≤ 9223372036854775807) (w : World) : Calls Tryz.prog 53 #[.int .i64 n] w (RetB w.heap.size w (putL n.toNat)) := by
  obtain ⟨m, rfl⟩ := Int.eq_ofNat_of_zero_le h0
  exact put_nat m h1 w

theorem rput_pos (n : Int) (h0 : 0 ≤ n) (h1 : n ≤ 9223372036854775807) (w : World) : Calls Tryz.prog 59 #[.int .i64 n] w (RetB w.heap.size w (putL n.toNat)) := by
  obtain ⟨m, rfl⟩ := Int.eq_ofNat_of_zero_le h0
  exact rput_nat m h1 w

theorem OwnB.mono_B {w : World} {B B' e : Nat} {v : Value} {l : List UInt8} (h : OwnB w B e v l) (hB : B' ≤ B) : OwnB w B' e v l := by
  refine ⟨h.1, ?_⟩
  rcases h.2 with h2 | ⟨g, cap, cur, rfl, h3, r⟩
  · exact .inl h2
  · exact .inr ⟨g, cap, cur, rfl, by omega, r⟩

set_option maxRecDepth 100000 in
theorem kput_no (u : ByteArray) (s k : Int) (hu : u.size ≤ maxLen) (h : mayB u.data.toList s k = false) (w : World) :
    Calls Tryz.prog 52 #[.agg #[.string u, .int .i64 s, .int .i64 k]] w (RetB w.heap.size w []) := by
  have hm := may_any u s k hu
  rw [h] at hm
  have HM := Lib.hid hm
  clear hm h
  go_enter Tryz.func52, Tryz.ntmps52
  go_wp2_with (go_at_call 74; refine (HM.out _).mono ?_; rintro e w1 ⟨rfl, hb⟩)
  go_ret
  exact ⟨_, rfl, OwnB.nil _ _ _, ((Below.refl _ _).alloc (Nat.le_refl _) _).trans (hb.mono (by simp))⟩

set_option maxRecDepth 100000 in
set_option maxHeartbeats 1000000 in
theorem kput_yes (u : ByteArray) (s k : Int) (hu : u.size ≤ 64) (h0 : 0 ≤ s) (h1 : s ≤ 9007199254740992) (hk0 : 1 ≤ k) (hk1 : k ≤ 2) (w : World) :
    Calls Tryz.prog 52 #[.agg #[.string u, .int .i64 s, .int .i64 k]] w (RetB w.heap.size w (putT u.data.toList ++ putL (2 * s + k - 1).toNat)) := by
  have hm := may_any u s k (by unfold maxLen; omega)
  rw [mayB_mk (by rw [str_len]; exact hu) h0 h1 (by omega)] at hm
  have HM := Lib.hid hm
  have HLP := Lib.hid (putL_length (2 * s + k - 1).toNat (by omega))
  have HLT : Hid ((putT u.data.toList).length ≤ 73) := Lib.hid (by have := putL_length u.size (by omega); unfold putT; rw [List.length_append, str_len]; omega)
  clear hm
  go_enter Tryz.func52, Tryz.ntmps52
  go_wp2_with (go_at_call 74; refine (HM.out _).mono ?_; rintro e w1 ⟨rfl, hb⟩)
  have d0 : w1.cell? ⟨w.heap.size, 0, none⟩ = some (.string u) := (hb.cell (p := ⟨w.heap.size, 0, none⟩) (by simp)).trans (by go_simp)
  have d1 : w1.cell? ⟨w.heap.size, 1, none⟩ = some (.int .i64 s) := (hb.cell (p := ⟨w.heap.size, 1, none⟩) (by simp)).trans (by go_simp)
  have d2 : w1.cell? ⟨w.heap.size, 2, none⟩ = some (.int .i64 k) := (hb.cell (p := ⟨w.heap.size, 2, none⟩) (by simp)).trans (by go_simp)
  have hB : Below w.heap.size w w1 := ((Below.refl _ _).alloc (Nat.le_refl _) _).trans (hb.mono (by simp))
  clear hb
  have e1 : IntKind.i64.wrap (2 * s) = 2 * s := IntWalk.i64_in _ (by omega)
  have e2 : IntKind.i64.wrap (2 * s + k) = 2 * s + k := IntWalk.i64_in _ (by omega)
  have e3 : IntKind.i64.wrap (2 * s + k - 1) = 2 * s + k - 1 := IntWalk.i64_in _ (by omega)
  refine wp_region_plan [(true, 0), (true, 1), (true, 3), (true, 4), (true, 5), (true, 6), (true, 7), (true, 8), (true, 9), (false, 2), (false, 10), (false, 11), (true, 12)] (by kernel_rfl) (by kernel_rfl) (by kernel_rfl) (by kernel_rfl) (by kernel_rfl) ?_
  simp only [planO, List.drop_succ_cons, List.drop_zero]
  refine PlanO.take (v := ?v0) (by kernel_rfl) ?y0 ?r0
  case y0 => (intro wz hz; go_simp; try with_reducible rfl)
  (try simp only [Act.put, List.setIfInBounds_toArray, List.set_cons_zero, List.set_cons_succ])
  refine PlanO.take (v := ?v1) (by kernel_rfl) ?y1 ?r1
  case y1 => (intro wz hz; have c0 := Ext.at_ hz d0; have c1 := Ext.at_ hz d1; have c2 := Ext.at_ hz d2; go_simp; try with_reducible rfl)
  (try simp only [Act.put, List.setIfInBounds_toArray, List.set_cons_zero, List.set_cons_succ])
  refine PlanO.take (v := ?v3) (by kernel_rfl) ?y3 ?r3
  case y3 => (intro wz hz; go_simp; try with_reducible rfl)
  (try simp only [Act.put, List.setIfInBounds_toArray, List.set_cons_zero, List.set_cons_succ])
  refine PlanO.take (v := ?v4) (by kernel_rfl) ?y4 ?r4
  case y4 => (intro wz hz; have c0 := Ext.at_ hz d0; have c1 := Ext.at_ hz d1; have c2 := Ext.at_ hz d2; go_simp; try with_reducible rfl)
  (try simp only [Act.put, List.setIfInBounds_toArray, List.set_cons_zero, List.set_cons_succ])
  refine PlanO.take (v := ?v5) (by kernel_rfl) ?y5 ?r5
  case y5 => (intro wz hz; go_simp; try with_reducible rfl)
  (try simp only [Act.put, List.setIfInBounds_toArray, List.set_cons_zero, List.set_cons_succ])
  refine PlanO.take (v := ?v6) (by kernel_rfl) ?y6 ?r6
  case y6 => (intro wz hz; go_simp; try with_reducible rfl)
  (try simp only [Act.put, List.setIfInBounds_toArray, List.set_cons_zero, List.set_cons_succ])
  refine PlanO.take (v := ?v7) (by kernel_rfl) ?y7 ?r7
  case y7 => (intro wz hz; have c0 := Ext.at_ hz d0; have c1 := Ext.at_ hz d1; have c2 := Ext.at_ hz d2; go_simp; try with_reducible rfl)
  (try simp only [Act.put, List.setIfInBounds_toArray, List.set_cons_zero, List.set_cons_succ])
  refine PlanO.take (v := ?v8) (by kernel_rfl) ?y8 ?r8
  case y8 => (intro wz hz; go_simp; try with_reducible rfl)
  (try simp only [Act.put, List.setIfInBounds_toArray, List.set_cons_zero, List.set_cons_succ])
  refine PlanO.take (v := ?v9) (by kernel_rfl) ?y9 ?r9
  case y9 => (intro wz hz; go_simp; try with_reducible rfl)
  (try simp only [Act.put, List.setIfInBounds_toArray, List.set_cons_zero, List.set_cons_succ])
  refine PlanO.keep (fun K hK => ?_)
  go_simp
  go_at_call 77
  refine (putText_any u (by omega) _).mono ?_
  rintro e u1 ⟨p1, rfl, ho1, hb1⟩
  have hE1 : Ext w1.drew u1 := hb1
  go_wp2_with fail
  refine hK.out _ _ hb1 ?_
  clear hK K
  (try simp only [Act.put, List.setIfInBounds_toArray, List.set_cons_zero, List.set_cons_succ])
  refine PlanO.keep (fun K hK => ?_)
  go_simp
  go_at_call 53
  refine (put_pos _ (by omega) (by omega) _).mono ?_
  rintro e u2 ⟨p2, rfl, ho2, hb2⟩
  have hr2 := ho2.read
  clear ho2
  have hE2 : Ext w1.drew u2 := Ext.trans hE1 hb2
  have ho1' := ho1.below hb2 (Nat.le_refl _)
  clear ho1
  go_wp2_with fail
  refine hK.out _ _ (hb2.mono hE1.size) ?_
  clear hK K
  (try simp only [Act.put, List.setIfInBounds_toArray, List.set_cons_zero, List.set_cons_succ])
  refine PlanO.keep (fun K hK => ?_)
  refine step_append_bytes rfl (.tmp 8) (.tmp 16) 24 rfl w1.drew.heap.size 5 Tryz.underlying24 info_u8 _ _ _ _ rfl rfl ho1' hr2 ?b1 ?b2 ?_
  case b1 => exact hE2.size
  case b2 => have := HLT.out; have := HLP.out; omega
  intro v' w' hown' hb'
  have hE3 : Ext w1.drew w' := hb' _ _ (Nat.le_refl _) hE2
  refine hK.out _ _ (hb' _ _ (Nat.le_refl _) (Below.refl _ _)) ?_
  clear hK K
  (try simp only [Act.put, List.setIfInBounds_toArray, List.set_cons_zero, List.set_cons_succ])
  refine PlanO.take (v := ?v12) (by kernel_rfl) ?y12 ?r12
  case y12 => (intro wz hz; go_simp; try with_reducible rfl)
  (try simp only [Act.put, List.setIfInBounds_toArray, List.set_cons_zero, List.set_cons_succ])
  refine PlanO.done (NoPanic.normal ?_)
  go_wp2
  go_ret
  exact ⟨_, rfl, hown'.mono_B (hB.size), hB.trans ((below_draw hE3).mono hB.size)⟩

theorem kput_any (u : ByteArray) (s k : Int) (hu : u.size ≤ maxLen) (w : World) : Calls Tryz.prog 52 #[.agg #[.string u, .int .i64 s, .int .i64 k]] w (RetB w.heap.size w (putK u.data.toList s k)) := by
  unfold putK
  cases h : mayB u.data.toList s k with
  | false => exact kput_no u s k hu h w
  | true =>
    have := mayB_true h
    rw [str_len] at this
    exact kput_yes u s k (by omega) (by omega) (by omega) (by omega) (by omega) w

set_option maxRecDepth 100000 in
theorem rkput_no (u : ByteArray) (s k : Int) (hu : u.size ≤ maxLen) (h : mayB u.data.toList s k = false) (w : World) :
    Calls Tryz.prog 58 #[.agg #[.string u, .int .i64 s, .int .i64 k]] w (RetB w.heap.size w []) := by
  have hm := rmay_any u s k hu
  rw [h] at hm
  have HM := Lib.hid hm
  clear hm h
  go_enter Tryz.func58, Tryz.ntmps58
  go_wp2_with (go_at_call 84; refine (HM.out _).mono ?_; rintro e w1 ⟨rfl, hb⟩)
  go_ret
  exact ⟨_, rfl, OwnB.nil _ _ _, ((Below.refl _ _).alloc (Nat.le_refl _) _).trans (hb.mono (by simp))⟩

set_option maxRecDepth 100000 in
set_option maxHeartbeats 1000000 in
theorem rkput_yes (u : ByteArray) (s k : Int) (hu : u.size ≤ 64) (h0 : 0 ≤ s) (h1 : s ≤ 9007199254740992) (hk0 : 1 ≤ k) (hk1 : k ≤ 2) (w : World) :
    Calls Tryz.prog 58 #[.agg #[.string u, .int .i64 s, .int .i64 k]] w (RetB w.heap.size w (putT u.data.toList ++ putL (2 * s + k - 1).toNat)) := by
  have hm := rmay_any u s k (by unfold maxLen; omega)
  rw [mayB_mk (by rw [str_len]; exact hu) h0 h1 (by omega)] at hm
  have HM := Lib.hid hm
  have HLP := Lib.hid (putL_length (2 * s + k - 1).toNat (by omega))
  have HLT : Hid ((putT u.data.toList).length ≤ 73) := Lib.hid (by have := putL_length u.size (by omega); unfold putT; rw [List.length_append, str_len]; omega)
  clear hm
  go_enter Tryz.func58, Tryz.ntmps58
  go_wp2_with (go_at_call 84; refine (HM.out _).mono ?_; rintro e w1 ⟨rfl, hb⟩)
  have d0 : w1.cell? ⟨w.heap.size, 0, none⟩ = some (.string u) := (hb.cell (p := ⟨w.heap.size, 0, none⟩) (by simp)).trans (by go_simp)
  have d1 : w1.cell? ⟨w.heap.size, 1, none⟩ = some (.int .i64 s) := (hb.cell (p := ⟨w.heap.size, 1, none⟩) (by simp)).trans (by go_simp)
  have d2 : w1.cell? ⟨w.heap.size, 2, none⟩ = some (.int .i64 k) := (hb.cell (p := ⟨w.heap.size, 2, none⟩) (by simp)).trans (by go_simp)
  have hB : Below w.heap.size w w1 := ((Below.refl _ _).alloc (Nat.le_refl _) _).trans (hb.mono (by simp))
  clear hb
  have e1 : IntKind.i64.wrap (2 * s) = 2 * s := IntWalk.i64_in _ (by omega)
  have e2 : IntKind.i64.wrap (2 * s + k) = 2 * s + k := IntWalk.i64_in _ (by omega)
  have e3 : IntKind.i64.wrap (2 * s + k - 1) = 2 * s + k - 1 := IntWalk.i64_in _ (by omega)
  refine wp_region_plan [(true, 0), (true, 1), (true, 3), (true, 4), (true, 5), (true, 6), (true, 7), (true, 8), (true, 9), (false, 2), (false, 10), (false, 11), (true, 12)] (by kernel_rfl) (by kernel_rfl) (by kernel_rfl) (by kernel_rfl) (by kernel_rfl) ?_
  simp only [planO, List.drop_succ_cons, List.drop_zero]
  refine PlanO.take (v := ?v0) (by kernel_rfl) ?y0 ?r0
  case y0 => (intro wz hz; go_simp; try with_reducible rfl)
  (try simp only [Act.put, List.setIfInBounds_toArray, List.set_cons_zero, List.set_cons_succ])
  refine PlanO.take (v := ?v1) (by kernel_rfl) ?y1 ?r1
  case y1 => (intro wz hz; have c0 := Ext.at_ hz d0; have c1 := Ext.at_ hz d1; have c2 := Ext.at_ hz d2; go_simp; try with_reducible rfl)
  (try simp only [Act.put, List.setIfInBounds_toArray, List.set_cons_zero, List.set_cons_succ])
  refine PlanO.take (v := ?v3) (by kernel_rfl) ?y3 ?r3
  case y3 => (intro wz hz; go_simp; try with_reducible rfl)
  (try simp only [Act.put, List.setIfInBounds_toArray, List.set_cons_zero, List.set_cons_succ])
  refine PlanO.take (v := ?v4) (by kernel_rfl) ?y4 ?r4
  case y4 => (intro wz hz; have c0 := Ext.at_ hz d0; have c1 := Ext.at_ hz d1; have c2 := Ext.at_ hz d2; go_simp; try with_reducible rfl)
  (try simp only [Act.put, List.setIfInBounds_toArray, List.set_cons_zero, List.set_cons_succ])
  refine PlanO.take (v := ?v5) (by kernel_rfl) ?y5 ?r5
  case y5 => (intro wz hz; go_simp; try with_reducible rfl)
  (try simp only [Act.put, List.setIfInBounds_toArray, List.set_cons_zero, List.set_cons_succ])
  refine PlanO.take (v := ?v6) (by kernel_rfl) ?y6 ?r6
  case y6 => (intro wz hz; go_simp; try with_reducible rfl)
  (try simp only [Act.put, List.setIfInBounds_toArray, List.set_cons_zero, List.set_cons_succ])
  refine PlanO.take (v := ?v7) (by kernel_rfl) ?y7 ?r7
  case y7 => (intro wz hz; have c0 := Ext.at_ hz d0; have c1 := Ext.at_ hz d1; have c2 := Ext.at_ hz d2; go_simp; try with_reducible rfl)
  (try simp only [Act.put, List.setIfInBounds_toArray, List.set_cons_zero, List.set_cons_succ])
  refine PlanO.take (v := ?v8) (by kernel_rfl) ?y8 ?r8
  case y8 => (intro wz hz; go_simp; try with_reducible rfl)
  (try simp only [Act.put, List.setIfInBounds_toArray, List.set_cons_zero, List.set_cons_succ])
  refine PlanO.take (v := ?v9) (by kernel_rfl) ?y9 ?r9
  case y9 => (intro wz hz; go_simp; try with_reducible rfl)
  (try simp only [Act.put, List.setIfInBounds_toArray, List.set_cons_zero, List.set_cons_succ])
  refine PlanO.keep (fun K hK => ?_)
  go_simp
  go_at_call 86
  refine (rputText_any u (by omega) _).mono ?_
  rintro e u1 ⟨p1, rfl, ho1, hb1⟩
  have hE1 : Ext w1.drew u1 := hb1
  go_wp2_with fail
  refine hK.out _ _ hb1 ?_
  clear hK K
  (try simp only [Act.put, List.setIfInBounds_toArray, List.set_cons_zero, List.set_cons_succ])
  refine PlanO.keep (fun K hK => ?_)
  go_simp
  go_at_call 59
  refine (rput_pos _ (by omega) (by omega) _).mono ?_
  rintro e u2 ⟨p2, rfl, ho2, hb2⟩
  have hr2 := ho2.read
  clear ho2
  have hE2 : Ext w1.drew u2 := Ext.trans hE1 hb2
  have ho1' := ho1.below hb2 (Nat.le_refl _)
  clear ho1
  go_wp2_with fail
  refine hK.out _ _ (hb2.mono hE1.size) ?_
  clear hK K
  (try simp only [Act.put, List.setIfInBounds_toArray, List.set_cons_zero, List.set_cons_succ])
  refine PlanO.keep (fun K hK => ?_)
  refine step_append_bytes rfl (.tmp 8) (.tmp 16) 24 rfl w1.drew.heap.size 5 Tryz.underlying24 info_u8 _ _ _ _ rfl rfl ho1' hr2 ?b1 ?b2 ?_
  case b1 => exact hE2.size
  case b2 => have := HLT.out; have := HLP.out; omega
  intro v' w' hown' hb'
  have hE3 : Ext w1.drew w' := hb' _ _ (Nat.le_refl _) hE2
  refine hK.out _ _ (hb' _ _ (Nat.le_refl _) (Below.refl _ _)) ?_
  clear hK K
  (try simp only [Act.put, List.setIfInBounds_toArray, List.set_cons_zero, List.set_cons_succ])
  refine PlanO.take (v := ?v12) (by kernel_rfl) ?y12 ?r12
  case y12 => (intro wz hz; go_simp; try with_reducible rfl)
  (try simp only [Act.put, List.setIfInBounds_toArray, List.set_cons_zero, List.set_cons_succ])
  refine PlanO.done (NoPanic.normal ?_)
  go_wp2
  go_ret
  exact ⟨_, rfl, hown'.mono_B (hB.size), hB.trans ((below_draw hE3).mono hB.size)⟩

theorem rkput_any (u : ByteArray) (s k : Int) (hu : u.size ≤ maxLen) (w : World) : Calls Tryz.prog 58 #[.agg #[.string u, .int .i64 s, .int .i64 k]] w (RetB w.heap.size w (putK u.data.toList s k)) := by
  unfold putK
  cases h : mayB u.data.toList s k with
  | false => exact rkput_no u s k hu h w
  | true =>
    have := mayB_true h
    rw [str_len] at this
    exact rkput_yes u s k (by omega) (by omega) (by omega) (by omega) (by omega) w
end Go.Proofs.YteeikmpfgbfeoaaGreat

/-
  Tables: a table of entries with any filter, as the document tells it.
-/
namespace Go.Proofs.YteeikmpfgbfeoaaGreat
open Go.RowKit

theorem part_at {es : List Ent} {per k i : Nat} (hi : i < (partE es per k).length) : (partE es per k).getD i Ent.none_ = es.getD (k * per + i) Ent.none_ := by
  rw [part_len] at hi
  unfold partE
  simp only [List.getD, List.getElem?_take, List.getElem?_drop]
  rw [if_pos (by omega)]
theorem blkF_len {es : List Ent} {per k : Nat} (h : putErr (partE es per k) = 0) : (blockL (partE es per k)).length ≤ 100000 ∧ (blkF es per k).length ≤ 100008 := by
  obtain ⟨h1, _, h3⟩ := putErr_ok h
  have := bodyN_len (fun k hk => rising_may h1 hk) (partE es per k).length (Nat.le_refl _)
  have hl := blockL_len (partE es per k)
  unfold blkF
  rw [frRaw_length]
  omega
theorem tabB_len {es : List Ent} {per : Nat} (h : ∀ k, k < nBlk es per → putErr (partE es per k) = 0) : ∀ k, k ≤ nBlk es per → (tabB es per k).length ≤ 100008 * k
  | 0, _ => by simp [tabB]
  | k + 1, hk => by
    unfold tabB
    rw [List.length_append]
    have := tabB_len h k (by omega)
    have := (blkF_len (h k (by omega))).2
    omega
theorem keyB_len {e : Ent} (h : e.may = true) : (keyB e).length ≤ 100 := by
  obtain ⟨m1, m2, m3, m4, _⟩ := may_facts h
  unfold keyB
  rw [List.length_append]
  have h2 := putT_le (uL e) (by omega)
  have h3 := putL_length (numE e) (by unfold numE; omega)
  omega
theorem idxB_len {es : List Ent} {per : Nat} (h : ∀ k, k < nBlk es per → putErr (partE es per k) = 0) (hk2 : nBlk es per ≤ 256) : ∀ k, k ≤ nBlk es per → (idxB es per k).length ≤ 200 * k
  | 0, _ => by simp [idxB]
  | k + 1, hk => by
    unfold idxB
    simp only [List.length_append]
    have h1 := idxB_len h hk2 k (by omega)
    have h0 := h k (by omega)
    have h2 := (blkF_len h0).2
    have h3 := tabB_len h k (by omega)
    have h4 := putL_length (tabB es per k).length (by omega)
    have h5 := putL_length (blkF es per k).length (by omega)
    obtain ⟨r1, r2, _⟩ := putErr_ok h0
    have hp := List.length_pos_iff.2 r2
    have h6 := keyB_len (rising_may r1 (k := (partE es per k).length - 1) (by omega))
    omega

set_option maxRecDepth 100000 in
set_option maxHeartbeats 600000 in
theorem rtable_any (v fv : Value) (es : List Ent) (per : Nat) (f : List UInt8) (w : World) (hv : RdE w v es) (hf : RdB w fv f) (hr : risingB es = true) (hl : es.length ≤ 256) (h1 : 1 ≤ per) (h2 : per ≤ 64) (hfl : f.length ≤ 1048576) :
    Calls Tryz.prog 27 #[v, .int .i64 (per : Int), fv] w (RetB w.heap.size w (tableL es per f)) := by
  have HV := Lib.hid hv
  have HF := Lib.hid hf
  obtain ⟨va, vc, rfl, hc1, hc2⟩ := hv.form
  obtain ⟨fa, fc, rfl, hf1, hf2⟩ := hf.form
  unfold maxLen at hc2 hf2
  have HR := Lib.hid hr
  clear hv hf hr
  have HNB := Lib.hid (fun k => nBlk_lt (es := es) h1 k)
  go_enter Tryz.func27, Tryz.ntmps27
  go_wp2
  go_loopw [7, 8, 9] (fun b x i wr => ∃ k : Nat, k ≤ nBlk es per ∧ i = .int .i64 ((k * per : Nat) : Int) ∧ Hid (BT w w.heap.size wr b x (tabB es per k) (idxB es per k))) (fun _ _ i _ => es.length - (intOf i).toNat)
  case atStart => exact ⟨0, Nat.zero_le _, by simp, Lib.hid (BT.start (Below.refl _ _) (Nat.le_refl _))⟩
  case round =>
    obtain ⟨k, hk, rfl, HT⟩ := hrel
    by_cases hlt : k < nBlk es per
    · have hq := (HNB.out k).1 hlt
      have HPL := Lib.hid (part_len (es := es) (per := per) (k := k))
      have HPE := Lib.hid (part_err HR.out h1 h2 hq)
      have HTB : Hid (tabB es per (k + 1) = tabB es per k ++ blkF es per k) := Lib.hid rfl
      have HIB : Hid (idxB es per (k + 1) = idxB es per k ++ keyB ((partE es per k).getD ((partE es per k).length - 1) Ent.none_) ++ putL (tabB es per k).length ++ putL (blkF es per k).length) := Lib.hid rfl
      have HQS := Lib.hid (show (k + 1) * per = k * per + per from Nat.succ_mul k per)
      obtain ⟨ba, bc, hba, _, _⟩ := HT.out.own.read.form
      subst hba
      obtain ⟨q, hqe⟩ : ∃ q, k * per = q := ⟨_, rfl⟩
      rw [hqe] at hq HPL HQS
      obtain ⟨m, hm⟩ : ∃ m, min per (es.length - q) = m := ⟨_, rfl⟩
      have hminr : ∀ (ts : Array TypeId) (t : TypeId) (w : World), (Builtin.min_ ts t #[.int .i64 (es.length : Int), .int .i64 ((q : Int) + (per : Int))]).run Tryz.prog w = .ok (.int .i64 ((q : Int) + (m : Int))) w := by
        intro ts t w
        by_cases h : (q : Int) + (per : Int) < (es.length : Int)
        · have e : (q : Int) + (m : Int) = (q : Int) + (per : Int) := by omega
          rw [e]
          simp [Builtin.min_, Builtin.min2, h]
        · have e : (q : Int) + (m : Int) = (es.length : Int) := by omega
          rw [e]
          simp [Builtin.min_, Builtin.min2, h]
      have htn : ((q : Int) + (m : Int)).toNat = q + m := by omega
      have hle : (q : Int) + (m : Int) ≤ (vc : Int) := by omega
      have hm1 : 1 ≤ m := by omega
      have hm2 : q + m ≤ es.length := by omega
      rw [hm] at HPL
      clear hm
      rw [hqe]
      obtain ⟨_, _, hva, hone⟩ := HV.out.one
      cases hva
      obtain ⟨b, off, rfl, hbw, z0, z1, z2, _, _⟩ := hone (q + (m - 1)) (by omega)
      rw [show off + (q + (m - 1)) * 4 = off + q * 4 + (m - 1) * 4 by omega] at z0 z1 z2
      have HBW := Lib.hid hbw
      have HC0 := Lib.hid z0
      have HC1 := Lib.hid z1
      have HC2 := Lib.hid z2
      have HLA := Lib.hid (show (partE es per k).getD ((partE es per k).length - 1) Ent.none_ = es.getD (q + (m - 1)) Ent.none_ by rw [part_at (by rw [HPL.out]; omega), HPL.out, hqe])
      rw [HLA.out] at HIB
      have HXM := Lib.hid (rising_may HR.out (k := q + (m - 1)) (by omega))
      have HLK := Lib.hid (keyB_len HXM.out)
      have HPV : Hid (∀ wz, Below w.heap.size w wz → RdE wz (.slice (some ⟨b, off + q * 4, none⟩) m (vc - q)) (partE es per k)) := Lib.hid fun wz hz => by
        have h := entRest (HV.out.below hz (Nat.le_refl _)).1 q (by omega)
        rw [← List.length_drop] at h
        have h := entFront h m (by rw [List.length_drop]; omega)
        have e : (es.drop q).take m = partE es per k := by
          unfold partE
          rw [hqe, ← HPL.out, part_len, hqe]
          rcases Nat.le_total per (es.length - q) with hle | hle
          · rw [Nat.min_eq_left hle]
          · rw [Nat.min_eq_right hle, List.take_of_length_le (by rw [List.length_drop]; exact Nat.le_refl _), List.take_of_length_le (by rw [List.length_drop]; omega)]
        rw [e] at h
        exact ⟨by rw [HPL.out]; exact h, fun x hx => Ent.may_fits (rising_all HR.out x ((part_sub es per k).subset hx))⟩
      have HPB : Hid (∀ wz, Below w.heap.size w wz → Calls Tryz.prog 56 #[.slice (some ⟨b, off + q * 4, none⟩) m (vc - q)] wz fun e w' => ∃ x, e = .returned (.tuple #[x, .int .i64 0]) ∧ OwnB w' wz.heap.size 5 x (blockL (partE es per k)) ∧ Below wz.heap.size wz w') := Lib.hid fun wz hz => by
        have h := rputblk_any _ (partE es per k) wz (HPV.out wz hz)
        unfold RetPut at h
        rw [HPE.out, if_pos rfl] at h
        exact h
      have HFL := Lib.hid (blkF_len HPE.out)
      have HFR : Hid (∀ x wz, RdB wz x (blockL (partE es per k)) → Calls Tryz.prog 57 #[x] wz (RetB wz.heap.size wz (blkF es per k))) := Lib.hid fun x wz hx => by
        have h := rframe_any wz x _ hx (by have := HFL.out.1; omega)
        unfold frL at h
        rw [if_pos (by have := HFL.out.1; omega)] at h
        exact h
      have HALL := Lib.hid (show ∀ k, k < nBlk es per → putErr (partE es per k) = 0 from fun k hk => part_err HR.out h1 h2 ((HNB.out k).1 hk))
      have HNL := Lib.hid (show nBlk es per ≤ 256 by
        rcases Nat.lt_or_ge 256 (nBlk es per) with h | h
        · have := (HNB.out 256).1 h
          have := Nat.mul_le_mul_left 256 h1
          omega
        · exact h)
      have HLB := Lib.hid (show (tabB es per k).length ≤ 100000000 by have := tabB_len HALL.out k hk; have := HNL.out; omega)
      have HLI := Lib.hid (show (idxB es per k).length ≤ 1000000 by have := idxB_len HALL.out HNL.out k hk; have := HNL.out; omega)
      have HLF := Lib.hid HFL.out.2
      have HL1 := Lib.hid (putL_length (tabB es per k).length (by have := HLB.out; omega))
      have HL2 := Lib.hid (putL_length (blkF es per k).length (by have := HLF.out; omega))
      have HP1 : Hid (∀ wz, Calls Tryz.prog 59 #[.int .i64 ((tabB es per k).length : Int)] wz (RetB wz.heap.size wz (putL (tabB es per k).length))) := Lib.hid fun wz => rput_nat _ (by have := HLB.out; omega) wz
      have HP2 : Hid (∀ wz, Calls Tryz.prog 59 #[.int .i64 ((blkF es per k).length : Int)] wz (RetB wz.heap.size wz (putL (blkF es per k).length))) := Lib.hid fun wz => rput_nat _ (by have := HLF.out; omega) wz
      generalize es.getD (q + (m - 1)) Ent.none_ = X at *
      obtain ⟨xu, xs, xk, xv⟩ := X
      simp only at HC0 HC1 HC2
      have HPK : Hid (∀ wz, Calls Tryz.prog 58 #[.agg #[.string xu, .int .i64 xs, .int .i64 xk]] wz (RetB wz.heap.size wz (keyB ⟨xu, xs, xk, xv⟩))) := Lib.hid fun wz => by
        obtain ⟨n1, n2, n3, n4, _⟩ := may_facts HXM.out
        have h := rkput_any xu xs xk (Ent.may_fits HXM.out).1 wz
        unfold putK at h
        rw [mayB_mk n1 n2 n3 n4] at h
        exact h
      have hql : (q : Int) < (es.length : Int) := by omega
      clear hone z0 z1 z2 hbw HNL HALL
      go_wp2_with (first | (go_at_call 56; (refine (HPB.out _ (HT.out.be)).mono ?_); rintro e u1 ⟨x1, rfl, ho1, hb1⟩; have HX1 := Lib.hid ho1; have HT1 := Lib.hid (HT.out.call hb1); clear ho1 hb1) | (go_at_call 57; (refine (HFR.out _ _ HX1.out.read).mono ?_); rintro e u2 ⟨x2, rfl, ho2, hb2⟩; obtain ⟨xa, xc, hx2, _, _⟩ := ho2.read.form; subst hx2; have hT := BF.start HT1.out hb2 ho2; have c0 := (hT.be.cell (p := ⟨b, off + q * 4 + (m - 1) * 4, none⟩) HBW.out).trans HC0.out; have c1 := (hT.be.cell (p := ⟨b, off + q * 4 + (m - 1) * 4 + 1, none⟩) HBW.out).trans HC1.out; have c2 := (hT.be.cell (p := ⟨b, off + q * 4 + (m - 1) * 4 + 2, none⟩) HBW.out).trans HC2.out; have HT := Lib.hid hT; clear ho2 hb2 hT) | (go_at_call 58; (refine (HPK.out _).mono ?_); rintro e u3 ⟨p3, rfl, ho3, hb3⟩; have hT := HT.out.call hb3; have c0 := (hT.be.cell (p := ⟨b, off + q * 4 + (m - 1) * 4, none⟩) HBW.out).trans HC0.out; have c1 := (hT.be.cell (p := ⟨b, off + q * 4 + (m - 1) * 4 + 1, none⟩) HBW.out).trans HC1.out; have c2 := (hT.be.cell (p := ⟨b, off + q * 4 + (m - 1) * 4 + 2, none⟩) HBW.out).trans HC2.out; have HT := Lib.hid hT; have HO := Lib.hid ho3.read; clear ho3 hb3 hT) | (go_at_call 59; (with_reducible refine (HP1.out _).mono ?_); rintro e u3 ⟨p3, rfl, ho3, hb3⟩; have hT := HT.out.call hb3; have c0 := (hT.be.cell (p := ⟨b, off + q * 4 + (m - 1) * 4, none⟩) HBW.out).trans HC0.out; have c1 := (hT.be.cell (p := ⟨b, off + q * 4 + (m - 1) * 4 + 1, none⟩) HBW.out).trans HC1.out; have c2 := (hT.be.cell (p := ⟨b, off + q * 4 + (m - 1) * 4 + 2, none⟩) HBW.out).trans HC2.out; have HT := Lib.hid hT; have HO := Lib.hid ho3.read; clear ho3 hb3 hT) | (go_at_call 59; (with_reducible refine (HP2.out _).mono ?_); rintro e u3 ⟨p3, rfl, ho3, hb3⟩; have hT := HT.out.call hb3; have c0 := (hT.be.cell (p := ⟨b, off + q * 4 + (m - 1) * 4, none⟩) HBW.out).trans HC0.out; have c1 := (hT.be.cell (p := ⟨b, off + q * 4 + (m - 1) * 4 + 1, none⟩) HBW.out).trans HC1.out; have c2 := (hT.be.cell (p := ⟨b, off + q * 4 + (m - 1) * 4 + 2, none⟩) HBW.out).trans HC2.out; have HT := Lib.hid hT; have HO := Lib.hid ho3.read; clear ho3 hb3 hT) | (at_builtin; refine wpList_plain rfl fun K' hK' => ?_; refine wp_append_at (.tmp 39) (.tmp 47) 24 rfl 5 1 1 (.int .u8 0) Tryz.underlying24 info_u8 rfl (by decide) _ _ _ _ _ _ rfl rfl HT.out.tail0 HO.out (bv_oneCell _) (by have := HLI.out; have := HLK.out; have := HL1.out; have := HL2.out; (try simp only [List.length_append]); omega) (by unfold maxLen; have := HLI.out; have := HLK.out; have := HL1.out; have := HL2.out; (try simp only [List.length_append]); omega) (fun v' w' hown hmv => hK' _ _ ?_); have hT := HT.out.more hown hmv; have c0 := (hT.be.cell (p := ⟨b, off + q * 4 + (m - 1) * 4, none⟩) HBW.out).trans HC0.out; have c1 := (hT.be.cell (p := ⟨b, off + q * 4 + (m - 1) * 4 + 1, none⟩) HBW.out).trans HC1.out; have c2 := (hT.be.cell (p := ⟨b, off + q * 4 + (m - 1) * 4 + 2, none⟩) HBW.out).trans HC2.out; have HT := Lib.hid hT; clear hown hmv hT) | (at_builtin; refine wpList_plain rfl fun K' hK' => ?_; refine wp_append_at (.tmp 49) (.tmp 52) 24 rfl 5 1 1 (.int .u8 0) Tryz.underlying24 info_u8 rfl (by decide) _ _ _ _ _ _ rfl rfl HT.out.tail0 HO.out (bv_oneCell _) (by have := HLI.out; have := HLK.out; have := HL1.out; have := HL2.out; (try simp only [List.length_append]); omega) (by unfold maxLen; have := HLI.out; have := HLK.out; have := HL1.out; have := HL2.out; (try simp only [List.length_append]); omega) (fun v' w' hown hmv => hK' _ _ ?_); have hT := HT.out.more hown hmv; have c0 := (hT.be.cell (p := ⟨b, off + q * 4 + (m - 1) * 4, none⟩) HBW.out).trans HC0.out; have c1 := (hT.be.cell (p := ⟨b, off + q * 4 + (m - 1) * 4 + 1, none⟩) HBW.out).trans HC1.out; have c2 := (hT.be.cell (p := ⟨b, off + q * 4 + (m - 1) * 4 + 2, none⟩) HBW.out).trans HC2.out; have HT := Lib.hid hT; clear hown hmv hT) | (at_builtin; refine wpList_plain rfl fun K' hK' => ?_; refine wp_append_at (.tmp 54) (.tmp 57) 24 rfl 5 1 1 (.int .u8 0) Tryz.underlying24 info_u8 rfl (by decide) _ _ _ _ _ _ rfl rfl HT.out.tail0 HO.out (bv_oneCell _) (by have := HLI.out; have := HLK.out; have := HL1.out; have := HL2.out; (try simp only [List.length_append]); omega) (by unfold maxLen; have := HLI.out; have := HLK.out; have := HL1.out; have := HL2.out; (try simp only [List.length_append]); omega) (fun v' w' hown hmv => hK' _ _ ?_); have hT := HT.out.more hown hmv; have c0 := (hT.be.cell (p := ⟨b, off + q * 4 + (m - 1) * 4, none⟩) HBW.out).trans HC0.out; have c1 := (hT.be.cell (p := ⟨b, off + q * 4 + (m - 1) * 4 + 1, none⟩) HBW.out).trans HC1.out; have c2 := (hT.be.cell (p := ⟨b, off + q * 4 + (m - 1) * 4 + 2, none⟩) HBW.out).trans HC2.out; have HT := Lib.hid hT; clear hown hmv hT) | (at_builtin; refine wpList_plain rfl fun K' hK' => ?_; refine wp_append_at (.tmp 59) (.tmp 60) 24 rfl 5 1 1 (.int .u8 0) Tryz.underlying24 info_u8 rfl (by decide) _ _ _ _ _ _ rfl rfl HT.out.own0 HT.out.third.read (bv_oneCell _) (by have := HLB.out; have := HLF.out; (try simp only [List.length_append]); omega) (by unfold maxLen; have := HLB.out; have := HLF.out; (try simp only [List.length_append]); omega) (fun v' w' hown hmv => hK' _ _ ?_); have hT := HT.out.put hown hmv; have c0 := (hT.be.cell (p := ⟨b, off + q * 4 + (m - 1) * 4, none⟩) HBW.out).trans HC0.out; have c1 := (hT.be.cell (p := ⟨b, off + q * 4 + (m - 1) * 4 + 1, none⟩) HBW.out).trans HC1.out; have c2 := (hT.be.cell (p := ⟨b, off + q * 4 + (m - 1) * 4 + 2, none⟩) HBW.out).trans HC2.out; have HT := Lib.hid hT; clear hown hmv hT))
      refine ⟨⟨k + 1, hlt, congrArg (Value.int .i64) (by rw [HQS.out]; omega), Lib.hid ?_⟩, by simp [intOf]; omega⟩
      rw [HTB.out, HIB.out]
      exact HT.out.toBT
    · have hq : ¬ k * per < es.length := fun h => hlt ((HNB.out k).2 h)
      have hkn : k = nBlk es per := by omega
      have HALL := Lib.hid (show ∀ k, k < nBlk es per → putErr (partE es per k) = 0 from fun k hk => part_err HR.out h1 h2 ((HNB.out k).1 hk))
      have HNL := Lib.hid (show nBlk es per ≤ 256 by
        rcases Nat.lt_or_ge 256 (nBlk es per) with h | h
        · have := (HNB.out 256).1 h
          have := Nat.mul_le_mul_left 256 h1
          omega
        · exact h)
      have HLB := Lib.hid (show (tabB es per k).length ≤ 100000000 by have := tabB_len HALL.out k hk; have := HNL.out; omega)
      have HLI := Lib.hid (show (idxB es per k).length ≤ 1000000 by have := idxB_len HALL.out HNL.out k hk; have := HNL.out; omega)
      have HTL : Hid (tableL es per f = tabB es per k ++ frRaw f ++ frRaw (idxB es per k) ++ fixL (((tabB es per k).length : Nat) : Int) 4 ++ fixL (((tabB es per k).length + (f.length + 8) : Nat) : Int) 4 ++ fixL ((es.length : Nat) : Int) 4 ++ [105, 99, 98, 49]) := Lib.hid (by unfold tableL; rw [hkn])
      obtain ⟨ba, bc, hba, _, _⟩ := HT.out.own.read.form
      subst hba
      obtain ⟨q, hqe⟩ : ∃ q, k * per = q := ⟨_, rfl⟩
      rw [hqe] at hq
      rw [hqe]
      have hql : ¬ (q : Int) < (es.length : Int) := by omega
      have HFF : Hid (∀ wz, RdB wz (.slice fa f.length fc) f → Calls Tryz.prog 57 #[.slice fa f.length fc] wz (RetB wz.heap.size wz (frRaw f))) := Lib.hid fun wz hx => by
        have h := rframe_any wz _ f hx (by omega)
        unfold frL at h
        rw [if_pos hfl] at h
        exact h
      have HFI : Hid (∀ x wz, RdB wz x (idxB es per k) → Calls Tryz.prog 57 #[x] wz (RetB wz.heap.size wz (frRaw (idxB es per k)))) := Lib.hid fun x wz hx => by
        have h := rframe_any wz x _ hx (by have := HLI.out; omega)
        unfold frL at h
        rw [if_pos (by have := HLI.out; omega)] at h
        exact h
      have HFX : Hid (∀ n wz, Calls Tryz.prog 60 #[.int .i64 n, .int .i64 4] wz (RetB wz.heap.size wz (fixL n 4))) := Lib.hid fun n wz => rfixed_yes n 4 (by omega) wz
      have HFL := Lib.hid hfl
      clear hq hkn hqe hlt HALL hfl
      go_wp2_with (first | (go_at_call 57; have hr := HF.out.below HT.out.be (Nat.le_refl _); (with_reducible refine (HFF.out _ hr).mono ?_); clear hr; rintro e u3 ⟨p3, rfl, ho3, hb3⟩; have hT := HT.out.call hb3; have HT := Lib.hid hT; have HO := Lib.hid ho3.read; clear ho3 hb3 hT) | (go_at_call 57; (with_reducible refine (HFI.out _ _ HT.out.tail.read).mono ?_); rintro e u3 ⟨p3, rfl, ho3, hb3⟩; have hT := HT.out.call hb3; have HT := Lib.hid hT; have HO := Lib.hid ho3.read; clear ho3 hb3 hT) | (at_builtin; refine wpList_plain rfl fun K' hK' => ?_; refine wp_append_at (.tmp 64) (.tmp 66) 24 rfl 5 1 1 (.int .u8 0) Tryz.underlying24 info_u8 rfl (by decide) _ _ _ _ _ _ rfl rfl HT.out.own0 HO.out (bv_oneCell _) (by have := HLB.out; have := HLI.out; have := HFL.out; simp only [frRaw_length]; omega) (by unfold maxLen; have := HLB.out; have := HLI.out; have := HFL.out; simp only [frRaw_length]; omega) (fun v' w' hown hmv => hK' _ _ ?_); have hT := HT.out.put hown hmv;  obtain ⟨da, dc, hda, _, _⟩ := hT.own.read.form; obtain ⟨n1, hn1⟩ : ∃ n1, (tabB es per k ++ frRaw f).length = n1 := ⟨_, rfl⟩; rw [hn1] at hda; subst hda; have HN1 := Lib.hid hn1; clear hn1; have HT := Lib.hid hT; clear hown hmv hT) | (at_builtin; refine wpList_plain rfl fun K' hK' => ?_; refine wp_append_at (.tmp 70) (.tmp 72) 24 rfl 5 1 1 (.int .u8 0) Tryz.underlying24 info_u8 rfl (by decide) _ _ _ _ _ _ rfl rfl HT.out.own0 HO.out (bv_oneCell _) (by have := HLB.out; have := HLI.out; have := HFL.out; simp only [List.length_append, frRaw_length]; omega) (by unfold maxLen; have := HLB.out; have := HLI.out; have := HFL.out; simp only [List.length_append, frRaw_length]; omega) (fun v' w' hown hmv => hK' _ _ ?_); have hT := HT.out.put hown hmv;  have HT := Lib.hid hT; clear hown hmv hT) | (go_at_call 60; (refine (HFX.out _ _).mono ?_); rintro e u3 ⟨p3, rfl, ho3, hb3⟩; have hT := HT.out.call hb3; have HT := Lib.hid hT; have HO := Lib.hid ho3.read; clear ho3 hb3 hT) | (at_builtin; refine wpList_plain rfl fun K' hK' => ?_; refine wp_append_at (.tmp 74) (.tmp 76) 24 rfl 5 1 1 (.int .u8 0) Tryz.underlying24 info_u8 rfl (by decide) _ _ _ _ _ _ rfl rfl HT.out.own0 HO.out (bv_oneCell _) (by have := HLB.out; have := HLI.out; have := HFL.out; simp only [List.length_append, frRaw_length, fixL_length]; omega) (by unfold maxLen; have := HLB.out; have := HLI.out; have := HFL.out; simp only [List.length_append, frRaw_length, fixL_length]; omega) (fun v' w' hown hmv => hK' _ _ ?_); have hT := HT.out.put hown hmv;  have HT := Lib.hid hT; clear hown hmv hT) | (at_builtin; refine wpList_plain rfl fun K' hK' => ?_; refine wp_append_at (.tmp 78) (.tmp 80) 24 rfl 5 1 1 (.int .u8 0) Tryz.underlying24 info_u8 rfl (by decide) _ _ _ _ _ _ rfl rfl HT.out.own0 HO.out (bv_oneCell _) (by have := HLB.out; have := HLI.out; have := HFL.out; simp only [List.length_append, frRaw_length, fixL_length]; omega) (by unfold maxLen; have := HLB.out; have := HLI.out; have := HFL.out; simp only [List.length_append, frRaw_length, fixL_length]; omega) (fun v' w' hown hmv => hK' _ _ ?_); have hT := HT.out.put hown hmv;  have HT := Lib.hid hT; clear hown hmv hT) | (at_builtin; refine wpList_plain rfl fun K' hK' => ?_; refine wp_append_at (.tmp 82) (.tmp 85) 24 rfl 5 1 1 (.int .u8 0) Tryz.underlying24 info_u8 rfl (by decide) _ _ _ _ _ _ rfl rfl HT.out.own0 HO.out (bv_oneCell _) (by have := HLB.out; have := HLI.out; have := HFL.out; simp only [List.length_append, frRaw_length, fixL_length]; omega) (by unfold maxLen; have := HLB.out; have := HLI.out; have := HFL.out; simp only [List.length_append, frRaw_length, fixL_length]; omega) (fun v' w' hown hmv => hK' _ _ ?_); have hT := HT.out.put hown hmv;  have HT := Lib.hid hT; clear hown hmv hT) | (at_builtin; refine wpList_append_string rfl (.tmp 87) (.const (.string ⟨#[105, 99, 98, 49]⟩)) 24 9 rfl w.heap.size 5 Tryz.underlying24 Tryz.underlying9 info_u8 _ _ _ rfl rfl HT.out.own HT.out.bl ?lx ?kx))
      case lx =>
        have := HLB.out
        have := HLI.out
        have := HFL.out
        have hs : (⟨#[105, 99, 98, 49]⟩ : ByteArray).size = 4 := rfl
        simp only [List.length_append, frRaw_length, fixL_length, hs]
        omega
      case kx =>
        intro v' w' hown' hb'
        go_wp2
        go_ret
        refine ⟨_, rfl, ?_, hb' _ _ (Nat.le_refl _) HT.out.be⟩
        have hn1 := HN1.out
        rw [List.length_append, frRaw_length] at hn1
        rw [HTL.out, hn1]
        simp only [List.append_assoc]
        exact hown'
end Go.Proofs.YteeikmpfgbfeoaaGreat

/-
  Tables: the Users of entries, each once, as the document tells them.
-/
namespace Go.Proofs.YteeikmpfgbfeoaaGreat
open Go.RowKit

/-- The Users of the first k entries, each once. -/
def usersN (es : List Ent) : Nat → List ByteArray
  | 0 => []
  | k + 1 => usersN es k ++ (if k = 0 ∨ (es.getD k Ent.none_).u ≠ (es.getD (k - 1) Ent.none_).u then [(es.getD k Ent.none_).u] else [])
def usersL (es : List Ent) : List ByteArray := usersN es es.length
theorem usersN_len (es : List Ent) : ∀ k, (usersN es k).length ≤ k
  | 0 => Nat.le_refl _
  | k + 1 => by
    unfold usersN
    rw [List.length_append]
    have := usersN_len es k
    split
    · simp; omega
    · simp; omega
theorem usersN_in (es : List Ent) : ∀ k, k ≤ es.length → ∀ s ∈ usersN es k, ∃ e ∈ es, e.u = s
  | 0, _, s, h => by cases h
  | k + 1, hk, s, h => by
    unfold usersN at h
    rcases List.mem_append.1 h with h | h
    · exact usersN_in es k (by omega) s h
    · split at h
      · rw [List.mem_singleton] at h
        refine ⟨es.getD k Ent.none_, ?_, h.symm⟩
        simp only [List.getD, List.getElem?_eq_getElem (show k < es.length by omega), Option.getD_some]
        exact List.getElem_mem _
      · cases h

theorem info_strT : (Tryz.prog.info? 9).map (fun i => (i.zero, i.size, i.bytes)) = some (some (.string ⟨#[]⟩), 1, 16) := by kernel_rfl
theorem str_oneT (l : List ByteArray) : ∀ u ∈ l.map Value.string, u.oneCell' = true := by
  intro u hu
  obtain ⟨s, _, rfl⟩ := List.mem_map.1 hu
  rfl
/-- Texts in memory of the call's own. -/
def OwnS (w : World) (B : Nat) (v : Value) (l : List ByteArray) : Prop := w.ownsRow B 9 1 v l.length (l.map Value.string)
theorem one_strT (w : World) (s : ByteArray) : Rd (w.alloc (.cells #[.string s] 9)) 1 (.slice (some ⟨w.heap.size, 0, none⟩) 1 1) 1 ([s].map Value.string) := by
  refine ⟨_, 1, rfl, Nat.le_refl _, by unfold maxLen; omega, rfl, .inr ⟨w.heap.size, 0, rfl, by simp, fun j u hj => ?_⟩⟩
  rw [Nat.zero_add, cell_of_row _ w.heap.size j _ 9 (0, 0) (heap_alloc_new w _)]
  simpa using hj

set_option maxRecDepth 100000 in
set_option maxHeartbeats 400000 in
theorem rusers_any (v : Value) (es : List Ent) (w : World) (hv : RdE w v es) (hl : es.length ≤ 100000) :
    Calls Tryz.prog 29 #[v] w fun e w' => ∃ x, e = .returned x ∧ OwnS w' w.heap.size x (usersL es) ∧ Below w.heap.size w w' := by
  have HV := Lib.hid hv
  obtain ⟨va, vc, rfl, hc1, hc2⟩ := hv.form
  unfold maxLen at hc2
  clear hv
  go_enter Tryz.func29, Tryz.ntmps29
  go_wp2
  go_loopw [3, 4] (fun u i wr => ∃ (k : Nat) (u' : Value), k ≤ es.length ∧ u' = u ∧ i = .int .i64 (k : Int) ∧ Hid (OwnS wr w.heap.size u' (usersN es k)) ∧ Hid (Below w.heap.size w wr)) (fun _ i _ => es.length - (intOf i).toNat)
  case atStart => exact ⟨0, _, Nat.zero_le _, rfl, rfl, Lib.hid (World.ownsRow_nil _ _ _ _), Lib.hid (Below.refl _ _)⟩
  case round =>
    obtain ⟨k, u, hk, rfl, rfl, HU, HB⟩ := hrel
    by_cases hlt : k < es.length
    · obtain ⟨_, _, hva, hone⟩ := HV.out.one
      cases hva
      obtain ⟨b, off, rfl, hbw, c0, _, _, _, _⟩ := hone k hlt
      have z0 := (HB.out.cell (p := ⟨b, off + k * 4, none⟩) hbw).trans c0
      have HUL := Lib.hid (usersN_len es k)
      have HUD := Lib.hid (show wr.drew.ownsRow w.heap.size 9 1 u (usersN es k).length ((usersN es k).map Value.string) from World.ownsRow.drew HU.out)
      have hkl : (k : Int) < (es.length : Int) := by omega
      have zd : wr.drew.cell? ⟨b, off + k * 4, none⟩ = some (.string (es.getD k Ent.none_).u) := z0
      by_cases hk0 : k = 0
      · have HNX : Hid (usersN es (k + 1) = usersN es k ++ [(es.getD k Ent.none_).u]) := Lib.hid (by unfold usersN; rw [if_pos (.inl hk0)]; rw [hk0]; rfl)
        generalize (es.getD k Ent.none_).u = xu at *
        have hk0b : ((k : Int) == 0) = true := by rw [hk0]; rfl
        clear c0 hone hk0
        go_upto_region 5 with (fail)
        refine wp_region_plan [(true, 0), (true, 1), (true, 2), (true, 3), (true, 4), (true, 5), (true, 6), (true, 7), (true, 8), (true, 9), (true, 10), (true, 11), (true, 12), (true, 13), (true, 14), (true, 15), (true, 16), (true, 17)] (by kernel_rfl) (by kernel_rfl) (by kernel_rfl) (by kernel_rfl) (by kernel_rfl) ?_
        simp only [planO, List.drop_succ_cons, List.drop_zero]
        refine PlanO.take (v := ?vA0) (by kernel_rfl) ?yA0 ?rA0
        case yA0 => (intro wz hz; go_simp; try with_reducible rfl)
        (try simp only [Act.put, List.setIfInBounds_toArray, List.set_cons_zero, List.set_cons_succ])
        refine PlanO.take (v := .bool true) (by kernel_rfl) ?yA1 ?rA1
        case yA1 => (intro wz hz; go_simp; try simp)
        (try simp only [Act.put, List.setIfInBounds_toArray, List.set_cons_zero, List.set_cons_succ])
        refine PlanO.take (v := ?vA2) (by kernel_rfl) ?yA2 ?rA2
        case yA2 => (intro wz hz; go_simp; try with_reducible rfl)
        (try simp only [Act.put, List.setIfInBounds_toArray, List.set_cons_zero, List.set_cons_succ])
        refine PlanO.skip (by kernel_rfl) ?_
        (try simp only [Act.put, List.setIfInBounds_toArray, List.set_cons_zero, List.set_cons_succ])
        refine PlanO.skip (by kernel_rfl) ?_
        (try simp only [Act.put, List.setIfInBounds_toArray, List.set_cons_zero, List.set_cons_succ])
        refine PlanO.skip (by kernel_rfl) ?_
        (try simp only [Act.put, List.setIfInBounds_toArray, List.set_cons_zero, List.set_cons_succ])
        refine PlanO.skip (by kernel_rfl) ?_
        (try simp only [Act.put, List.setIfInBounds_toArray, List.set_cons_zero, List.set_cons_succ])
        refine PlanO.skip (by kernel_rfl) ?_
        (try simp only [Act.put, List.setIfInBounds_toArray, List.set_cons_zero, List.set_cons_succ])
        refine PlanO.skip (by kernel_rfl) ?_
        (try simp only [Act.put, List.setIfInBounds_toArray, List.set_cons_zero, List.set_cons_succ])
        refine PlanO.skip (by kernel_rfl) ?_
        (try simp only [Act.put, List.setIfInBounds_toArray, List.set_cons_zero, List.set_cons_succ])
        refine PlanO.skip (by kernel_rfl) ?_
        (try simp only [Act.put, List.setIfInBounds_toArray, List.set_cons_zero, List.set_cons_succ])
        refine PlanO.skip (by kernel_rfl) ?_
        (try simp only [Act.put, List.setIfInBounds_toArray, List.set_cons_zero, List.set_cons_succ])
        refine PlanO.skip (by kernel_rfl) ?_
        (try simp only [Act.put, List.setIfInBounds_toArray, List.set_cons_zero, List.set_cons_succ])
        refine PlanO.skip (by kernel_rfl) ?_
        (try simp only [Act.put, List.setIfInBounds_toArray, List.set_cons_zero, List.set_cons_succ])
        refine PlanO.skip (by kernel_rfl) ?_
        (try simp only [Act.put, List.setIfInBounds_toArray, List.set_cons_zero, List.set_cons_succ])
        refine PlanO.skip (by kernel_rfl) ?_
        (try simp only [Act.put, List.setIfInBounds_toArray, List.set_cons_zero, List.set_cons_succ])
        refine PlanO.skip (by kernel_rfl) ?_
        (try simp only [Act.put, List.setIfInBounds_toArray, List.set_cons_zero, List.set_cons_succ])
        refine PlanO.take (v := .bool true) (by kernel_rfl) ?yA17 ?rA17
        case yA17 => (intro wz hz; go_simp; try simp; try omega)
        (try simp only [Act.put, List.setIfInBounds_toArray, List.set_cons_zero, List.set_cons_succ])
        refine PlanO.done (NoPanic.normal ?_)
        go_wp2_with (at_builtin; refine wpList_append_rd rfl (.tmp 29) (.tmp 36) 63 rfl w.heap.size 9 1 16 (.string ⟨#[]⟩) Tryz.underlying63 info_strT rfl (by decide) u (.slice (some ⟨wr.heap.size, 0, none⟩) 1 1) (usersN es k).length 1 ((usersN es k).map Value.string) ([xu].map Value.string) rfl rfl (World.ownsRow.alloc HUD.out _) (one_strT wr.drew xu) (str_oneT _) ?bbA ?l1A ?l2A ?kkA)
        case bbA => exact Nat.le_trans HB.out.size (by simp [World.drew])
        case l1A => have := HUL.out; omega
        case l2A => have := HUL.out; unfold maxLen; omega
        case kkA =>
          intro v' w' hown' hb'
          go_wp2
          refine ⟨⟨k + 1, v', by omega, rfl, by go_num, Lib.hid ?_, Lib.hid (hb' _ _ (Nat.le_refl _) (HB.out.drew.alloc (by simpa using HB.out.size) _))⟩, by simp [intOf]; omega⟩
          rw [HNX.out]
          unfold OwnS
          rw [List.length_append, List.map_append]
          exact hown'
      · have hk0b : ((k : Int) == 0) = false := by
          have : (k : Int) ≠ 0 := by omega
          simpa using this
        obtain ⟨_, _, hbb, _, p0, _, _, _, _⟩ := hone (k - 1) (by omega)
        cases hbb
        have z1 := (HB.out.cell (p := ⟨b, off + (k - 1) * 4, none⟩) hbw).trans p0
        by_cases hne : (es.getD k Ent.none_).u = (es.getD (k - 1) Ent.none_).u
        · have HNX : Hid (usersN es (k + 1) = usersN es k) := Lib.hid (by show usersN es k ++ _ = _; rw [if_neg (by rintro (h | h); exact hk0 h; exact h hne), List.append_nil])
          generalize (es.getD k Ent.none_).u = xu at *
          generalize (es.getD (k - 1) Ent.none_).u = pu at *
          clear c0 p0 hone
          go_upto_region 5 with (fail)
          refine wp_region_plan [(true, 0), (true, 1), (true, 2), (true, 3), (true, 4), (true, 5), (true, 6), (true, 7), (true, 8), (true, 9), (true, 10), (true, 11), (true, 12), (true, 13), (true, 14), (true, 15), (true, 16), (true, 17)] (by kernel_rfl) (by kernel_rfl) (by kernel_rfl) (by kernel_rfl) (by kernel_rfl) ?_
          simp only [planO, List.drop_succ_cons, List.drop_zero]
          refine PlanO.take (v := ?vB0) (by kernel_rfl) ?yB0 ?rB0
          case yB0 => (intro wz hz; go_simp; try with_reducible rfl)
          (try simp only [Act.put, List.setIfInBounds_toArray, List.set_cons_zero, List.set_cons_succ])
          refine PlanO.take (v := .bool false) (by kernel_rfl) ?yB1 ?rB1
          case yB1 => (intro wz hz; go_simp; (try exact hk0b))
          (try simp only [Act.put, List.setIfInBounds_toArray, List.set_cons_zero, List.set_cons_succ])
          refine PlanO.take (v := ?vB2) (by kernel_rfl) ?yB2 ?rB2
          case yB2 => (intro wz hz; go_simp; try with_reducible rfl)
          (try simp only [Act.put, List.setIfInBounds_toArray, List.set_cons_zero, List.set_cons_succ])
          refine PlanO.take (v := ?vB3) (by kernel_rfl) ?yB3 ?rB3
          case yB3 => (intro wz hz; go_simp; try with_reducible rfl)
          (try simp only [Act.put, List.setIfInBounds_toArray, List.set_cons_zero, List.set_cons_succ])
          refine PlanO.take (v := ?vB4) (by kernel_rfl) ?yB4 ?rB4
          case yB4 => (intro wz hz; go_simp; try with_reducible rfl)
          (try simp only [Act.put, List.setIfInBounds_toArray, List.set_cons_zero, List.set_cons_succ])
          refine PlanO.take (v := .pointer (some ⟨b, off + k * 4, none⟩)) (by kernel_rfl) ?yB5 ?rB5
          case yB5 => (intro wz hz; go_simp; try (intro hkc; omega))
          (try simp only [Act.put, List.setIfInBounds_toArray, List.set_cons_zero, List.set_cons_succ])
          refine PlanO.take (v := .pointer (some ⟨b, off + k * 4, none⟩)) (by kernel_rfl) ?yB6 ?rB6
          case yB6 => (intro wz hz; go_simp; try with_reducible rfl)
          (try simp only [Act.put, List.setIfInBounds_toArray, List.set_cons_zero, List.set_cons_succ])
          refine PlanO.take (v := .pointer (some ⟨b, off + k * 4, none⟩)) (by kernel_rfl) ?yB7 ?rB7
          case yB7 => (intro wz hz; go_simp; try with_reducible rfl)
          (try simp only [Act.put, List.setIfInBounds_toArray, List.set_cons_zero, List.set_cons_succ])
          refine PlanO.take (v := .string xu) (by kernel_rfl) ?yB8 ?rB8
          case yB8 => (intro wz hz; have c0 := Ext.at_ hz z0; go_simp; try with_reducible rfl)
          (try simp only [Act.put, List.setIfInBounds_toArray, List.set_cons_zero, List.set_cons_succ])
          refine PlanO.take (v := ?vB9) (by kernel_rfl) ?yB9 ?rB9
          case yB9 => (intro wz hz; go_simp; try with_reducible rfl)
          (try simp only [Act.put, List.setIfInBounds_toArray, List.set_cons_zero, List.set_cons_succ])
          refine PlanO.take (v := ?vB10) (by kernel_rfl) ?yB10 ?rB10
          case yB10 => (intro wz hz; go_simp; try with_reducible rfl)
          (try simp only [Act.put, List.setIfInBounds_toArray, List.set_cons_zero, List.set_cons_succ])
          refine PlanO.take (v := .int .i64 ((k - 1 : Nat) : Int)) (by kernel_rfl) ?yB11 ?rB11
          case yB11 => (intro wz hz; go_simp; rw [IntWalk.i64_in _ (by omega)]; omega)
          (try simp only [Act.put, List.setIfInBounds_toArray, List.set_cons_zero, List.set_cons_succ])
          refine PlanO.take (v := .pointer (some ⟨b, off + (k - 1) * 4, none⟩)) (by kernel_rfl) ?yB12 ?rB12
          case yB12 => (intro wz hz; have hkb : ((k - 1 : Nat) : Int) < (es.length : Int) := (by omega); go_simp; try (intro hkc; omega))
          (try simp only [Act.put, List.setIfInBounds_toArray, List.set_cons_zero, List.set_cons_succ])
          refine PlanO.take (v := .pointer (some ⟨b, off + (k - 1) * 4, none⟩)) (by kernel_rfl) ?yB13 ?rB13
          case yB13 => (intro wz hz; go_simp; try with_reducible rfl)
          (try simp only [Act.put, List.setIfInBounds_toArray, List.set_cons_zero, List.set_cons_succ])
          refine PlanO.take (v := .pointer (some ⟨b, off + (k - 1) * 4, none⟩)) (by kernel_rfl) ?yB14 ?rB14
          case yB14 => (intro wz hz; go_simp; try with_reducible rfl)
          (try simp only [Act.put, List.setIfInBounds_toArray, List.set_cons_zero, List.set_cons_succ])
          refine PlanO.take (v := .string pu) (by kernel_rfl) ?yB15 ?rB15
          case yB15 => (intro wz hz; have c1 := Ext.at_ hz z1; go_simp; try with_reducible rfl)
          (try simp only [Act.put, List.setIfInBounds_toArray, List.set_cons_zero, List.set_cons_succ])
          refine PlanO.take (v := .bool false) (by kernel_rfl) ?yB16 ?rB16
          case yB16 => (intro wz hz; go_simp; (try simp [hne]))
          (try simp only [Act.put, List.setIfInBounds_toArray, List.set_cons_zero, List.set_cons_succ])
          refine PlanO.take (v := .bool false) (by kernel_rfl) ?yB17 ?rB17
          case yB17 => (intro wz hz; go_simp; try simp; try omega)
          (try simp only [Act.put, List.setIfInBounds_toArray, List.set_cons_zero, List.set_cons_succ])
          refine PlanO.done (NoPanic.normal ?_)
          go_wp2
          exact ⟨⟨k + 1, u, by omega, rfl, by go_num, Lib.hid (by rw [HNX.out]; exact HUD.out), Lib.hid HB.out.drew⟩, by simp [intOf]; omega⟩
        · have HNX : Hid (usersN es (k + 1) = usersN es k ++ [(es.getD k Ent.none_).u]) := Lib.hid (by show usersN es k ++ _ = _; rw [if_pos (.inr hne)])
          generalize (es.getD k Ent.none_).u = xu at *
          generalize (es.getD (k - 1) Ent.none_).u = pu at *
          clear c0 p0 hone
          go_upto_region 5 with (fail)
          refine wp_region_plan [(true, 0), (true, 1), (true, 2), (true, 3), (true, 4), (true, 5), (true, 6), (true, 7), (true, 8), (true, 9), (true, 10), (true, 11), (true, 12), (true, 13), (true, 14), (true, 15), (true, 16), (true, 17)] (by kernel_rfl) (by kernel_rfl) (by kernel_rfl) (by kernel_rfl) (by kernel_rfl) ?_
          simp only [planO, List.drop_succ_cons, List.drop_zero]
          refine PlanO.take (v := ?vC0) (by kernel_rfl) ?yC0 ?rC0
          case yC0 => (intro wz hz; go_simp; try with_reducible rfl)
          (try simp only [Act.put, List.setIfInBounds_toArray, List.set_cons_zero, List.set_cons_succ])
          refine PlanO.take (v := .bool false) (by kernel_rfl) ?yC1 ?rC1
          case yC1 => (intro wz hz; go_simp; (try exact hk0b))
          (try simp only [Act.put, List.setIfInBounds_toArray, List.set_cons_zero, List.set_cons_succ])
          refine PlanO.take (v := ?vC2) (by kernel_rfl) ?yC2 ?rC2
          case yC2 => (intro wz hz; go_simp; try with_reducible rfl)
          (try simp only [Act.put, List.setIfInBounds_toArray, List.set_cons_zero, List.set_cons_succ])
          refine PlanO.take (v := ?vC3) (by kernel_rfl) ?yC3 ?rC3
          case yC3 => (intro wz hz; go_simp; try with_reducible rfl)
          (try simp only [Act.put, List.setIfInBounds_toArray, List.set_cons_zero, List.set_cons_succ])
          refine PlanO.take (v := ?vC4) (by kernel_rfl) ?yC4 ?rC4
          case yC4 => (intro wz hz; go_simp; try with_reducible rfl)
          (try simp only [Act.put, List.setIfInBounds_toArray, List.set_cons_zero, List.set_cons_succ])
          refine PlanO.take (v := .pointer (some ⟨b, off + k * 4, none⟩)) (by kernel_rfl) ?yC5 ?rC5
          case yC5 => (intro wz hz; go_simp; try (intro hkc; omega))
          (try simp only [Act.put, List.setIfInBounds_toArray, List.set_cons_zero, List.set_cons_succ])
          refine PlanO.take (v := .pointer (some ⟨b, off + k * 4, none⟩)) (by kernel_rfl) ?yC6 ?rC6
          case yC6 => (intro wz hz; go_simp; try with_reducible rfl)
          (try simp only [Act.put, List.setIfInBounds_toArray, List.set_cons_zero, List.set_cons_succ])
          refine PlanO.take (v := .pointer (some ⟨b, off + k * 4, none⟩)) (by kernel_rfl) ?yC7 ?rC7
          case yC7 => (intro wz hz; go_simp; try with_reducible rfl)
          (try simp only [Act.put, List.setIfInBounds_toArray, List.set_cons_zero, List.set_cons_succ])
          refine PlanO.take (v := .string xu) (by kernel_rfl) ?yC8 ?rC8
          case yC8 => (intro wz hz; have c0 := Ext.at_ hz z0; go_simp; try with_reducible rfl)
          (try simp only [Act.put, List.setIfInBounds_toArray, List.set_cons_zero, List.set_cons_succ])
          refine PlanO.take (v := ?vC9) (by kernel_rfl) ?yC9 ?rC9
          case yC9 => (intro wz hz; go_simp; try with_reducible rfl)
          (try simp only [Act.put, List.setIfInBounds_toArray, List.set_cons_zero, List.set_cons_succ])
          refine PlanO.take (v := ?vC10) (by kernel_rfl) ?yC10 ?rC10
          case yC10 => (intro wz hz; go_simp; try with_reducible rfl)
          (try simp only [Act.put, List.setIfInBounds_toArray, List.set_cons_zero, List.set_cons_succ])
          refine PlanO.take (v := .int .i64 ((k - 1 : Nat) : Int)) (by kernel_rfl) ?yC11 ?rC11
          case yC11 => (intro wz hz; go_simp; rw [IntWalk.i64_in _ (by omega)]; omega)
          (try simp only [Act.put, List.setIfInBounds_toArray, List.set_cons_zero, List.set_cons_succ])
          refine PlanO.take (v := .pointer (some ⟨b, off + (k - 1) * 4, none⟩)) (by kernel_rfl) ?yC12 ?rC12
          case yC12 => (intro wz hz; have hkb : ((k - 1 : Nat) : Int) < (es.length : Int) := (by omega); go_simp; try (intro hkc; omega))
          (try simp only [Act.put, List.setIfInBounds_toArray, List.set_cons_zero, List.set_cons_succ])
          refine PlanO.take (v := .pointer (some ⟨b, off + (k - 1) * 4, none⟩)) (by kernel_rfl) ?yC13 ?rC13
          case yC13 => (intro wz hz; go_simp; try with_reducible rfl)
          (try simp only [Act.put, List.setIfInBounds_toArray, List.set_cons_zero, List.set_cons_succ])
          refine PlanO.take (v := .pointer (some ⟨b, off + (k - 1) * 4, none⟩)) (by kernel_rfl) ?yC14 ?rC14
          case yC14 => (intro wz hz; go_simp; try with_reducible rfl)
          (try simp only [Act.put, List.setIfInBounds_toArray, List.set_cons_zero, List.set_cons_succ])
          refine PlanO.take (v := .string pu) (by kernel_rfl) ?yC15 ?rC15
          case yC15 => (intro wz hz; have c1 := Ext.at_ hz z1; go_simp; try with_reducible rfl)
          (try simp only [Act.put, List.setIfInBounds_toArray, List.set_cons_zero, List.set_cons_succ])
          refine PlanO.take (v := .bool true) (by kernel_rfl) ?yC16 ?rC16
          case yC16 => (intro wz hz; go_simp; (try simp); (try (rw [toList_data, toList_data]; exact fun e => hne (ByteArray.ext (Array.toList_inj.1 e)))))
          (try simp only [Act.put, List.setIfInBounds_toArray, List.set_cons_zero, List.set_cons_succ])
          refine PlanO.take (v := .bool true) (by kernel_rfl) ?yC17 ?rC17
          case yC17 => (intro wz hz; go_simp; try simp; try omega)
          (try simp only [Act.put, List.setIfInBounds_toArray, List.set_cons_zero, List.set_cons_succ])
          refine PlanO.done (NoPanic.normal ?_)
          go_wp2_with (at_builtin; refine wpList_append_rd rfl (.tmp 29) (.tmp 36) 63 rfl w.heap.size 9 1 16 (.string ⟨#[]⟩) Tryz.underlying63 info_strT rfl (by decide) u (.slice (some ⟨wr.heap.size, 0, none⟩) 1 1) (usersN es k).length 1 ((usersN es k).map Value.string) ([xu].map Value.string) rfl rfl (World.ownsRow.alloc HUD.out _) (one_strT wr.drew xu) (str_oneT _) ?bbC ?l1C ?l2C ?kkC)
          case bbC => exact Nat.le_trans HB.out.size (by simp [World.drew])
          case l1C => have := HUL.out; omega
          case l2C => have := HUL.out; unfold maxLen; omega
          case kkC =>
            intro v' w' hown' hb'
            go_wp2
            refine ⟨⟨k + 1, v', by omega, rfl, by go_num, Lib.hid ?_, Lib.hid (hb' _ _ (Nat.le_refl _) (HB.out.drew.alloc (by simpa using HB.out.size) _))⟩, by simp [intOf]; omega⟩
            rw [HNX.out]
            unfold OwnS
            rw [List.length_append, List.map_append]
            exact hown'
    · have hke : k = es.length := by omega
      have HEND := Lib.hid (show OwnS wr w.heap.size u (usersL es) by unfold usersL; rw [← hke]; exact HU.out)
      clear hke
      go_wp2
      go_ret
      exact ⟨_, rfl, HEND.out, HB.out⟩
end Go.Proofs.YteeikmpfgbfeoaaGreat
