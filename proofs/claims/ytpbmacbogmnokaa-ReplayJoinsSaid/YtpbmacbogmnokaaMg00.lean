import Derived.Test.YtpbmacbogmnokaaFrameMath
import Derived.Test.YtpbmacbogmnokaaFrameLib
import Derived.Test.YtpbmacbogmnokaaFixedOut
import Derived.Test.YtpbmacbogmnokaaSum
import Derived.OwnWalk
import Derived.Test.YtpbmacbogmnokaaRepMath
import Derived.Test.YtpbmacbogmnokaaBatchGet
import Derived.Deep.Cut
import Derived.Test.YtpbmacbogmnokaaRegion
import Derived.Deep.QuietTactic
import Derived.BigQuiet

/-
  What frame.Put and frame.Get do, for all that they are given.
-/
namespace Go.Proofs.Ytpbmacbogmnokaa
open Go.RowKit

theorem rdB_form' {w : World} {v : Value} {l : List UInt8} (h : RdB w v l) : ∃ a cap, v = .slice a l.length cap := let ⟨a, cap, h, _⟩ := h.form; ⟨a, cap, h⟩

/-- A slice of three slices that was built. -/
theorem rdLL_three {w : World} {B : Nat} {c1 c2 c3 : Value} {l1 l2 l3 : List UInt8} {e : Nat} (h : w.heap[B]? = some (.cells #[c1, c2, c3] e (0, 0))) (h1 : RdB w c1 l1) (h2 : RdB w c2 l2) (h3 : RdB w c3 l3) :
    RdLL w (.slice (some ⟨B, 0, none⟩) 3 3) [l1, l2, l3] := by
  refine ⟨[c1, c2, c3], ⟨_, _, rfl, Nat.le_refl _, by unfold maxLen; simp, rfl, .inr ⟨B, 0, rfl, blk_lt h, fun j u hj => ?_⟩⟩, fun i c l hc hl => ?_⟩
  · rw [Nat.zero_add, blk_cell h]
    simpa using hj
  · match i, hc, hl with
    | 0, hc, hl => simp at hc hl; subst hc hl; exact h1
    | 1, hc, hl => simp at hc hl; subst hc hl; exact h2
    | 2, hc, hl => simp at hc hl; subst hc hl; exact h3
    | i + 3, hc, hl => simp at hc

set_option maxRecDepth 100000 in
set_option maxHeartbeats 1000000 in
theorem fput_any (w : World) (v : Value) (l : List UInt8) (h : RdB w v l) (hn : l.length < 1000000000000) :
    Calls Try.prog 23 #[v] w (RetB w.heap.size w (frL l)) := by
  obtain ⟨a, cap, rfl, hc1, hc2⟩ := h.form
  unfold maxLen at hc2
  by_cases hm : l.length ≤ 1048576
  · have g1 : ¬ (1048576 : Int) < (l.length : Int) := by omega
    have e1 : frL l = [fixL (l.length : Int) 4, fixL (sumL l : Int) 4, l].flatten := by
      unfold frL
      rw [if_pos hm]
      simp [frRaw]
    have HV := Lib.hid h
    rw [e1]
    clear e1
    have hs : sumLen [fixL (l.length : Int) 4, fixL (sumL l : Int) 4, l] < 1000000000000 := by
      simp [sumLen, fixL_length]
      omega
    have HS := Lib.hid hs
    clear h hs
    obtain ⟨fl, hfl⟩ : ∃ fl, fl = [fixL (l.length : Int) 4, fixL (sumL l : Int) 4, l].flatten := ⟨_, rfl⟩
    rw [← hfl]
    have HFL := Lib.hid hfl
    clear hfl
    go_enter Try.func23, Try.ntmps23
    go_wp2_with fail
    refine (fixed_yes (l.length : Int) 4 (by omega) _).mono ?_
    rintro e w1 ⟨u1, rfl, hu1, hb1⟩
    obtain ⟨a1, k1, rfl⟩ := rdB_form' hu1.read
    rw [fixL_length] at *
    have HV1 := Lib.hid (HV.out.below hb1 (Nat.le_refl _))
    have HU1 := Lib.hid hu1
    have HB1 := Lib.hid hb1
    clear hu1 hb1
    go_wp2_with fail
    refine (sum_any _ l _ HV1.out).mono ?_
    rintro e w2 ⟨rfl, rfl⟩
    go_wp2_with fail
    refine (fixed_yes (sumL l : Int) 4 (by omega) _).mono ?_
    rintro e w3 ⟨u3, rfl, hu3, hb3⟩
    obtain ⟨a3, k3, rfl⟩ := rdB_form' hu3.read
    rw [fixL_length] at *
    have HV3 := Lib.hid (HV1.out.below hb3 (Nat.le_refl _))
    have HU13 := Lib.hid (HU1.out.below hb3 (Nat.le_refl _))
    have HU3 := Lib.hid hu3
    have HB3 := Lib.hid (HB1.out.trans (hb3.mono HB1.out.size))
    clear hu3 hb3
    go_wp2_with fail
    obtain ⟨o3, ho3⟩ : ∃ o3, o3 = Obj.cells #[.slice a1 4 k1, .slice a3 4 k3, .slice a l.length cap] 27 := ⟨_, rfl⟩
    rw [← ho3]
    have hal : Below w.heap.size w (w3.alloc o3) := HB3.out.alloc HB3.out.size _
    have hal3 : Below w3.heap.size w3 (w3.alloc o3) := (Below.refl _ _).alloc (Nat.le_refl _) _
    have hrd := rdLL_three (w := w3.alloc o3) (B := w3.heap.size) (e := 27) (by rw [← ho3]; exact heap_alloc_new w3 o3) (HU13.out.read.below hal3 (Nat.le_refl _)) (HU3.out.read.below hal3 (Nat.le_refl _)) (HV3.out.below hal3 (Nat.le_refl _))
    refine (concat_any _ _ _ hrd (by simp) HS.out).mono ?_
    rintro e w4 ⟨u4, rfl, hu4, hb4⟩
    go_wp2_with fail
    go_ret
    rw [HFL.out]
    exact ⟨_, rfl, own_base hu4 fun k hk => Nat.le_trans hal.size (World.ownsRow.lt hu4 k hk).1, hal.trans (hb4.mono hal.size)⟩
  · have g1 : (1048576 : Int) < (l.length : Int) := by omega
    have e1 : frL l = [] := by unfold frL; rw [if_neg hm]
    rw [e1]
    clear h e1
    go_enter Try.func23, Try.ntmps23
    go_wp2
    go_ret
    exact ⟨_, rfl, OwnB.nil _ _ _, Below.refl _ _⟩

/-- What Get tells of a place: nothing, or what the record there holds, and where it ends. -/
def GetFr (w : World) (l : List UInt8) (at_ : Int) (e : Ending) (w' : World) : Prop :=
  ((∀ p : Nat, at_ = p → frOk l p = false) ∧ e = .returned (.tuple #[.slice none 0 0, .int .i64 0, .bool false]) ∧ Below w.heap.size w w') ∨
  (∃ p : Nat, at_ = p ∧ frOk l p = true ∧ ∃ u, e = .returned (.tuple #[u, .int .i64 ((p + 8 + frN l p : Nat) : Int), .bool true]) ∧ OwnB w' w.heap.size 5 u (frP l p) ∧ Below w.heap.size w w')

theorem frN_lt (l : List UInt8) (p : Nat) : frN l p < 4294967296 := by
  have h := valL_lt ((l.drop p).take 4)
  have h2 : ((l.drop p).take 4).length ≤ 4 := by rw [List.length_take]; omega
  have h3 : 256 ^ ((l.drop p).take 4).length ≤ 256 ^ 4 := Nat.pow_le_pow_right (by omega) h2
  unfold frN
  omega

theorem frOk_far {l : List UInt8} {p : Nat} (h : l.length < p + 8 + frN l p) : frOk l p = false := by
  unfold frOk
  rw [decide_eq_false (by omega)]
  rfl

theorem frOk_big {l : List UInt8} {p : Nat} (h : 1048576 < frN l p) : frOk l p = false := by
  unfold frOk
  rw [decide_eq_false (p := frN l p ≤ 1048576) (by omega)]
  simp

theorem frOk_sum {l : List UInt8} {p : Nat} (h : ¬ sumL (frP l p) = valL ((l.drop (p + 4)).take 4)) : frOk l p = false := by
  unfold frOk
  rw [decide_eq_false h]
  simp

theorem frOk_mk {l : List UInt8} {p : Nat} (h1 : p + 8 + frN l p ≤ l.length) (h2 : frN l p ≤ 1048576) (h3 : sumL (frP l p) = valL ((l.drop (p + 4)).take 4)) : frOk l p = true := by
  unfold frOk
  rw [decide_eq_true h1, decide_eq_true h2, decide_eq_true h3]
  rfl

theorem rdB_empty (w : World) (a : Option Addr) (c : Nat) (hc : c ≤ maxLen) (ha : a = none → c = 0) : RdB w (.slice a 0 c) [] := ⟨a, c, rfl, Nat.zero_le _, hc, rfl, .inl ⟨rfl, ha⟩⟩

set_option maxRecDepth 100000 in
set_option maxHeartbeats 2000000 in
theorem fget_any (w : World) (v : Value) (l : List UInt8) (at_ : Int) (h : RdB w v l) (hn : l.length < 1000000000000) (ha : -9223372036854775808 ≤ at_ ∧ at_ ≤ 9223372036854775807) :
    Calls Try.prog 29 #[v, .int .i64 at_] w (GetFr w l at_) := by
  obtain ⟨a, cap, rfl, hc1, hc2⟩ := h.form
  unfold maxLen at hc2
  have HV := Lib.hid h
  by_cases h1 : at_ < 0 ∨ (l.length : Int) - 4 < at_
  · have HG := Lib.hid (getFixed_out _ l at_ 4 (by omega) (by omega) w h)
    have HN : Hid (∀ p : Nat, at_ = p → frOk l p = false) := Lib.hid fun p hp => frOk_far (by omega)
    clear h1 h
    go_enter Try.func29, Try.ntmps29
    go_wp2_with (go_at_call 46; refine HG.out.mono ?_; rintro e w1 ⟨rfl, rfl⟩)
    go_ret3
    exact .inl ⟨HN.out, rfl, Below.refl _ _⟩
  obtain ⟨p, rfl⟩ : ∃ p : Nat, at_ = p := ⟨at_.toNat, by omega⟩
  have hp4 : p + 4 ≤ l.length := by omega
  have HG := Lib.hid (getFixed_yes _ l p 4 (by omega) hp4 w h)
  have hlt := frN_lt l p
  have hfn : valL ((l.drop p).take 4) = frN l p := rfl
  rw [hfn] at HG
  by_cases h2 : 1048576 < frN l p ∨ l.length < p + 8 + frN l p
  · have HN : Hid (frOk l p = false) := Lib.hid (h2.elim (fun h => frOk_big h) fun h => frOk_far h)
    have HN' : Hid (∀ q : Nat, ((p : Int) = (q : Int)) → frOk l q = false) := Lib.hid fun q hq => by
      have : q = p := by omega
      rw [this]; exact HN.out
    clear h hfn h1
    generalize frN l p = n at *
    have g : (1048576 : Int) < (n : Int) ∨ ((n : Int) ≤ 1048576 ∧ (l.length : Int) - (p : Int) - 8 < (n : Int)) := by omega
    clear h2
    rcases g with g | ⟨g1, g2⟩
    all_goals
      go_enter Try.func29, Try.ntmps29
      go_wp2_with (go_at_call 46; refine HG.out.mono ?_; rintro e w1 ⟨rfl, rfl⟩)
      go_ret3
      exact .inl ⟨HN'.out, rfl, Below.refl _ _⟩
  have h3 : frN l p ≤ 1048576 := by omega
  have h4 : p + 8 + frN l p ≤ l.length := by omega
  obtain ⟨b, off, cap', hv', _, _, _, _⟩ := h.cells (by intro e; subst e; simp at h4)
  cases hv'
  have hadd : (⟨b, off, none⟩ : Addr).add (p + 8) = ⟨b, off + (p + 8), none⟩ := by unfold Addr.add; split <;> simp_all
  have HG2 := Lib.hid (getFixed_yes _ l (p + 4) 4 (by omega) (by omega) w h)
  have HSUB := Lib.hid (sub_rd h (p + 8) (frN l p) (by omega) (by omega))
  rw [Option.map_some, hadd] at HSUB
  clear hadd
  have HP := Lib.hid (frP_length h4)
  have hck : ((valL ((l.drop (p + 4)).take 4) : Nat) : Int) < 4294967296 := by
    have := frN_lt l (p + 4)
    unfold frN at this
    omega
  have hpe : ((p + 4 : Nat) : Int) = (p : Int) + 4 := by omega
  rw [hpe] at HG2
  rw [show ((4 : Nat) : Int) = 4 from rfl] at HG HG2
  have hn1 : ((p : Int) + 8 + (frN l p : Int)).toNat = p + 8 + frN l p := by omega
  have hn2 : p + 8 + frN l p - (p + 8) = frN l p := by omega
  have hret : ((p : Int) + 8 + (frN l p : Int)) = ((p + 8 + frN l p : Nat) : Int) := by omega
  have HRET := Lib.hid hret
  have hps : ((p : Int) + 8).toNat = p + 8 := by omega
  have HOK : Hid (sumL (frP l p) = valL ((l.drop (p + 4)).take 4) → frOk l p = true) := Lib.hid fun h => frOk_mk h4 h3 h
  have HNO : Hid (¬ sumL (frP l p) = valL ((l.drop (p + 4)).take 4) → frOk l p = false) := Lib.hid fun h => frOk_sum h
  have hX : (l.drop (p + 8)).take (frN l p) = frP l p := rfl
  rw [hX] at HSUB
  clear h hfn h1 h2 hpe hret hX
  generalize hfe : frP l p = f at *
  generalize valL ((l.drop (p + 4)).take 4) = ck at *
  generalize hne : frN l p = n at *
  have HFE := Lib.hid hfe
  have HNE := Lib.hid hne
  clear hfe hne
  have g1 : ¬ (1048576 : Int) < (n : Int) := by omega
  have g2 : ¬ (l.length : Int) - (p : Int) - 8 < (n : Int) := by omega
  obtain ⟨sv, hsv⟩ : ∃ sv, sv = (if cap = p + 8 then Value.slice (some ⟨b, off, none⟩) n 0 else .slice (some ⟨b, off + (p + 8), none⟩) n (cap - (p + 8))) := ⟨_, rfl⟩
  have HR : Hid (RdB w sv f) := Lib.hid (by
    rw [hsv]
    split
    · rename_i hcp
      have hn0 : n = 0 := by omega
      have hf0 : f = [] := List.eq_nil_of_length_eq_zero (by rw [HP.out, hn0])
      rw [hf0, hn0]
      exact rdB_empty _ _ _ (Nat.zero_le _) fun h => by cases h
    · unfold RdB
      rw [HP.out]
      exact HSUB.out)
  have hsum : (sumL f : Int) < 4294967296 := by have := sumL_lt f; omega
  clear hsum hck hlt
  by_cases hcp : cap = p + 8
  · rw [if_pos hcp] at hsv
    subst hsv
    subst hcp
    by_cases hs : sumL f = ck
    · have HOK' := Lib.hid (HOK.out hs)
      have HCL := Lib.hid (bclone_any w _ f HR.out (by have := HP.out; omega))
      have HSM := Lib.hid (sum_any _ f w HR.out)
      have hsi : ((sumL f : Int) != (ck : Int)) = false := by rw [hs]; simp
      clear hs
      go_enter Try.func29, Try.ntmps29
      go_wp2_with (first | (go_at_call 46; first | ((with_reducible refine HG.out.mono ?_); rintro e w1 ⟨rfl, rfl⟩) | ((with_reducible refine HG2.out.mono ?_); rintro e w1 ⟨rfl, rfl⟩)) | (go_at_call 41; (with_reducible refine HSM.out.mono ?_); rintro e w1 ⟨rfl, rfl⟩) | (go_at_call 47; (with_reducible refine HCL.out.mono ?_); rintro e w1 ⟨u, rfl, hu, hb⟩; have HU := Lib.hid hu; have HB := Lib.hid hb; clear hu hb))
      go_ret3
      refine .inr ⟨p, rfl, HOK'.out, u, ?_, ?_, HB.out⟩
      · rw [HNE.out, ← HRET.out]
        rfl
      · rw [HFE.out]
        exact HU.out
    · have HNO' : Hid (∀ q : Nat, ((p : Int) = (q : Int)) → frOk l q = false) := Lib.hid fun q hq => by
        have : q = p := by omega
        rw [this]; exact HNO.out hs
      have HSM := Lib.hid (sum_any _ f w HR.out)
      have hsb : ((sumL f : Int) != (ck : Int)) = true := by simp; omega
      clear hs
      go_enter Try.func29, Try.ntmps29
      go_wp2_with (first | (go_at_call 46; first | ((with_reducible refine HG.out.mono ?_); rintro e w1 ⟨rfl, rfl⟩) | ((with_reducible refine HG2.out.mono ?_); rintro e w1 ⟨rfl, rfl⟩)) | (go_at_call 41; (with_reducible refine HSM.out.mono ?_); rintro e w1 ⟨rfl, rfl⟩))
      go_ret3
      exact .inl ⟨HNO'.out, rfl, Below.refl _ _⟩
  · rw [if_neg hcp] at hsv
    subst hsv
    by_cases hs : sumL f = ck
    · have HOK' := Lib.hid (HOK.out hs)
      have HCL := Lib.hid (bclone_any w _ f HR.out (by have := HP.out; omega))
      have HSM := Lib.hid (sum_any _ f w HR.out)
      have hsi : ((sumL f : Int) != (ck : Int)) = false := by rw [hs]; simp
      clear hs
      go_enter Try.func29, Try.ntmps29
      go_wp2_with (first | (go_at_call 46; first | ((with_reducible refine HG.out.mono ?_); rintro e w1 ⟨rfl, rfl⟩) | ((with_reducible refine HG2.out.mono ?_); rintro e w1 ⟨rfl, rfl⟩)) | (go_at_call 41; (with_reducible refine HSM.out.mono ?_); rintro e w1 ⟨rfl, rfl⟩) | (go_at_call 47; (with_reducible refine HCL.out.mono ?_); rintro e w1 ⟨u, rfl, hu, hb⟩; have HU := Lib.hid hu; have HB := Lib.hid hb; clear hu hb))
      go_ret3
      refine .inr ⟨p, rfl, HOK'.out, u, ?_, ?_, HB.out⟩
      · rw [HNE.out, ← HRET.out]
        rfl
      · rw [HFE.out]
        exact HU.out
    · have HNO' : Hid (∀ q : Nat, ((p : Int) = (q : Int)) → frOk l q = false) := Lib.hid fun q hq => by
        have : q = p := by omega
        rw [this]; exact HNO.out hs
      have HSM := Lib.hid (sum_any _ f w HR.out)
      have hsb : ((sumL f : Int) != (ck : Int)) = true := by simp; omega
      clear hs
      go_enter Try.func29, Try.ntmps29
      go_wp2_with (first | (go_at_call 46; first | ((with_reducible refine HG.out.mono ?_); rintro e w1 ⟨rfl, rfl⟩) | ((with_reducible refine HG2.out.mono ?_); rintro e w1 ⟨rfl, rfl⟩)) | (go_at_call 41; (with_reducible refine HSM.out.mono ?_); rintro e w1 ⟨rfl, rfl⟩))
      go_ret3
      exact .inl ⟨HNO'.out, rfl, Below.refl _ _⟩
end Go.Proofs.Ytpbmacbogmnokaa

/-
  What replay.Put, replay.get and replay.follows do, for all that they are given.
-/
namespace Go.Proofs.Ytpbmacbogmnokaa
open Go.RowKit

set_option maxRecDepth 100000 in
set_option maxHeartbeats 2000000 in
theorem rpput_any (s : Int) (v : Value) (l : List Ope) (w : World) (hv : RdO w v l) (hn : l.length ≤ 100000) :
    Calls Try.prog 12 #[batV s v] w (RetB w.heap.size w (recB ⟨s, l⟩)) := by
  obtain ⟨a, cap, rfl, hc1, hc2⟩ := hv.form
  obtain ⟨wB, hwB⟩ : ∃ wB, wB = w.alloc (.cells #[.int .i64 s, .slice a l.length cap] 24) := ⟨_, rfl⟩
  have e0 : wB.cell? ⟨w.heap.size, 0, none⟩ = some (.int .i64 s) := by rw [hwB]; go_simp
  have e1 : wB.cell? ⟨w.heap.size, 1, none⟩ = some (.slice a l.length cap) := by rw [hwB]; go_simp
  have hB : Below w.heap.size w wB := by rw [hwB]; exact (Below.refl _ _).alloc (Nat.le_refl _) _
  have hput := bput_any s (.slice a l.length cap) l wB (hv.below hB (Nat.le_refl _)) hn
  have HWB := Lib.hid hwB
  have HB := Lib.hid hB
  have HP := Lib.hid hput
  clear hB hv hwB hput
  cases hm : mayBt s l with
  | false =>
    have HR : Hid (recB ⟨s, l⟩ = []) := Lib.hid (recB_not hm)
    have HQ : Hid (putBat s l = []) := Lib.hid (by unfold putBat; rw [hm]; rfl)
    clear hm
    rw [HQ.out] at HP
    go_enter Try.func12, Try.ntmps12
    go_wp2_with (go_at_call 22; rw [← HWB.out]; refine HP.out.mono ?_; rintro e w1 ⟨v1, rfl, ho1, hb1⟩; obtain ⟨a1, c1, rfl, _, _⟩ := ho1.read.form; have HB1 := Lib.hid hb1; clear ho1 hb1)
    go_ret
    exact ⟨_, rfl, by rw [HR.out]; exact OwnB.nil _ _ _, HB.out.trans (HB1.out.mono HB.out.size)⟩
  | true =>
    have hlen := putBat_len hm
    have HR : Hid (recB ⟨s, l⟩ = frL (putBat s l)) := Lib.hid (by unfold recB; simp only; rw [if_pos hm])
    clear hm
    generalize putBat s l = p at HP HR hlen
    obtain ⟨hl1, hl2⟩ := hlen
    have HL : Hid (p.length < 1000000000000) := Lib.hid (by omega)
    have g1 : ((p.length : Int) == 0) = false := by rw [beq_eq_false_iff_ne]; omega
    go_enter Try.func12, Try.ntmps12
    go_wp2_with (first | (go_at_call 22; rw [← HWB.out]; refine HP.out.mono ?_; rintro e w1 ⟨v1, rfl, ho1, hb1⟩; obtain ⟨a1, c1, rfl, _, _⟩ := ho1.read.form; have HO1 := Lib.hid ho1.read; have HB1 := Lib.hid hb1; clear ho1 hb1) | (go_at_call 23; refine (fput_any _ _ p HO1.out HL.out).mono ?_; rintro e w2 ⟨v2, rfl, ho2, hb2⟩; have HO2 := Lib.hid ho2; have HB2 := Lib.hid hb2; clear ho2 hb2))
    go_ret
    exact ⟨_, rfl, by rw [HR.out]; exact own_mono HO2.out (Nat.le_trans HB.out.size HB1.out.size), (HB.out.trans (HB1.out.mono HB.out.size)).trans (HB2.out.mono (Nat.le_trans HB.out.size HB1.out.size))⟩

theorem two_set {w : World} {p : Nat} {u0 u1 : Value} (x y : Value) (h0 : w.cell? ⟨p, 0, none⟩ = some u0) (h1 : w.cell? ⟨p, 1, none⟩ = some u1) :
    ((w.setCell ⟨p, 0, none⟩ x).setCell ⟨p, 1, none⟩ y).cell? ⟨p, 0, none⟩ = some x ∧ ((w.setCell ⟨p, 0, none⟩ x).setCell ⟨p, 1, none⟩ y).cell? ⟨p, 1, none⟩ = some y := by
  constructor
  · exact (World.cell?_setCell_other _ _ _ _ (by simp)).trans (World.cell?_setCell_same _ _ _ h0)
  · exact World.cell?_setCell_same _ _ _ ((World.cell?_setCell_other _ _ _ _ (by simp)).trans h1)

/-- A batch that was stored into its cells twice. -/
theorem four_set {w w' : World} {p B : Nat} {u0 u1 : Value} (x y x' y' : Value) (h0 : w.cell? ⟨p, 0, none⟩ = some u0) (h1 : w.cell? ⟨p, 1, none⟩ = some u1) (hB : B ≤ p)
    (hw : w' = (((w.setCell ⟨p, 0, none⟩ x).setCell ⟨p, 1, none⟩ y).setCell ⟨p, 0, none⟩ x').setCell ⟨p, 1, none⟩ y') :
    w'.cell? ⟨p, 0, none⟩ = some x' ∧ w'.cell? ⟨p, 1, none⟩ = some y' ∧ Kept (fun q => q ≠ p) w w' ∧ w'.heap.size = w.heap.size ∧ ∀ W, Below B W w → Below B W w' := by
  obtain ⟨c0, c1⟩ := two_set x y h0 h1
  obtain ⟨d0, d1⟩ := two_set x' y' c0 c1
  subst hw
  refine ⟨d0, d1, ((((Kept.refl _ _).setCell (by simp) _).setCell (by simp) _).setCell (by simp) _).setCell (by simp) _, by simp, fun W h => (((h.setCell hB _).setCell hB _).setCell hB _).setCell hB _⟩

theorem getFr_no {w w' : World} {l : List UInt8} {k : Nat} {e : Ending} (h : GetFr w l k e w') (ho : frOk l k = false) : e = .returned (.tuple #[.slice none 0 0, .int .i64 0, .bool false]) ∧ Below w.heap.size w w' := by
  rcases h with ⟨_, he, hb⟩ | ⟨p, hp, h1, _⟩
  · exact ⟨he, hb⟩
  · obtain rfl : k = p := by omega
    rw [h1] at ho
    cases ho

theorem getFr_yes {w w' : World} {l : List UInt8} {k : Nat} {e : Ending} (h : GetFr w l k e w') (ho : frOk l k = true) :
    ∃ a c, e = .returned (.tuple #[.slice a (frP l k).length c, .int .i64 ((k + 8 + frN l k : Nat) : Int), .bool true]) ∧ OwnB w' w.heap.size 5 (.slice a (frP l k).length c) (frP l k) ∧ Below w.heap.size w w' := by
  rcases h with ⟨h1, _⟩ | ⟨p, hp, h1, u, he, hu, hb⟩
  · rw [h1 k rfl] at ho
    cases ho
  · obtain rfl : k = p := by omega
    obtain ⟨a, c, rfl⟩ := rdB_form' hu.read
    exact ⟨a, c, he, hu, hb⟩

/-- What is told of a place of a log. -/
def AnsRec (x : Option (Bat × Nat)) (B : Nat) (e : Ending) (w' : World) : Prop :=
  match x with
  | some (b, q) => ∃ v, e = .returned (.tuple #[.agg #[.int .i64 b.s, v], .int .i64 (q : Int), .bool true]) ∧ OwnO w' B 43 v b.ops
  | none => e = .returned (.tuple #[.agg #[.int .i64 0, .slice none 0 0], .int .i64 0, .bool false])

set_option maxRecDepth 100000 in
set_option maxHeartbeats 4000000 in
theorem rpget_any (v : Value) (l : List UInt8) (k : Nat) (w : World) (hv : RdB w v l) (hn : l.length < 1000000000) (hk : k ≤ l.length) :
    Calls Try.prog 17 #[v, .int .i64 (k : Int)] w fun e w' => AnsRec (recAt l k) w.heap.size e w' ∧ Below w.heap.size w w' := by
  obtain ⟨a, cap, rfl, hc1, hc2⟩ := hv.form
  obtain ⟨wB, hwB⟩ : ∃ wB, wB = w.alloc (.cells #[.int .i64 0, .slice none 0 0] 24) := ⟨_, rfl⟩
  have e0 : wB.cell? ⟨w.heap.size, 0, none⟩ = some (.int .i64 0) := by rw [hwB]; go_simp
  have e1 : wB.cell? ⟨w.heap.size, 1, none⟩ = some (.slice none 0 0) := by rw [hwB]; go_simp
  have f0 : wB.frozen? ⟨w.heap.size, 0, none⟩ = false := by rw [hwB]; go_simp
  have f1 : wB.frozen? ⟨w.heap.size, 1, none⟩ = false := by rw [hwB]; go_simp
  have hB : Below w.heap.size w wB := by rw [hwB]; exact (Below.refl _ _).alloc (Nat.le_refl _) _
  have hlt : w.heap.size < wB.heap.size := by rw [hwB]; simp
  have hget := fget_any wB (.slice a l.length cap) l (k : Int) (hv.below hB (Nat.le_refl _)) (by omega) (by omega)
  have HWB := Lib.hid hwB
  have HB := Lib.hid hB
  have HG := Lib.hid hget
  have HLT := Lib.hid hlt
  clear hB hv hwB hget
  cases hok : frOk l k with
  | false =>
    have HR : Hid (recAt l k = none) := Lib.hid (recAt_no hok)
    rw [HR.out]
    have HOK := Lib.hid hok
    clear hok
    go_enter Try.func17, Try.ntmps17
    go_wp2_with (go_at_call 29; rw [← HWB.out]; refine HG.out.mono ?_; rintro e w1 hg; obtain ⟨rfl, hb1⟩ := getFr_no hg HOK.out; clear hg; replace e0 := (hb1.cell (p := ⟨w.heap.size, 0, none⟩) HLT.out).trans e0; replace e1 := (hb1.cell (p := ⟨w.heap.size, 1, none⟩) HLT.out).trans e1; replace f0 := (hb1.frozen (p := ⟨w.heap.size, 0, none⟩) HLT.out).trans f0; replace f1 := (hb1.frozen (p := ⟨w.heap.size, 1, none⟩) HLT.out).trans f1; have hy : w.heap.size < w1.heap.size := Nat.lt_of_lt_of_le HLT.out hb1.size; have HB1 := Lib.hid (HB.out.trans (hb1.mono HB.out.size)); clear hb1)
    refine bodyPost_ret (v := .tuple #[.agg #[.int .i64 0, .slice none 0 0], .int .i64 0, .bool false]) (by simp [results, Try.results17, go_sem, e0, e1]) rfl ?_
    exact ⟨rfl, (HB1.out.setCell (Nat.le_refl _) _).setCell (Nat.le_refl _) _⟩
  | true =>
    have HOK := Lib.hid hok
    have HFL : Hid (k + 8 + frN l k ≤ l.length) := Lib.hid (frOk_le hok)
    have HQ : Hid (∃ q, q = k + 8 + frN l k) := Lib.hid ⟨_, rfl⟩
    cases hgb : getBat (frP l k) with
    | none =>
      have HR : Hid (recAt l k = none) := Lib.hid (recAt_none hok hgb)
      rw [HR.out]
      have HGB := Lib.hid hgb
      clear hok hgb
      go_enter Try.func17, Try.ntmps17
      go_wp2_with (first | (go_at_call 29; rw [← HWB.out]; refine HG.out.mono ?_; rintro e w1 hg; obtain ⟨pa, pc, rfl, hp, hb1⟩ := getFr_yes hg HOK.out; clear hg; have HP := Lib.hid hp.read; clear hp; replace e0 := (hb1.cell (p := ⟨w.heap.size, 0, none⟩) HLT.out).trans e0; replace e1 := (hb1.cell (p := ⟨w.heap.size, 1, none⟩) HLT.out).trans e1; replace f0 := (hb1.frozen (p := ⟨w.heap.size, 0, none⟩) HLT.out).trans f0; replace f1 := (hb1.frozen (p := ⟨w.heap.size, 1, none⟩) HLT.out).trans f1; have hy : w.heap.size < w1.heap.size := Nat.lt_of_lt_of_le HLT.out hb1.size; have HB1 := Lib.hid (HB.out.trans (hb1.mono HB.out.size)); clear hb1) | (go_at_call 30; refine (bget_any _ (frP l k) _ HP.out).mono ?_; rintro e w2 ⟨he, hb2⟩; rw [HGB.out] at he; unfold AnsGet at he; subst he; replace e0 := (hb2.cell (p := ⟨w.heap.size, 0, none⟩) hy).trans e0; replace e1 := (hb2.cell (p := ⟨w.heap.size, 1, none⟩) hy).trans e1; replace f0 := (hb2.frozen (p := ⟨w.heap.size, 0, none⟩) hy).trans f0; replace f1 := (hb2.frozen (p := ⟨w.heap.size, 1, none⟩) hy).trans f1; have hy2 : w.heap.size < w2.heap.size := Nat.lt_of_lt_of_le hy hb2.size; have HB2 := Lib.hid (HB1.out.trans (hb2.mono HB1.out.size)); clear hb2 hy))
      obtain ⟨w3, hw3⟩ : ∃ w3, w3 = (((w2.setCell ⟨w.heap.size, 0, none⟩ (.int .i64 0)).setCell ⟨w.heap.size, 1, none⟩ (.slice none 0 0)).setCell ⟨w.heap.size, 0, none⟩ (.int .i64 0)).setCell ⟨w.heap.size, 1, none⟩ (.slice none 0 0) := ⟨_, rfl⟩
      rw [← hw3]
      obtain ⟨d0, d1, _, _, d4⟩ := four_set _ _ _ _ e0 e1 (Nat.le_refl _) hw3
      clear hw3
      refine bodyPost_ret (v := .tuple #[.agg #[.int .i64 0, .slice none 0 0], .int .i64 0, .bool false]) (by simp [results, Try.results17, go_sem, d0, d1]) rfl ?_
      exact ⟨rfl, d4 _ HB2.out⟩
    | some x =>
      obtain ⟨s, ops⟩ := x
      have HR : Hid (recAt l k = some (⟨(s : Int), ops⟩, k + 8 + frN l k)) := Lib.hid (recAt_mk hok hgb)
      rw [HR.out]
      have HGB := Lib.hid hgb
      clear hok hgb
      go_enter Try.func17, Try.ntmps17
      go_wp2_with (first | (go_at_call 29; rw [← HWB.out]; refine HG.out.mono ?_; rintro e w1 hg; obtain ⟨pa, pc, rfl, hp, hb1⟩ := getFr_yes hg HOK.out; clear hg; have HP := Lib.hid hp.read; clear hp; replace e0 := (hb1.cell (p := ⟨w.heap.size, 0, none⟩) HLT.out).trans e0; replace e1 := (hb1.cell (p := ⟨w.heap.size, 1, none⟩) HLT.out).trans e1; replace f0 := (hb1.frozen (p := ⟨w.heap.size, 0, none⟩) HLT.out).trans f0; replace f1 := (hb1.frozen (p := ⟨w.heap.size, 1, none⟩) HLT.out).trans f1; have hy : w.heap.size < w1.heap.size := Nat.lt_of_lt_of_le HLT.out hb1.size; have HB1 := Lib.hid (HB.out.trans (hb1.mono HB.out.size)); clear hb1) | (go_at_call 30; refine (bget_any _ (frP l k) _ HP.out).mono ?_; rintro e w2 ⟨he, hb2⟩; rw [HGB.out] at he; obtain ⟨v2, he, ho2⟩ := he; obtain ⟨va, vc, hva, _, _⟩ := ho2.form; subst hva; subst he; have HO2 := Lib.hid ho2; clear ho2; have HYY := Lib.hid hy; replace e0 := (hb2.cell (p := ⟨w.heap.size, 0, none⟩) hy).trans e0; replace e1 := (hb2.cell (p := ⟨w.heap.size, 1, none⟩) hy).trans e1; replace f0 := (hb2.frozen (p := ⟨w.heap.size, 0, none⟩) hy).trans f0; replace f1 := (hb2.frozen (p := ⟨w.heap.size, 1, none⟩) hy).trans f1; have hy2 : w.heap.size < w2.heap.size := Nat.lt_of_lt_of_le hy hb2.size; have HB2 := Lib.hid (HB1.out.trans (hb2.mono HB1.out.size)); clear hb2 hy))
      obtain ⟨w3, hw3⟩ : ∃ w3, w3 = (((w2.setCell ⟨w.heap.size, 0, none⟩ (.int .i64 (s : Int))).setCell ⟨w.heap.size, 1, none⟩ (.slice va ops.length vc)).setCell ⟨w.heap.size, 0, none⟩ (.int .i64 (s : Int))).setCell ⟨w.heap.size, 1, none⟩ (.slice va ops.length vc) := ⟨_, rfl⟩
      rw [← hw3]
      obtain ⟨d0, d1, d2, _, d4⟩ := four_set _ _ _ _ e0 e1 (Nat.le_refl _) hw3
      clear hw3
      refine bodyPost_ret (v := .tuple #[.agg #[.int .i64 (s : Int), .slice va ops.length vc], .int .i64 ((k + 8 + frN l k : Nat) : Int), .bool true]) (by simp [results, Try.results17, go_sem, d0, d1]) rfl ?_
      refine ⟨⟨_, rfl, ?_⟩, d4 _ HB2.out⟩
      have ho := own_kept HO2.out d2 fun q hq => by
        have := (World.ownsRow.lt HO2.out q hq).1
        have := HYY.out
        show q ≠ w.heap.size
        omega
      exact own_mono ho HB1.out.size
end Go.Proofs.Ytpbmacbogmnokaa

/-
  What replay.follows does, for every list of batches and every batch.
-/
namespace Go.Proofs.Ytpbmacbogmnokaa
open Go.RowKit

theorem map_getD (xs : List BV) (i : Nat) : (xs.map (·.1)).getD i default = (xs.getD i BV.none_).1 := by
  simp only [List.getD, List.getElem?_map]
  cases xs[i]? <;> rfl

theorem goesOn_map {xs : List BV} {m : Nat} (h : xs.length = m + 1) (b : Bat) : goesOn (xs.map (·.1)) b = (b.s == (xs.getD m BV.none_).1.s + 1) := by
  rw [goesOn_at (by simp; omega), map_getD, List.length_map, h]
  rfl

set_option maxRecDepth 100000 in
set_option maxHeartbeats 2000000 in
theorem follows_any (v : Value) (xs : List BV) (b : Bat) (c : Value) (w : World) (hv : RdBs w v xs) (hx : ∀ x ∈ xs, x.1.s ≤ 9007199254740992) (hn : xs.length ≤ 1000000000) :
    Calls Try.prog 18 #[v, batV b.s c] w fun e w' => e = .returned (.bool (goesOn (xs.map (·.1)) b)) ∧ Below w.heap.size w w' := by
  obtain ⟨a, cap, rfl, hc1, hc2⟩ := hv.form
  unfold maxLen at hc2
  obtain ⟨wB, hwB⟩ : ∃ wB, wB = w.alloc (.cells #[.int .i64 b.s, c] 24) := ⟨_, rfl⟩
  have e0 : wB.cell? ⟨w.heap.size, 0, none⟩ = some (.int .i64 b.s) := by rw [hwB]; go_simp
  have hB : Below w.heap.size w wB := by rw [hwB]; exact (Below.refl _ _).alloc (Nat.le_refl _) _
  have HWB := Lib.hid hwB
  have HB := Lib.hid hB
  cases hm : xs.length with
  | zero =>
    have hnil : xs = [] := List.eq_nil_of_length_eq_zero hm
    subst hnil
    clear hv hx hB hwB
    have g1 : (((0 : Nat) : Int) == 0) = true := by decide
    go_enter Try.func18, Try.ntmps18
    go_wp2
    rw [← HWB.out]
    go_quiet (fail)
    go_wp2
    go_ret
    exact ⟨rfl, below_drewN HB.out _⟩
  | succ m =>
    have HG := Lib.hid (goesOn_map hm b)
    have hmx : m < xs.length := by omega
    obtain ⟨bb, off, pa, pc, rfl, hbb, _, d0, d1, _, hwf⟩ := hv.at_ (i := m) hmx
    have hs := hx _ (bvGet hmx)
    have i0 := (hB.cell (p := ⟨bb, off + m * 2, none⟩) hbb).trans d0
    clear d0 d1 hv hx hB hwB
    generalize (xs.getD m BV.none_).1.s = s at *
    rw [HG.out]
    have g1 : (((m + 1 : Nat) : Int) == 0) = false := by rw [beq_eq_false_iff_ne]; omega
    have g2 : IntKind.i64.wrap (m : Int) = (m : Int) := IntWalk.i64_in _ (by omega)
    have g6 : ((m : Int) + 1 == 0) = false := by rw [beq_eq_false_iff_ne]; omega
    have hw2 : -9223372036854775808 ≤ s ∧ s ≤ 9223372036854775807 := by simpa [Lit.wf, IntKind.min, IntKind.max, IntKind.signed, IntKind.bits] using hwf
    have g3 : IntKind.i64.wrap (s + 1) = s + 1 := IntWalk.i64_in _ (by omega)
    have g4 : ((m : Int)) < ((m + 1 : Nat) : Int) := by omega
    have g5 : m < m + 1 := by omega
    go_enter Try.func18, Try.ntmps18
    go_wp2
    rw [← HWB.out]
    clear hm hmx hc1 hc2 hn
    go_quiet (fail)
    go_wp2
    go_ret
    exact ⟨rfl, below_drewN HB.out _⟩
end Go.Proofs.Ytpbmacbogmnokaa

/-
  What replay.Scan does, for any bytes.
-/
namespace Go.Proofs.Ytpbmacbogmnokaa
open Go.RowKit

/-- What Scan tells. -/
def ScanB (w : World) (l : List UInt8) (e : Ending) (w' : World) : Prop :=
  ∃ v xs, e = .returned (.tuple #[v, .int .i64 ((logL l).2 : Nat)]) ∧ xs.map (·.1) = (logL l).1 ∧ OwnBs w' w.heap.size v xs ∧ Below w.heap.size w w'

/-- What holds in its loop. -/
structure ScIn (l : List UInt8) (k : Nat) (xs : List BV) : Prop where
  le : k ≤ l.length
  few : xs.length ≤ k
  so : LogSo l (xs.map (·.1)) k
  low : ∀ x ∈ xs, x.1.s ≤ 9007199254740992

theorem ScIn.start (l : List UInt8) : ScIn l 0 [] := ⟨Nat.zero_le _, Nat.le_refl _, LogSo.start l, fun x h => by cases h⟩

theorem ScIn.next {l : List UInt8} {k q : Nat} {xs : List BV} {b : Bat} {c : Value} (h : ScIn l k xs) (hr : recAt l k = some (b, q)) (hg : goesOn (xs.map (·.1)) b = true) : ScIn l q (xs ++ [(b, c)]) := by
  obtain ⟨_, hq, hq2, hm, _⟩ := recAt_some hr
  have := h.few
  refine ⟨hq2, by simp; omega, by simpa using h.so.next hr hg, fun x hx => ?_⟩
  rw [List.mem_append, List.mem_singleton] at hx
  rcases hx with hx | rfl
  · exact h.low x hx
  · exact (mayBt_true hm).2.1

theorem rec_elem {w : World} {B : Nat} {l : List UInt8} {k q : Nat} {b : Bat} {c v : Value} (hr : recAt l k = some (b, q)) (ho : OwnO w B 43 c b.ops) (hv : ∀ k, c.ownBlock = some k → v.ownBlock ≠ some k) : ElemB w B v (b, c) :=
  ⟨ho, (may_fits (recAt_some hr).2.2.2.1).1, (may_fits (recAt_some hr).2.2.2.1).2, hv⟩

set_option maxRecDepth 100000 in
set_option maxHeartbeats 4000000 in
theorem rpscan_any (w : World) (v : Value) (l : List UInt8) (h : RdB w v l) (hn : l.length < 1000000000) :
    Calls Try.prog 9 #[v] w (ScanB w l) := by
  have HV := Lib.hid h
  clear h
  go_enter Try.func9, Try.ntmps9
  go_wp2
  go_step3
  go_wp2
  go_step3
  go_wp2
  go_loopw [2, 3] (fun u at_ wr => ∃ (k : Nat) (xs : List BV), at_ = .int .i64 k ∧ Hid (ScIn l k xs) ∧ Hid (OwnBs wr w.heap.size u xs) ∧ Hid (Below w.heap.size w wr)) (fun _ at_ _ => l.length - (intOf at_).toNat)
  case atStart => exact ⟨0, [], rfl, Lib.hid (ScIn.start l), Lib.hid (OwnBs.nil _ _), Lib.hid (Below.refl _ _)⟩
  case round =>
    obtain ⟨k, xs, rfl, HS, HO, HB⟩ := hrel
    have HG := Lib.hid (rpget_any _ l k wr (HV.out.below HB.out (Nat.le_refl _)) hn HS.out.le)
    cases hr : recAt l k with
    | none =>
      have HST := Lib.hid (HS.out.so.stop hr)
      rw [hr] at HG
      clear hr
      go_wp2_with fail
      refine HG.out.mono ?_
      rintro e w1 ⟨rfl, hb1⟩
      have HB1 := Lib.hid hb1
      clear hb1
      go_wp2
      rw [Exit.noGoto_ret]
      go_ret2
      unfold ScanB
      rw [HST.out]
      exact ⟨_, xs, rfl, rfl, HO.out.below (HB1.out.alloc HB1.out.size _) (Nat.le_refl _), HB.out.trans (Below.mono (HB1.out.alloc HB1.out.size _) HB.out.size)⟩
    | some x =>
      obtain ⟨b, q⟩ := x
      have hq := (recAt_some hr).2.1
      have hq2 := (recAt_some hr).2.2.1
      have HR := Lib.hid hr
      rw [hr] at HG
      have HFEW := Lib.hid HS.out.few
      have hlow := HS.out.low
      have HLOW := Lib.hid hlow
      obtain ⟨ua, uc, rfl, _, hu2⟩ := HO.out.form
      have HF := fun W (hW : Below wr.heap.size wr W) c => Lib.hid (follows_any (.slice ua xs.length uc) xs b c W (HO.out.read.below hW (Nat.le_refl _)) hlow (by have := HS.out.few; have := HS.out.le; omega))
      have HF := Lib.hid HF
      cases hgo : goesOn (xs.map (·.1)) b with
      | false =>
        have HST := Lib.hid (HS.out.so.stop2 hr hgo)
        rw [hgo] at HF
        clear hr hgo hlow hq hq2
        go_wp2_with (first | (go_at_call 17; refine HG.out.mono ?_; rintro e w1 ⟨⟨c, rfl, hc⟩, hb1⟩; obtain ⟨ca, cc, rfl, _, _⟩ := hc.form; have HB1 := Lib.hid hb1; clear hb1 hc) | (go_at_call 18; refine ((HF.out _ (HB1.out.alloc HB1.out.size _) _).out).mono ?_; rintro e w2 ⟨rfl, hb2⟩; have HB2 := Lib.hid hb2; clear hb2))
        rw [Exit.noGoto_ret]
        go_ret2
        unfold ScanB
        rw [HST.out]
        exact ⟨_, xs, rfl, rfl, HO.out.below ((HB1.out.alloc HB1.out.size _).trans (HB2.out.mono (by have := HB1.out.size; simp; omega))) (Nat.le_refl _), HB.out.trans (Below.mono ((HB1.out.alloc HB1.out.size _).trans (HB2.out.mono (by have := HB1.out.size; simp; omega))) HB.out.size)⟩
      | true =>
        have HN := fun c => Lib.hid (HS.out.next (c := c) hr hgo)
        have HN := Lib.hid HN
        rw [hgo] at HF
        have HQ : Hid (k < q ∧ q ≤ l.length) := Lib.hid (by omega)
        clear hr hgo hlow hq hq2
        go_wp2_with (first | (go_at_call 17; refine HG.out.mono ?_; rintro e w1 ⟨⟨c, rfl, hc⟩, hb1⟩; obtain ⟨ca, cc, rfl, _, _⟩ := hc.form; have HC1 := Lib.hid hc; have HB1 := Lib.hid hb1; clear hb1 hc) | (go_at_call 18; refine ((HF.out _ (HB1.out.alloc HB1.out.size _) _).out).mono ?_; rintro e w2 ⟨rfl, hb2⟩; have d0 := (hb2.cell (p := ⟨w1.heap.size, 0, none⟩) (by simp)).trans (by go_simp : _ = some (Value.int .i64 b.s)); have d1 := (hb2.cell (p := ⟨w1.heap.size, 1, none⟩) (by simp)).trans (by go_simp : _ = some (Value.slice ca b.ops.length cc)); have hlt2 : w1.heap.size < w2.heap.size := Nat.lt_of_lt_of_le (by simp) hb2.size; have HB12 := Lib.hid (((Below.refl w1.heap.size w1).alloc (Nat.le_refl _) _).trans (hb2.mono (by simp))); have HBr2 := Lib.hid ((HB1.out.alloc HB1.out.size _).trans (hb2.mono (by have := HB1.out.size; simp; omega))); clear hb2; obtain ⟨x1, x2⟩ := HO.out.push (x := (b, .slice ca b.ops.length cc)) (w1 := w2.alloc (.cells #[.int .i64 b.s, .slice ca b.ops.length cc] 24)) (HBr2.out.alloc HBr2.out.size _) HB.out.size (rec_elem HR.out (own_mono (OwnO.below HC1.out (HB12.out.alloc HB12.out.size _) (Nat.le_refl _)) HB.out.size) fun k hk e => by have := (World.ownsRow.lt HC1.out k hk).1; have := (HO.out.lt (.inl e)).2; omega); have X1 := Lib.hid x1; have X2 := Lib.hid x2; clear x1 x2) | (at_builtin; refine wpList_plain rfl fun K' hK' => ?_; refine wp_append_at (.tmp 22) (.tmp 24) 28 rfl 24 2 32 (.agg #[.int .i64 0, .slice none 0 0]) Try.underlying28 info_bats rfl (by decide) _ _ _ 1 _ _ rfl rfl X1.out (one_bat _ _ _) (by simp [Value.oneCell']) ?n1 ?n2 ?k1))
        case n1 => have := HS.out.few; have := HS.out.le; omega
        case n2 => have := HS.out.few; have := HS.out.le; unfold maxLen; omega
        case k1 =>
          intro v' w' hown hmv
          refine hK' _ _ ?_
          obtain ⟨q1, q2⟩ := X2.out v' w' hown hmv
          have Q1 := Lib.hid q1
          have Q2 := Lib.hid q2
          clear q1 q2 hown hmv
          go_wp2
          go_roundw
          case rel => exact ⟨q, xs ++ [(b, .slice ca b.ops.length cc)], rfl, HN.out _, Q1, Lib.hid (HB.out.trans (Q2.out.mono (Nat.le_refl _)))⟩
          case measure => have := HQ.out; simp [intOf]; omega
end Go.Proofs.Ytpbmacbogmnokaa
