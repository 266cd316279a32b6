/-
  What replay.Put, replay.get and replay.follows do, for all that they are given.
-/
import Derived.Test.YtpbmacbogmnokaaRepMath
import Derived.Test.YtpbmacbogmnokaaBatchGet
import Derived.Test.YtpbmacbogmnokaaFrame
import Derived.Deep.Cut
namespace Go.Proofs.Ytpbmacbogmnokaa
open Go.RowKit

set_option maxRecDepth 100000 in
set_option maxHeartbeats 2000000 in
theorem rpput_any (s : Int) (v : Value) (l : List Ope) (w : World) (hv : RdO w v l) (hn : l.length ≤ 100000) :
    Calls Try.prog 12 #[batV s v] w (RetB w.heap.size w (recB ⟨s, l⟩)) := by
  obtain ⟨a, cap, rfl, hc1, hc2⟩ := hv.form
  obtain ⟨wB, hwB⟩ : ∃ wB, wB = w.alloc (.cells #[.int .i64 s, .slice a l.length cap] 24) := ⟨_, rfl⟩
  have e0 : wB.cell? ⟨w.heap.size, 0, none⟩ = some (.int .i64 s) := by rw [hwB]; go_simp
  have e1 : wB.cell? ⟨w.heap.size, 1, none⟩ = some (.slice a l.length cap) := by rw [hwB]; go_simp
  have hB : Below w.heap.size w wB := by rw [hwB]; exact (Below.refl _ _).alloc (Nat.le_refl _) _
  have hput := bput_any s (.slice a l.length cap) l wB (hv.below hB (Nat.le_refl _)) hn
  have HWB := Lib.hid hwB
  have HB := Lib.hid hB
  have HP := Lib.hid hput
  clear hB hv hwB hput
  cases hm : mayBt s l with
  | false =>
    have HR : Hid (recB ⟨s, l⟩ = []) := Lib.hid (recB_not hm)
    have HQ : Hid (putBat s l = []) := Lib.hid (by unfold putBat; rw [hm]; rfl)
    clear hm
    rw [HQ.out] at HP
    go_enter Try.func12, Try.ntmps12
    go_wp2_with (go_at_call 22; rw [← HWB.out]; refine HP.out.mono ?_; rintro e w1 ⟨v1, rfl, ho1, hb1⟩; obtain ⟨a1, c1, rfl, _, _⟩ := ho1.read.form; have HB1 := Lib.hid hb1; clear ho1 hb1)
    go_ret
    exact ⟨_, rfl, by rw [HR.out]; exact OwnB.nil _ _ _, HB.out.trans (HB1.out.mono HB.out.size)⟩
  | true =>
    have hlen := putBat_len hm
    have HR : Hid (recB ⟨s, l⟩ = frL (putBat s l)) := Lib.hid (by unfold recB; simp only; rw [if_pos hm])
    clear hm
    generalize putBat s l = p at HP HR hlen
    obtain ⟨hl1, hl2⟩ := hlen
    have HL : Hid (p.length < 1000000000000) := Lib.hid (by omega)
    have g1 : ((p.length : Int) == 0) = false := by rw [beq_eq_false_iff_ne]; omega
    go_enter Try.func12, Try.ntmps12
    go_wp2_with (first | (go_at_call 22; rw [← HWB.out]; refine HP.out.mono ?_; rintro e w1 ⟨v1, rfl, ho1, hb1⟩; obtain ⟨a1, c1, rfl, _, _⟩ := ho1.read.form; have HO1 := Lib.hid ho1.read; have HB1 := Lib.hid hb1; clear ho1 hb1) | (go_at_call 23; refine (fput_any _ _ p HO1.out HL.out).mono ?_; rintro e w2 ⟨v2, rfl, ho2, hb2⟩; have HO2 := Lib.hid ho2; have HB2 := Lib.hid hb2; clear ho2 hb2))
    go_ret
    exact ⟨_, rfl, by rw [HR.out]; exact own_mono HO2.out (Nat.le_trans HB.out.size HB1.out.size), (HB.out.trans (HB1.out.mono HB.out.size)).trans (HB2.out.mono (Nat.le_trans HB.out.size HB1.out.size))⟩

theorem two_set {w : World} {p : Nat} {u0 u1 : Value} (x y : Value) (h0 : w.cell? ⟨p, 0, none⟩ = some u0) (h1 : w.cell? ⟨p, 1, none⟩ = some u1) :
    ((w.setCell ⟨p, 0, none⟩ x).setCell ⟨p, 1, none⟩ y).cell? ⟨p, 0, none⟩ = some x ∧ ((w.setCell ⟨p, 0, none⟩ x).setCell ⟨p, 1, none⟩ y).cell? ⟨p, 1, none⟩ = some y := by
  constructor
  · exact (World.cell?_setCell_other _ _ _ _ (by simp)).trans (World.cell?_setCell_same _ _ _ h0)
  · exact World.cell?_setCell_same _ _ _ ((World.cell?_setCell_other _ _ _ _ (by simp)).trans h1)

/-- A batch that was stored into its cells twice. -/
theorem four_set {w w' : World} {p B : Nat} {u0 u1 : Value} (x y x' y' : Value) (h0 : w.cell? ⟨p, 0, none⟩ = some u0) (h1 : w.cell? ⟨p, 1, none⟩ = some u1) (hB : B ≤ p)
    (hw : w' = (((w.setCell ⟨p, 0, none⟩ x).setCell ⟨p, 1, none⟩ y).setCell ⟨p, 0, none⟩ x').setCell ⟨p, 1, none⟩ y') :
    w'.cell? ⟨p, 0, none⟩ = some x' ∧ w'.cell? ⟨p, 1, none⟩ = some y' ∧ Kept (fun q => q ≠ p) w w' ∧ w'.heap.size = w.heap.size ∧ ∀ W, Below B W w → Below B W w' := by
  obtain ⟨c0, c1⟩ := two_set x y h0 h1
  obtain ⟨d0, d1⟩ := two_set x' y' c0 c1
  subst hw
  refine ⟨d0, d1, ((((Kept.refl _ _).setCell (by simp) _).setCell (by simp) _).setCell (by simp) _).setCell (by simp) _, by simp, fun W h => (((h.setCell hB _).setCell hB _).setCell hB _).setCell hB _⟩

theorem getFr_no {w w' : World} {l : List UInt8} {k : Nat} {e : Ending} (h : GetFr w l k e w') (ho : frOk l k = false) : e = .returned (.tuple #[.slice none 0 0, .int .i64 0, .bool false]) ∧ Below w.heap.size w w' := by
  rcases h with ⟨_, he, hb⟩ | ⟨p, hp, h1, _⟩
  · exact ⟨he, hb⟩
  · obtain rfl : k = p := by omega
    rw [h1] at ho
    cases ho

theorem getFr_yes {w w' : World} {l : List UInt8} {k : Nat} {e : Ending} (h : GetFr w l k e w') (ho : frOk l k = true) :
    ∃ a c, e = .returned (.tuple #[.slice a (frP l k).length c, .int .i64 ((k + 8 + frN l k : Nat) : Int), .bool true]) ∧ OwnB w' w.heap.size 5 (.slice a (frP l k).length c) (frP l k) ∧ Below w.heap.size w w' := by
  rcases h with ⟨h1, _⟩ | ⟨p, hp, h1, u, he, hu, hb⟩
  · rw [h1 k rfl] at ho
    cases ho
  · obtain rfl : k = p := by omega
    obtain ⟨a, c, rfl⟩ := rdB_form' hu.read
    exact ⟨a, c, he, hu, hb⟩

/-- What is told of a place of a log. -/
def AnsRec (x : Option (Bat × Nat)) (B : Nat) (e : Ending) (w' : World) : Prop :=
  match x with
  | some (b, q) => ∃ v, e = .returned (.tuple #[.agg #[.int .i64 b.s, v], .int .i64 (q : Int), .bool true]) ∧ OwnO w' B 43 v b.ops
  | none => e = .returned (.tuple #[.agg #[.int .i64 0, .slice none 0 0], .int .i64 0, .bool false])

set_option maxRecDepth 100000 in
set_option maxHeartbeats 4000000 in
theorem rpget_any (v : Value) (l : List UInt8) (k : Nat) (w : World) (hv : RdB w v l) (hn : l.length < 1000000000) (hk : k ≤ l.length) :
    Calls Try.prog 17 #[v, .int .i64 (k : Int)] w fun e w' => AnsRec (recAt l k) w.heap.size e w' ∧ Below w.heap.size w w' := by
  obtain ⟨a, cap, rfl, hc1, hc2⟩ := hv.form
  obtain ⟨wB, hwB⟩ : ∃ wB, wB = w.alloc (.cells #[.int .i64 0, .slice none 0 0] 24) := ⟨_, rfl⟩
  have e0 : wB.cell? ⟨w.heap.size, 0, none⟩ = some (.int .i64 0) := by rw [hwB]; go_simp
  have e1 : wB.cell? ⟨w.heap.size, 1, none⟩ = some (.slice none 0 0) := by rw [hwB]; go_simp
  have f0 : wB.frozen? ⟨w.heap.size, 0, none⟩ = false := by rw [hwB]; go_simp
  have f1 : wB.frozen? ⟨w.heap.size, 1, none⟩ = false := by rw [hwB]; go_simp
  have hB : Below w.heap.size w wB := by rw [hwB]; exact (Below.refl _ _).alloc (Nat.le_refl _) _
  have hlt : w.heap.size < wB.heap.size := by rw [hwB]; simp
  have hget := fget_any wB (.slice a l.length cap) l (k : Int) (hv.below hB (Nat.le_refl _)) (by omega) (by omega)
  have HWB := Lib.hid hwB
  have HB := Lib.hid hB
  have HG := Lib.hid hget
  have HLT := Lib.hid hlt
  clear hB hv hwB hget
  cases hok : frOk l k with
  | false =>
    have HR : Hid (recAt l k = none) := Lib.hid (recAt_no hok)
    rw [HR.out]
    have HOK := Lib.hid hok
    clear hok
    go_enter Try.func17, Try.ntmps17
    go_wp2_with (go_at_call 29; rw [← HWB.out]; refine HG.out.mono ?_; rintro e w1 hg; obtain ⟨rfl, hb1⟩ := getFr_no hg HOK.out; clear hg; replace e0 := (hb1.cell (p := ⟨w.heap.size, 0, none⟩) HLT.out).trans e0; replace e1 := (hb1.cell (p := ⟨w.heap.size, 1, none⟩) HLT.out).trans e1; replace f0 := (hb1.frozen (p := ⟨w.heap.size, 0, none⟩) HLT.out).trans f0; replace f1 := (hb1.frozen (p := ⟨w.heap.size, 1, none⟩) HLT.out).trans f1; have hy : w.heap.size < w1.heap.size := Nat.lt_of_lt_of_le HLT.out hb1.size; have HB1 := Lib.hid (HB.out.trans (hb1.mono HB.out.size)); clear hb1)
    refine bodyPost_ret (v := .tuple #[.agg #[.int .i64 0, .slice none 0 0], .int .i64 0, .bool false]) (by simp [results, Try.results17, go_sem, e0, e1]) rfl ?_
    exact ⟨rfl, (HB1.out.setCell (Nat.le_refl _) _).setCell (Nat.le_refl _) _⟩
  | true =>
    have HOK := Lib.hid hok
    have HFL : Hid (k + 8 + frN l k ≤ l.length) := Lib.hid (frOk_le hok)
    have HQ : Hid (∃ q, q = k + 8 + frN l k) := Lib.hid ⟨_, rfl⟩
    cases hgb : getBat (frP l k) with
    | none =>
      have HR : Hid (recAt l k = none) := Lib.hid (recAt_none hok hgb)
      rw [HR.out]
      have HGB := Lib.hid hgb
      clear hok hgb
      go_enter Try.func17, Try.ntmps17
      go_wp2_with (first | (go_at_call 29; rw [← HWB.out]; refine HG.out.mono ?_; rintro e w1 hg; obtain ⟨pa, pc, rfl, hp, hb1⟩ := getFr_yes hg HOK.out; clear hg; have HP := Lib.hid hp.read; clear hp; replace e0 := (hb1.cell (p := ⟨w.heap.size, 0, none⟩) HLT.out).trans e0; replace e1 := (hb1.cell (p := ⟨w.heap.size, 1, none⟩) HLT.out).trans e1; replace f0 := (hb1.frozen (p := ⟨w.heap.size, 0, none⟩) HLT.out).trans f0; replace f1 := (hb1.frozen (p := ⟨w.heap.size, 1, none⟩) HLT.out).trans f1; have hy : w.heap.size < w1.heap.size := Nat.lt_of_lt_of_le HLT.out hb1.size; have HB1 := Lib.hid (HB.out.trans (hb1.mono HB.out.size)); clear hb1) | (go_at_call 30; refine (bget_any _ (frP l k) _ HP.out).mono ?_; rintro e w2 ⟨he, hb2⟩; rw [HGB.out] at he; unfold AnsGet at he; subst he; replace e0 := (hb2.cell (p := ⟨w.heap.size, 0, none⟩) hy).trans e0; replace e1 := (hb2.cell (p := ⟨w.heap.size, 1, none⟩) hy).trans e1; replace f0 := (hb2.frozen (p := ⟨w.heap.size, 0, none⟩) hy).trans f0; replace f1 := (hb2.frozen (p := ⟨w.heap.size, 1, none⟩) hy).trans f1; have hy2 : w.heap.size < w2.heap.size := Nat.lt_of_lt_of_le hy hb2.size; have HB2 := Lib.hid (HB1.out.trans (hb2.mono HB1.out.size)); clear hb2 hy))
      obtain ⟨w3, hw3⟩ : ∃ w3, w3 = (((w2.setCell ⟨w.heap.size, 0, none⟩ (.int .i64 0)).setCell ⟨w.heap.size, 1, none⟩ (.slice none 0 0)).setCell ⟨w.heap.size, 0, none⟩ (.int .i64 0)).setCell ⟨w.heap.size, 1, none⟩ (.slice none 0 0) := ⟨_, rfl⟩
      rw [← hw3]
      obtain ⟨d0, d1, _, _, d4⟩ := four_set _ _ _ _ e0 e1 (Nat.le_refl _) hw3
      clear hw3
      refine bodyPost_ret (v := .tuple #[.agg #[.int .i64 0, .slice none 0 0], .int .i64 0, .bool false]) (by simp [results, Try.results17, go_sem, d0, d1]) rfl ?_
      exact ⟨rfl, d4 _ HB2.out⟩
    | some x =>
      obtain ⟨s, ops⟩ := x
      have HR : Hid (recAt l k = some (⟨(s : Int), ops⟩, k + 8 + frN l k)) := Lib.hid (recAt_mk hok hgb)
      rw [HR.out]
      have HGB := Lib.hid hgb
      clear hok hgb
      go_enter Try.func17, Try.ntmps17
      go_wp2_with (first | (go_at_call 29; rw [← HWB.out]; refine HG.out.mono ?_; rintro e w1 hg; obtain ⟨pa, pc, rfl, hp, hb1⟩ := getFr_yes hg HOK.out; clear hg; have HP := Lib.hid hp.read; clear hp; replace e0 := (hb1.cell (p := ⟨w.heap.size, 0, none⟩) HLT.out).trans e0; replace e1 := (hb1.cell (p := ⟨w.heap.size, 1, none⟩) HLT.out).trans e1; replace f0 := (hb1.frozen (p := ⟨w.heap.size, 0, none⟩) HLT.out).trans f0; replace f1 := (hb1.frozen (p := ⟨w.heap.size, 1, none⟩) HLT.out).trans f1; have hy : w.heap.size < w1.heap.size := Nat.lt_of_lt_of_le HLT.out hb1.size; have HB1 := Lib.hid (HB.out.trans (hb1.mono HB.out.size)); clear hb1) | (go_at_call 30; refine (bget_any _ (frP l k) _ HP.out).mono ?_; rintro e w2 ⟨he, hb2⟩; rw [HGB.out] at he; obtain ⟨v2, he, ho2⟩ := he; obtain ⟨va, vc, hva, _, _⟩ := ho2.form; subst hva; subst he; have HO2 := Lib.hid ho2; clear ho2; have HYY := Lib.hid hy; replace e0 := (hb2.cell (p := ⟨w.heap.size, 0, none⟩) hy).trans e0; replace e1 := (hb2.cell (p := ⟨w.heap.size, 1, none⟩) hy).trans e1; replace f0 := (hb2.frozen (p := ⟨w.heap.size, 0, none⟩) hy).trans f0; replace f1 := (hb2.frozen (p := ⟨w.heap.size, 1, none⟩) hy).trans f1; have hy2 : w.heap.size < w2.heap.size := Nat.lt_of_lt_of_le hy hb2.size; have HB2 := Lib.hid (HB1.out.trans (hb2.mono HB1.out.size)); clear hb2 hy))
      obtain ⟨w3, hw3⟩ : ∃ w3, w3 = (((w2.setCell ⟨w.heap.size, 0, none⟩ (.int .i64 (s : Int))).setCell ⟨w.heap.size, 1, none⟩ (.slice va ops.length vc)).setCell ⟨w.heap.size, 0, none⟩ (.int .i64 (s : Int))).setCell ⟨w.heap.size, 1, none⟩ (.slice va ops.length vc) := ⟨_, rfl⟩
      rw [← hw3]
      obtain ⟨d0, d1, d2, _, d4⟩ := four_set _ _ _ _ e0 e1 (Nat.le_refl _) hw3
      clear hw3
      refine bodyPost_ret (v := .tuple #[.agg #[.int .i64 (s : Int), .slice va ops.length vc], .int .i64 ((k + 8 + frN l k : Nat) : Int), .bool true]) (by simp [results, Try.results17, go_sem, d0, d1]) rfl ?_
      refine ⟨⟨_, rfl, ?_⟩, d4 _ HB2.out⟩
      have ho := own_kept HO2.out d2 fun q hq => by
        have := (World.ownsRow.lt HO2.out q hq).1
        have := HYY.out
        show q ≠ w.heap.size
        omega
      exact own_mono ho HB1.out.size
end Go.Proofs.Ytpbmacbogmnokaa
