import Derived.Test.YtpbmacbogmnokaaRepMath
import Derived.Test.YtpbmacbogmnokaaBatchGet
import Derived.Test.YtpbmacbogmnokaaFrame
import Derived.Deep.Cut
import Derived.Test.YtpbmacbogmnokaaRegion
import Derived.Deep.QuietTactic
import Derived.BigQuiet
import Derived.Test.YtpbmacbogmnokaaLists
import Derived.Test.YtpbmacbogmnokaaRepDigits
import Derived.Test.YtpbmacbogmnokaaOpsRNorm
import Derived.Test.YtpbmacbogmnokaaBats
import Derived.Test.YtpbmacbogmnokaaOpsIns
import Derived.Test.YtpbmacbogmnokaaBase
import Derived.Test.YtpbmacbogmnokaaRows
import Derived.ProofKit
import Derived.OpenShut
import Derived.ShutString
import Derived.ChangeOld

/-
  What replay.Put, replay.get and replay.follows do, for all that they are given.
-/
namespace Go.Proofs.Ytpbmacbogmnokaa
open Go.RowKit

set_option maxRecDepth 100000 in
set_option maxHeartbeats 2000000 in
theorem rpput_any (s : Int) (v : Value) (l : List Ope) (w : World) (hv : RdO w v l) (hn : l.length ≤ 100000) :
    Calls Try.prog 12 #[batV s v] w (RetB w.heap.size w (recB ⟨s, l⟩)) := by
  obtain ⟨a, cap, rfl, hc1, hc2⟩ := hv.form
  obtain ⟨wB, hwB⟩ : ∃ wB, wB = w.alloc (.cells #[.int .i64 s, .slice a l.length cap] 24) := ⟨_, rfl⟩
  have e0 : wB.cell? ⟨w.heap.size, 0, none⟩ = some (.int .i64 s) := by rw [hwB]; go_simp
  have e1 : wB.cell? ⟨w.heap.size, 1, none⟩ = some (.slice a l.length cap) := by rw [hwB]; go_simp
  have hB : Below w.heap.size w wB := by rw [hwB]; exact (Below.refl _ _).alloc (Nat.le_refl _) _
  have hput := bput_any s (.slice a l.length cap) l wB (hv.below hB (Nat.le_refl _)) hn
  have HWB := Lib.hid hwB
  have HB := Lib.hid hB
  have HP := Lib.hid hput
  clear hB hv hwB hput
  cases hm : mayBt s l with
  | false =>
    have HR : Hid (recB ⟨s, l⟩ = []) := Lib.hid (recB_not hm)
    have HQ : Hid (putBat s l = []) := Lib.hid (by unfold putBat; rw [hm]; rfl)
    clear hm
    rw [HQ.out] at HP
    go_enter Try.func12, Try.ntmps12
    go_wp2_with (go_at_call 22; rw [← HWB.out]; refine HP.out.mono ?_; rintro e w1 ⟨v1, rfl, ho1, hb1⟩; obtain ⟨a1, c1, rfl, _, _⟩ := ho1.read.form; have HB1 := Lib.hid hb1; clear ho1 hb1)
    go_ret
    exact ⟨_, rfl, by rw [HR.out]; exact OwnB.nil _ _ _, HB.out.trans (HB1.out.mono HB.out.size)⟩
  | true =>
    have hlen := putBat_len hm
    have HR : Hid (recB ⟨s, l⟩ = frL (putBat s l)) := Lib.hid (by unfold recB; simp only; rw [if_pos hm])
    clear hm
    generalize putBat s l = p at HP HR hlen
    obtain ⟨hl1, hl2⟩ := hlen
    have HL : Hid (p.length < 1000000000000) := Lib.hid (by omega)
    have g1 : ((p.length : Int) == 0) = false := by rw [beq_eq_false_iff_ne]; omega
    go_enter Try.func12, Try.ntmps12
    go_wp2_with (first | (go_at_call 22; rw [← HWB.out]; refine HP.out.mono ?_; rintro e w1 ⟨v1, rfl, ho1, hb1⟩; obtain ⟨a1, c1, rfl, _, _⟩ := ho1.read.form; have HO1 := Lib.hid ho1.read; have HB1 := Lib.hid hb1; clear ho1 hb1) | (go_at_call 23; refine (fput_any _ _ p HO1.out HL.out).mono ?_; rintro e w2 ⟨v2, rfl, ho2, hb2⟩; have HO2 := Lib.hid ho2; have HB2 := Lib.hid hb2; clear ho2 hb2))
    go_ret
    exact ⟨_, rfl, by rw [HR.out]; exact own_mono HO2.out (Nat.le_trans HB.out.size HB1.out.size), (HB.out.trans (HB1.out.mono HB.out.size)).trans (HB2.out.mono (Nat.le_trans HB.out.size HB1.out.size))⟩

theorem two_set {w : World} {p : Nat} {u0 u1 : Value} (x y : Value) (h0 : w.cell? ⟨p, 0, none⟩ = some u0) (h1 : w.cell? ⟨p, 1, none⟩ = some u1) :
    ((w.setCell ⟨p, 0, none⟩ x).setCell ⟨p, 1, none⟩ y).cell? ⟨p, 0, none⟩ = some x ∧ ((w.setCell ⟨p, 0, none⟩ x).setCell ⟨p, 1, none⟩ y).cell? ⟨p, 1, none⟩ = some y := by
  constructor
  · exact (World.cell?_setCell_other _ _ _ _ (by simp)).trans (World.cell?_setCell_same _ _ _ h0)
  · exact World.cell?_setCell_same _ _ _ ((World.cell?_setCell_other _ _ _ _ (by simp)).trans h1)

/-- A batch that was stored into its cells twice. -/
theorem four_set {w w' : World} {p B : Nat} {u0 u1 : Value} (x y x' y' : Value) (h0 : w.cell? ⟨p, 0, none⟩ = some u0) (h1 : w.cell? ⟨p, 1, none⟩ = some u1) (hB : B ≤ p)
    (hw : w' = (((w.setCell ⟨p, 0, none⟩ x).setCell ⟨p, 1, none⟩ y).setCell ⟨p, 0, none⟩ x').setCell ⟨p, 1, none⟩ y') :
    w'.cell? ⟨p, 0, none⟩ = some x' ∧ w'.cell? ⟨p, 1, none⟩ = some y' ∧ Kept (fun q => q ≠ p) w w' ∧ w'.heap.size = w.heap.size ∧ ∀ W, Below B W w → Below B W w' := by
  obtain ⟨c0, c1⟩ := two_set x y h0 h1
  obtain ⟨d0, d1⟩ := two_set x' y' c0 c1
  subst hw
  refine ⟨d0, d1, ((((Kept.refl _ _).setCell (by simp) _).setCell (by simp) _).setCell (by simp) _).setCell (by simp) _, by simp, fun W h => (((h.setCell hB _).setCell hB _).setCell hB _).setCell hB _⟩

theorem getFr_no {w w' : World} {l : List UInt8} {k : Nat} {e : Ending} (h : GetFr w l k e w') (ho : frOk l k = false) : e = .returned (.tuple #[.slice none 0 0, .int .i64 0, .bool false]) ∧ Below w.heap.size w w' := by
  rcases h with ⟨_, he, hb⟩ | ⟨p, hp, h1, _⟩
  · exact ⟨he, hb⟩
  · obtain rfl : k = p := by omega
    rw [h1] at ho
    cases ho

theorem getFr_yes {w w' : World} {l : List UInt8} {k : Nat} {e : Ending} (h : GetFr w l k e w') (ho : frOk l k = true) :
    ∃ a c, e = .returned (.tuple #[.slice a (frP l k).length c, .int .i64 ((k + 8 + frN l k : Nat) : Int), .bool true]) ∧ OwnB w' w.heap.size 5 (.slice a (frP l k).length c) (frP l k) ∧ Below w.heap.size w w' := by
  rcases h with ⟨h1, _⟩ | ⟨p, hp, h1, u, he, hu, hb⟩
  · rw [h1 k rfl] at ho
    cases ho
  · obtain rfl : k = p := by omega
    obtain ⟨a, c, rfl⟩ := rdB_form' hu.read
    exact ⟨a, c, he, hu, hb⟩

/-- What is told of a place of a log. -/
def AnsRec (x : Option (Bat × Nat)) (B : Nat) (e : Ending) (w' : World) : Prop :=
  match x with
  | some (b, q) => ∃ v, e = .returned (.tuple #[.agg #[.int .i64 b.s, v], .int .i64 (q : Int), .bool true]) ∧ OwnO w' B 43 v b.ops
  | none => e = .returned (.tuple #[.agg #[.int .i64 0, .slice none 0 0], .int .i64 0, .bool false])

set_option maxRecDepth 100000 in
set_option maxHeartbeats 4000000 in
theorem rpget_any (v : Value) (l : List UInt8) (k : Nat) (w : World) (hv : RdB w v l) (hn : l.length < 1000000000) (hk : k ≤ l.length) :
    Calls Try.prog 17 #[v, .int .i64 (k : Int)] w fun e w' => AnsRec (recAt l k) w.heap.size e w' ∧ Below w.heap.size w w' := by
  obtain ⟨a, cap, rfl, hc1, hc2⟩ := hv.form
  obtain ⟨wB, hwB⟩ : ∃ wB, wB = w.alloc (.cells #[.int .i64 0, .slice none 0 0] 24) := ⟨_, rfl⟩
  have e0 : wB.cell? ⟨w.heap.size, 0, none⟩ = some (.int .i64 0) := by rw [hwB]; go_simp
  have e1 : wB.cell? ⟨w.heap.size, 1, none⟩ = some (.slice none 0 0) := by rw [hwB]; go_simp
  have f0 : wB.frozen? ⟨w.heap.size, 0, none⟩ = false := by rw [hwB]; go_simp
  have f1 : wB.frozen? ⟨w.heap.size, 1, none⟩ = false := by rw [hwB]; go_simp
  have hB : Below w.heap.size w wB := by rw [hwB]; exact (Below.refl _ _).alloc (Nat.le_refl _) _
  have hlt : w.heap.size < wB.heap.size := by rw [hwB]; simp
  have hget := fget_any wB (.slice a l.length cap) l (k : Int) (hv.below hB (Nat.le_refl _)) (by omega) (by omega)
  have HWB := Lib.hid hwB
  have HB := Lib.hid hB
  have HG := Lib.hid hget
  have HLT := Lib.hid hlt
  clear hB hv hwB hget
  cases hok : frOk l k with
  | false =>
    have HR : Hid (recAt l k = none) := Lib.hid (recAt_no hok)
    rw [HR.out]
    have HOK := Lib.hid hok
    clear hok
    go_enter Try.func17, Try.ntmps17
    go_wp2_with (go_at_call 29; rw [← HWB.out]; refine HG.out.mono ?_; rintro e w1 hg; obtain ⟨rfl, hb1⟩ := getFr_no hg HOK.out; clear hg; replace e0 := (hb1.cell (p := ⟨w.heap.size, 0, none⟩) HLT.out).trans e0; replace e1 := (hb1.cell (p := ⟨w.heap.size, 1, none⟩) HLT.out).trans e1; replace f0 := (hb1.frozen (p := ⟨w.heap.size, 0, none⟩) HLT.out).trans f0; replace f1 := (hb1.frozen (p := ⟨w.heap.size, 1, none⟩) HLT.out).trans f1; have hy : w.heap.size < w1.heap.size := Nat.lt_of_lt_of_le HLT.out hb1.size; have HB1 := Lib.hid (HB.out.trans (hb1.mono HB.out.size)); clear hb1)
    refine bodyPost_ret (v := .tuple #[.agg #[.int .i64 0, .slice none 0 0], .int .i64 0, .bool false]) (by simp [results, Try.results17, go_sem, e0, e1]) rfl ?_
    exact ⟨rfl, (HB1.out.setCell (Nat.le_refl _) _).setCell (Nat.le_refl _) _⟩
  | true =>
    have HOK := Lib.hid hok
    have HFL : Hid (k + 8 + frN l k ≤ l.length) := Lib.hid (frOk_le hok)
    have HQ : Hid (∃ q, q = k + 8 + frN l k) := Lib.hid ⟨_, rfl⟩
    cases hgb : getBat (frP l k) with
    | none =>
      have HR : Hid (recAt l k = none) := Lib.hid (recAt_none hok hgb)
      rw [HR.out]
      have HGB := Lib.hid hgb
      clear hok hgb
      go_enter Try.func17, Try.ntmps17
      go_wp2_with (first | (go_at_call 29; rw [← HWB.out]; refine HG.out.mono ?_; rintro e w1 hg; obtain ⟨pa, pc, rfl, hp, hb1⟩ := getFr_yes hg HOK.out; clear hg; have HP := Lib.hid hp.read; clear hp; replace e0 := (hb1.cell (p := ⟨w.heap.size, 0, none⟩) HLT.out).trans e0; replace e1 := (hb1.cell (p := ⟨w.heap.size, 1, none⟩) HLT.out).trans e1; replace f0 := (hb1.frozen (p := ⟨w.heap.size, 0, none⟩) HLT.out).trans f0; replace f1 := (hb1.frozen (p := ⟨w.heap.size, 1, none⟩) HLT.out).trans f1; have hy : w.heap.size < w1.heap.size := Nat.lt_of_lt_of_le HLT.out hb1.size; have HB1 := Lib.hid (HB.out.trans (hb1.mono HB.out.size)); clear hb1) | (go_at_call 30; refine (bget_any _ (frP l k) _ HP.out).mono ?_; rintro e w2 ⟨he, hb2⟩; rw [HGB.out] at he; unfold AnsGet at he; subst he; replace e0 := (hb2.cell (p := ⟨w.heap.size, 0, none⟩) hy).trans e0; replace e1 := (hb2.cell (p := ⟨w.heap.size, 1, none⟩) hy).trans e1; replace f0 := (hb2.frozen (p := ⟨w.heap.size, 0, none⟩) hy).trans f0; replace f1 := (hb2.frozen (p := ⟨w.heap.size, 1, none⟩) hy).trans f1; have hy2 : w.heap.size < w2.heap.size := Nat.lt_of_lt_of_le hy hb2.size; have HB2 := Lib.hid (HB1.out.trans (hb2.mono HB1.out.size)); clear hb2 hy))
      obtain ⟨w3, hw3⟩ : ∃ w3, w3 = (((w2.setCell ⟨w.heap.size, 0, none⟩ (.int .i64 0)).setCell ⟨w.heap.size, 1, none⟩ (.slice none 0 0)).setCell ⟨w.heap.size, 0, none⟩ (.int .i64 0)).setCell ⟨w.heap.size, 1, none⟩ (.slice none 0 0) := ⟨_, rfl⟩
      rw [← hw3]
      obtain ⟨d0, d1, _, _, d4⟩ := four_set _ _ _ _ e0 e1 (Nat.le_refl _) hw3
      clear hw3
      refine bodyPost_ret (v := .tuple #[.agg #[.int .i64 0, .slice none 0 0], .int .i64 0, .bool false]) (by simp [results, Try.results17, go_sem, d0, d1]) rfl ?_
      exact ⟨rfl, d4 _ HB2.out⟩
    | some x =>
      obtain ⟨s, ops⟩ := x
      have HR : Hid (recAt l k = some (⟨(s : Int), ops⟩, k + 8 + frN l k)) := Lib.hid (recAt_mk hok hgb)
      rw [HR.out]
      have HGB := Lib.hid hgb
      clear hok hgb
      go_enter Try.func17, Try.ntmps17
      go_wp2_with (first | (go_at_call 29; rw [← HWB.out]; refine HG.out.mono ?_; rintro e w1 hg; obtain ⟨pa, pc, rfl, hp, hb1⟩ := getFr_yes hg HOK.out; clear hg; have HP := Lib.hid hp.read; clear hp; replace e0 := (hb1.cell (p := ⟨w.heap.size, 0, none⟩) HLT.out).trans e0; replace e1 := (hb1.cell (p := ⟨w.heap.size, 1, none⟩) HLT.out).trans e1; replace f0 := (hb1.frozen (p := ⟨w.heap.size, 0, none⟩) HLT.out).trans f0; replace f1 := (hb1.frozen (p := ⟨w.heap.size, 1, none⟩) HLT.out).trans f1; have hy : w.heap.size < w1.heap.size := Nat.lt_of_lt_of_le HLT.out hb1.size; have HB1 := Lib.hid (HB.out.trans (hb1.mono HB.out.size)); clear hb1) | (go_at_call 30; refine (bget_any _ (frP l k) _ HP.out).mono ?_; rintro e w2 ⟨he, hb2⟩; rw [HGB.out] at he; obtain ⟨v2, he, ho2⟩ := he; obtain ⟨va, vc, hva, _, _⟩ := ho2.form; subst hva; subst he; have HO2 := Lib.hid ho2; clear ho2; have HYY := Lib.hid hy; replace e0 := (hb2.cell (p := ⟨w.heap.size, 0, none⟩) hy).trans e0; replace e1 := (hb2.cell (p := ⟨w.heap.size, 1, none⟩) hy).trans e1; replace f0 := (hb2.frozen (p := ⟨w.heap.size, 0, none⟩) hy).trans f0; replace f1 := (hb2.frozen (p := ⟨w.heap.size, 1, none⟩) hy).trans f1; have hy2 : w.heap.size < w2.heap.size := Nat.lt_of_lt_of_le hy hb2.size; have HB2 := Lib.hid (HB1.out.trans (hb2.mono HB1.out.size)); clear hb2 hy))
      obtain ⟨w3, hw3⟩ : ∃ w3, w3 = (((w2.setCell ⟨w.heap.size, 0, none⟩ (.int .i64 (s : Int))).setCell ⟨w.heap.size, 1, none⟩ (.slice va ops.length vc)).setCell ⟨w.heap.size, 0, none⟩ (.int .i64 (s : Int))).setCell ⟨w.heap.size, 1, none⟩ (.slice va ops.length vc) := ⟨_, rfl⟩
      rw [← hw3]
      obtain ⟨d0, d1, d2, _, d4⟩ := four_set _ _ _ _ e0 e1 (Nat.le_refl _) hw3
      clear hw3
      refine bodyPost_ret (v := .tuple #[.agg #[.int .i64 (s : Int), .slice va ops.length vc], .int .i64 ((k + 8 + frN l k : Nat) : Int), .bool true]) (by simp [results, Try.results17, go_sem, d0, d1]) rfl ?_
      refine ⟨⟨_, rfl, ?_⟩, d4 _ HB2.out⟩
      have ho := own_kept HO2.out d2 fun q hq => by
        have := (World.ownsRow.lt HO2.out q hq).1
        have := HYY.out
        show q ≠ w.heap.size
        omega
      exact own_mono ho HB1.out.size
end Go.Proofs.Ytpbmacbogmnokaa

/-
  What replay.follows does, for every list of batches and every batch.
-/
namespace Go.Proofs.Ytpbmacbogmnokaa
open Go.RowKit

theorem map_getD (xs : List BV) (i : Nat) : (xs.map (·.1)).getD i default = (xs.getD i BV.none_).1 := by
  simp only [List.getD, List.getElem?_map]
  cases xs[i]? <;> rfl

theorem goesOn_map {xs : List BV} {m : Nat} (h : xs.length = m + 1) (b : Bat) : goesOn (xs.map (·.1)) b = (b.s == (xs.getD m BV.none_).1.s + 1) := by
  rw [goesOn_at (by simp; omega), map_getD, List.length_map, h]
  rfl

set_option maxRecDepth 100000 in
set_option maxHeartbeats 2000000 in
theorem follows_any (v : Value) (xs : List BV) (b : Bat) (c : Value) (w : World) (hv : RdBs w v xs) (hx : ∀ x ∈ xs, x.1.s ≤ 9007199254740992) (hn : xs.length ≤ 1000000000) :
    Calls Try.prog 18 #[v, batV b.s c] w fun e w' => e = .returned (.bool (goesOn (xs.map (·.1)) b)) ∧ Below w.heap.size w w' := by
  obtain ⟨a, cap, rfl, hc1, hc2⟩ := hv.form
  unfold maxLen at hc2
  obtain ⟨wB, hwB⟩ : ∃ wB, wB = w.alloc (.cells #[.int .i64 b.s, c] 24) := ⟨_, rfl⟩
  have e0 : wB.cell? ⟨w.heap.size, 0, none⟩ = some (.int .i64 b.s) := by rw [hwB]; go_simp
  have hB : Below w.heap.size w wB := by rw [hwB]; exact (Below.refl _ _).alloc (Nat.le_refl _) _
  have HWB := Lib.hid hwB
  have HB := Lib.hid hB
  cases hm : xs.length with
  | zero =>
    have hnil : xs = [] := List.eq_nil_of_length_eq_zero hm
    subst hnil
    clear hv hx hB hwB
    have g1 : (((0 : Nat) : Int) == 0) = true := by decide
    go_enter Try.func18, Try.ntmps18
    go_wp2
    rw [← HWB.out]
    go_quiet (fail)
    go_wp2
    go_ret
    exact ⟨rfl, below_drewN HB.out _⟩
  | succ m =>
    have HG := Lib.hid (goesOn_map hm b)
    have hmx : m < xs.length := by omega
    obtain ⟨bb, off, pa, pc, rfl, hbb, _, d0, d1, _, hwf⟩ := hv.at_ (i := m) hmx
    have hs := hx _ (bvGet hmx)
    have i0 := (hB.cell (p := ⟨bb, off + m * 2, none⟩) hbb).trans d0
    clear d0 d1 hv hx hB hwB
    generalize (xs.getD m BV.none_).1.s = s at *
    rw [HG.out]
    have g1 : (((m + 1 : Nat) : Int) == 0) = false := by rw [beq_eq_false_iff_ne]; omega
    have g2 : IntKind.i64.wrap (m : Int) = (m : Int) := IntWalk.i64_in _ (by omega)
    have g6 : ((m : Int) + 1 == 0) = false := by rw [beq_eq_false_iff_ne]; omega
    have hw2 : -9223372036854775808 ≤ s ∧ s ≤ 9223372036854775807 := by simpa [Lit.wf, IntKind.min, IntKind.max, IntKind.signed, IntKind.bits] using hwf
    have g3 : IntKind.i64.wrap (s + 1) = s + 1 := IntWalk.i64_in _ (by omega)
    have g4 : ((m : Int)) < ((m + 1 : Nat) : Int) := by omega
    have g5 : m < m + 1 := by omega
    go_enter Try.func18, Try.ntmps18
    go_wp2
    rw [← HWB.out]
    clear hm hmx hc1 hc2 hn
    go_quiet (fail)
    go_wp2
    go_ret
    exact ⟨rfl, below_drewN HB.out _⟩
end Go.Proofs.Ytpbmacbogmnokaa

/-
  What replay.Scan does, for any bytes.
-/
namespace Go.Proofs.Ytpbmacbogmnokaa
open Go.RowKit

/-- What Scan tells. -/
def ScanB (w : World) (l : List UInt8) (e : Ending) (w' : World) : Prop :=
  ∃ v xs, e = .returned (.tuple #[v, .int .i64 ((logL l).2 : Nat)]) ∧ xs.map (·.1) = (logL l).1 ∧ OwnBs w' w.heap.size v xs ∧ Below w.heap.size w w'

/-- What holds in its loop. -/
structure ScIn (l : List UInt8) (k : Nat) (xs : List BV) : Prop where
  le : k ≤ l.length
  few : xs.length ≤ k
  so : LogSo l (xs.map (·.1)) k
  low : ∀ x ∈ xs, x.1.s ≤ 9007199254740992

theorem ScIn.start (l : List UInt8) : ScIn l 0 [] := ⟨Nat.zero_le _, Nat.le_refl _, LogSo.start l, fun x h => by cases h⟩

theorem ScIn.next {l : List UInt8} {k q : Nat} {xs : List BV} {b : Bat} {c : Value} (h : ScIn l k xs) (hr : recAt l k = some (b, q)) (hg : goesOn (xs.map (·.1)) b = true) : ScIn l q (xs ++ [(b, c)]) := by
  obtain ⟨_, hq, hq2, hm, _⟩ := recAt_some hr
  have := h.few
  refine ⟨hq2, by simp; omega, by simpa using h.so.next hr hg, fun x hx => ?_⟩
  rw [List.mem_append, List.mem_singleton] at hx
  rcases hx with hx | rfl
  · exact h.low x hx
  · exact (mayBt_true hm).2.1

theorem rec_elem {w : World} {B : Nat} {l : List UInt8} {k q : Nat} {b : Bat} {c v : Value} (hr : recAt l k = some (b, q)) (ho : OwnO w B 43 c b.ops) (hv : ∀ k, c.ownBlock = some k → v.ownBlock ≠ some k) : ElemB w B v (b, c) :=
  ⟨ho, (may_fits (recAt_some hr).2.2.2.1).1, (may_fits (recAt_some hr).2.2.2.1).2, hv⟩

set_option maxRecDepth 100000 in
set_option maxHeartbeats 4000000 in
theorem rpscan_any (w : World) (v : Value) (l : List UInt8) (h : RdB w v l) (hn : l.length < 1000000000) :
    Calls Try.prog 9 #[v] w (ScanB w l) := by
  have HV := Lib.hid h
  clear h
  go_enter Try.func9, Try.ntmps9
  go_wp2
  go_step3
  go_wp2
  go_step3
  go_wp2
  go_loopw [2, 3] (fun u at_ wr => ∃ (k : Nat) (xs : List BV), at_ = .int .i64 k ∧ Hid (ScIn l k xs) ∧ Hid (OwnBs wr w.heap.size u xs) ∧ Hid (Below w.heap.size w wr)) (fun _ at_ _ => l.length - (intOf at_).toNat)
  case atStart => exact ⟨0, [], rfl, Lib.hid (ScIn.start l), Lib.hid (OwnBs.nil _ _), Lib.hid (Below.refl _ _)⟩
  case round =>
    obtain ⟨k, xs, rfl, HS, HO, HB⟩ := hrel
    have HG := Lib.hid (rpget_any _ l k wr (HV.out.below HB.out (Nat.le_refl _)) hn HS.out.le)
    cases hr : recAt l k with
    | none =>
      have HST := Lib.hid (HS.out.so.stop hr)
      rw [hr] at HG
      clear hr
      go_wp2_with fail
      refine HG.out.mono ?_
      rintro e w1 ⟨rfl, hb1⟩
      have HB1 := Lib.hid hb1
      clear hb1
      go_wp2
      rw [Exit.noGoto_ret]
      go_ret2
      unfold ScanB
      rw [HST.out]
      exact ⟨_, xs, rfl, rfl, HO.out.below (HB1.out.alloc HB1.out.size _) (Nat.le_refl _), HB.out.trans (Below.mono (HB1.out.alloc HB1.out.size _) HB.out.size)⟩
    | some x =>
      obtain ⟨b, q⟩ := x
      have hq := (recAt_some hr).2.1
      have hq2 := (recAt_some hr).2.2.1
      have HR := Lib.hid hr
      rw [hr] at HG
      have HFEW := Lib.hid HS.out.few
      have hlow := HS.out.low
      have HLOW := Lib.hid hlow
      obtain ⟨ua, uc, rfl, _, hu2⟩ := HO.out.form
      have HF := fun W (hW : Below wr.heap.size wr W) c => Lib.hid (follows_any (.slice ua xs.length uc) xs b c W (HO.out.read.below hW (Nat.le_refl _)) hlow (by have := HS.out.few; have := HS.out.le; omega))
      have HF := Lib.hid HF
      cases hgo : goesOn (xs.map (·.1)) b with
      | false =>
        have HST := Lib.hid (HS.out.so.stop2 hr hgo)
        rw [hgo] at HF
        clear hr hgo hlow hq hq2
        go_wp2_with (first | (go_at_call 17; refine HG.out.mono ?_; rintro e w1 ⟨⟨c, rfl, hc⟩, hb1⟩; obtain ⟨ca, cc, rfl, _, _⟩ := hc.form; have HB1 := Lib.hid hb1; clear hb1 hc) | (go_at_call 18; refine ((HF.out _ (HB1.out.alloc HB1.out.size _) _).out).mono ?_; rintro e w2 ⟨rfl, hb2⟩; have HB2 := Lib.hid hb2; clear hb2))
        rw [Exit.noGoto_ret]
        go_ret2
        unfold ScanB
        rw [HST.out]
        exact ⟨_, xs, rfl, rfl, HO.out.below ((HB1.out.alloc HB1.out.size _).trans (HB2.out.mono (by have := HB1.out.size; simp; omega))) (Nat.le_refl _), HB.out.trans (Below.mono ((HB1.out.alloc HB1.out.size _).trans (HB2.out.mono (by have := HB1.out.size; simp; omega))) HB.out.size)⟩
      | true =>
        have HN := fun c => Lib.hid (HS.out.next (c := c) hr hgo)
        have HN := Lib.hid HN
        rw [hgo] at HF
        have HQ : Hid (k < q ∧ q ≤ l.length) := Lib.hid (by omega)
        clear hr hgo hlow hq hq2
        go_wp2_with (first | (go_at_call 17; refine HG.out.mono ?_; rintro e w1 ⟨⟨c, rfl, hc⟩, hb1⟩; obtain ⟨ca, cc, rfl, _, _⟩ := hc.form; have HC1 := Lib.hid hc; have HB1 := Lib.hid hb1; clear hb1 hc) | (go_at_call 18; refine ((HF.out _ (HB1.out.alloc HB1.out.size _) _).out).mono ?_; rintro e w2 ⟨rfl, hb2⟩; have d0 := (hb2.cell (p := ⟨w1.heap.size, 0, none⟩) (by simp)).trans (by go_simp : _ = some (Value.int .i64 b.s)); have d1 := (hb2.cell (p := ⟨w1.heap.size, 1, none⟩) (by simp)).trans (by go_simp : _ = some (Value.slice ca b.ops.length cc)); have hlt2 : w1.heap.size < w2.heap.size := Nat.lt_of_lt_of_le (by simp) hb2.size; have HB12 := Lib.hid (((Below.refl w1.heap.size w1).alloc (Nat.le_refl _) _).trans (hb2.mono (by simp))); have HBr2 := Lib.hid ((HB1.out.alloc HB1.out.size _).trans (hb2.mono (by have := HB1.out.size; simp; omega))); clear hb2; obtain ⟨x1, x2⟩ := HO.out.push (x := (b, .slice ca b.ops.length cc)) (w1 := w2.alloc (.cells #[.int .i64 b.s, .slice ca b.ops.length cc] 24)) (HBr2.out.alloc HBr2.out.size _) HB.out.size (rec_elem HR.out (own_mono (OwnO.below HC1.out (HB12.out.alloc HB12.out.size _) (Nat.le_refl _)) HB.out.size) fun k hk e => by have := (World.ownsRow.lt HC1.out k hk).1; have := (HO.out.lt (.inl e)).2; omega); have X1 := Lib.hid x1; have X2 := Lib.hid x2; clear x1 x2) | (at_builtin; refine wpList_plain rfl fun K' hK' => ?_; refine wp_append_at (.tmp 22) (.tmp 24) 28 rfl 24 2 32 (.agg #[.int .i64 0, .slice none 0 0]) Try.underlying28 info_bats rfl (by decide) _ _ _ 1 _ _ rfl rfl X1.out (one_bat _ _ _) (by simp [Value.oneCell']) ?n1 ?n2 ?k1))
        case n1 => have := HS.out.few; have := HS.out.le; omega
        case n2 => have := HS.out.few; have := HS.out.le; unfold maxLen; omega
        case k1 =>
          intro v' w' hown hmv
          refine hK' _ _ ?_
          obtain ⟨q1, q2⟩ := X2.out v' w' hown hmv
          have Q1 := Lib.hid q1
          have Q2 := Lib.hid q2
          clear q1 q2 hown hmv
          go_wp2
          go_roundw
          case rel => exact ⟨q, xs ++ [(b, .slice ca b.ops.length cc)], rfl, HN.out _, Q1, Lib.hid (HB.out.trans (Q2.out.mono (Nat.le_refl _)))⟩
          case measure => have := HQ.out; simp [intOf]; omega
end Go.Proofs.Ytpbmacbogmnokaa

/-
  What replay.Join does, for any logs, behind any number.
-/
namespace Go.Proofs.Ytpbmacbogmnokaa
open Go.RowKit

/-- The call tells these batches, in memory of its own. -/
def RetBs (w : World) (bs : List Bat) (e : Ending) (w' : World) : Prop := ∃ v xs, e = .returned v ∧ xs.map (·.1) = bs ∧ OwnBs w' w.heap.size v xs ∧ Below w.heap.size w w'

/-- What holds in its loops: what was taken, and the rest. -/
structure JoIn (all : List Bat) (acc : List BV) (rest : List Bat) (last : Int) : Prop where
  so : all = acc.map (·.1) ++ joinF rest last
  few : acc.length + rest.length ≤ 1000000000
  wf : -9223372036854775808 ≤ last ∧ last ≤ 9223372036854775807
  may : AllMay rest

theorem JoIn.old {all : List Bat} {acc : List BV} {b : Bat} {rest : List Bat} {last : Int} (h : JoIn all acc (b :: rest) last) (h1 : b.s ≤ last) : JoIn all acc rest last :=
  ⟨by rw [h.so, joinF_old h1], by have := h.few; simp at this; omega, h.wf, fun c hc => h.may c (by simp [hc])⟩

theorem JoIn.far {all : List Bat} {acc : List BV} {b : Bat} {rest : List Bat} {last : Int} (h : JoIn all acc (b :: rest) last) (h1 : ¬ b.s ≤ last) (h2 : last + 1 < b.s) : acc.map (·.1) = all := by
  rw [h.so, joinF_far h1 h2, List.append_nil]

theorem JoIn.next {all : List Bat} {acc : List BV} {b : Bat} {rest : List Bat} {last : Int} (h : JoIn all acc (b :: rest) last) (h1 : ¬ b.s ≤ last) (h2 : ¬ last + 1 < b.s) (c : Value) : JoIn all (acc ++ [(b, c)]) rest b.s := by
  have hm := mayBt_true (h.may b (by simp))
  refine ⟨by rw [h.so, joinF_next h1 h2]; simp, by have := h.few; simp at this ⊢; omega, by omega, fun c hc => h.may c (by simp [hc])⟩

theorem JoIn.done {all : List Bat} {acc : List BV} {last : Int} (h : JoIn all acc [] last) : acc.map (·.1) = all := by
  have := h.so
  simp only [joinF, List.append_nil] at this
  exact this.symm

theorem AllMay.app {a b : List Bat} (ha : AllMay a) (hb : AllMay b) : AllMay (a ++ b) := fun c hc => by
  rw [List.mem_append] at hc
  exact hc.elim (ha c) (hb c)

theorem logs_may (ls : List (List UInt8)) : AllMay (ls.flatMap fun l => (logL l).1) := fun b hb => by
  obtain ⟨l, _, hl⟩ := List.mem_flatMap.1 hb
  exact logL_may l b hl

theorem logs_drop {ls : List (List UInt8)} {i : Nat} {l : List UInt8} (h : ls[i]? = some l) : (ls.drop i).flatMap (fun l => (logL l).1) = (logL l).1 ++ (ls.drop (i + 1)).flatMap (fun l => (logL l).1) := by
  obtain ⟨hi, rfl⟩ := List.getElem?_eq_some_iff.1 h
  rw [List.drop_eq_getElem_cons hi, List.flatMap_cons]

theorem bats_drop {us : List BV} {k : Nat} (hk : k < us.length) : (us.map (·.1)).drop k = (us.getD k BV.none_).1 :: (us.map (·.1)).drop (k + 1) := by
  rw [List.drop_eq_getElem_cons (by simpa using hk)]
  simp [List.getD, List.getElem?_eq_getElem hk]

set_option maxRecDepth 100000 in
set_option maxHeartbeats 4000000 in
theorem rpjoin_any (w : World) (v : Value) (ls : List (List UInt8)) (last0 : Int) (h : RdLL w v ls) (hl : ∀ l ∈ ls, l.length < 1000000000) (hn : (ls.flatMap fun l => (logL l).1).length ≤ 1000000000)
    (hwf : -9223372036854775808 ≤ last0 ∧ last0 ≤ 9223372036854775807) :
    Calls Try.prog 14 #[v, .int .i64 last0] w (RetBs w (joinL ls last0)) := by
  obtain ⟨a, cap, rfl, _, hc2⟩ := h.form
  unfold maxLen at hc2
  have HV := Lib.hid h
  have HL := Lib.hid hl
  have HJ0 : Hid (JoIn (joinL ls last0) [] ((ls.drop 0).flatMap fun l => (logL l).1) last0) := Lib.hid ⟨rfl, by simpa using hn, hwf, logs_may _⟩
  generalize joinL ls last0 = all at *
  clear h hl hn hwf
  go_enter Try.func14, Try.ntmps14
  go_wp2
  go_step3
  go_wp2
  go_step3
  go_wp2
  go_loopw [1, 5, 14] (fun la u i wr => ∃ (n : Nat) (last : Int) (acc : List BV), n ≤ ls.length ∧ i = .int .i64 n ∧ la = .int .i64 last ∧ Hid (JoIn all acc ((ls.drop n).flatMap fun l => (logL l).1) last) ∧ Hid (OwnBs wr w.heap.size u acc) ∧ Hid (Below w.heap.size w wr)) (fun _ _ i _ => ls.length - (intOf i).toNat)
  case atStart => exact ⟨0, last0, [], Nat.zero_le _, rfl, rfl, HJ0, Lib.hid (OwnBs.nil _ _), Lib.hid (Below.refl _ _)⟩
  case round =>
    obtain ⟨n, last, acc, hn, rfl, rfl, HJ, HO, HB⟩ := hrel
    by_cases hlt : n < ls.length
    · obtain ⟨l, hl⟩ : ∃ l, ls[n]? = some l := ⟨_, List.getElem?_eq_getElem hlt⟩
      obtain ⟨b, o, pa, pc, rfl, hcell, hrd, hb⟩ := (HV.out.below HB.out (Nat.le_refl _)).at_ hl
      have hj := HJ.out
      rw [logs_drop hl] at hj
      have HSC := Lib.hid (rpscan_any wr _ l hrd (HL.out l (List.mem_of_getElem? hl)))
      have HJ1 := Lib.hid hj
      have HOF := Lib.hid HO.out.form
      clear hj hl HJ
      obtain ⟨tail, htail⟩ : ∃ tail, tail = (ls.drop (n + 1)).flatMap (fun l => (logL l).1) := ⟨_, rfl⟩
      rw [← htail] at HJ1
      have HT := Lib.hid htail
      clear htail
      go_wp2
      go_step3
      go_wp2_with (go_at_call 9; refine HSC.out.mono ?_; rintro e w1 ⟨tv, us, rfl, hus, hown, hb1⟩; obtain ⟨ta, tc, rfl, _, htc⟩ := hown.form; have HUS := Lib.hid hus; have HOWN := Lib.hid hown; have HB1 := Lib.hid hb1; clear hus hown hb1)
      go_step3
      go_wp2
      have HOu := Lib.hid (HO.out.below HB1.out (Nat.le_refl _))
      have HUo := Lib.hid (HOWN.out.base HB.out.size)
      have HAP : Hid (∀ k, inBs (.slice ta us.length tc) us k → u5.ownBlock ≠ some k) := Lib.hid fun k hk e => by have := (HOWN.out.lt hk).1; have := (HO.out.lt (.inl e)).2; omega
      have HBo := Lib.hid (HB.out.trans (HB1.out.mono HB.out.size))
      rw [← HUS.out] at HJ1
      clear hcell hrd hb HB1 HOWN HSC HO HB
      unfold maxLen at htc
      go_loopw [1, 5, 25] (fun la u i w2 => ∃ (k : Nat) (last : Int) (acc : List BV), k ≤ us.length ∧ i = .int .i64 k ∧ la = .int .i64 last ∧ Hid (JoIn all acc ((us.map (·.1)).drop k ++ tail) last) ∧ Hid (OwnBs w2 w.heap.size u acc) ∧ Hid (OwnBs w2 w.heap.size (.slice ta us.length tc) us) ∧ Hid (∀ k, inBs (.slice ta us.length tc) us k → u.ownBlock ≠ some k) ∧ Hid (Below w.heap.size w w2)) (fun _ _ i _ => us.length - (intOf i).toNat)
      case atStart => exact ⟨0, last, acc, Nat.zero_le _, rfl, rfl, HJ1, HOu, HUo, HAP, HBo⟩
      case round =>
        clear HJ1 HOu HUo HAP HBo HOF
        obtain ⟨k, last, acc, hk, rfl, rfl, HJ, HO, HU, HA, HB⟩ := hrel
        by_cases hku : k < us.length
        · obtain ⟨b2, o2, xa, xc, rfl, hb2, hx2, c0, c1, hxr, hxw⟩ := HU.out.read.at_ hku
          have hel := HU.out.2 _ (bvGet hku)
          have hin : ∀ q, (us.getD k BV.none_).2.ownBlock = some q → inBs (.slice (some ⟨b2, o2, none⟩) us.length tc) us q := fun q hq => .inr ⟨_, bvGet hku, hq⟩
          have hj := HJ.out
          rw [bats_drop hku, List.cons_append] at hj
          have HJ1 := Lib.hid hj
          have hwf := hj.wf
          have hm := mayBt_true (hj.may _ List.mem_cons_self)
          obtain ⟨ua, uc, rfl, _, huc⟩ := HO.out.form
          unfold maxLen at huc
          have HEL : Hid (ElemB wr w.heap.size (.slice ua acc.length uc) (us.getD k BV.none_)) := Lib.hid ⟨hel.1, hel.2.1, hel.2.2.1, fun q hq => HA.out q (hin q hq)⟩
          clear hj hel hin hxr HJ
          generalize us.getD k BV.none_ = x at *
          obtain ⟨⟨s, ops⟩, xv⟩ := x
          simp only at *
          subst hx2
          have ew : IntKind.i64.wrap ((k : Int) + 1) = (k : Int) + 1 := IntWalk.i64_in _ (by omega)
          by_cases h1 : s ≤ last
          · have HN := Lib.hid (HJ1.out.old h1)
            clear HJ1
            go_wp2
            refine ⟨⟨k + 1, last, acc, by omega, by go_num, rfl, HN, Lib.hid (HO.out.below ((Below.refl _ _).alloc (Nat.le_refl _) _) (Nat.le_refl _)), Lib.hid (HU.out.below ((Below.refl _ _).alloc (Nat.le_refl _) _) (Nat.le_refl _)), HA, Lib.hid (HB.out.alloc HB.out.size _)⟩, ?_⟩
            simp [intOf]; omega
          · have el : IntKind.i64.wrap (last + 1) = last + 1 := IntWalk.i64_in _ (by omega)
            by_cases h2 : last + 1 < s
            · have HD := Lib.hid (HJ1.out.far h1 h2)
              clear HJ1
              go_wp2
              rw [Exit.noGoto_ret]
              go_ret
              exact ⟨_, acc, rfl, HD.out, HO.out.below ((Below.refl _ _).alloc (Nat.le_refl _) _) (Nat.le_refl _), HB.out.alloc HB.out.size _⟩
            · have HN := fun c => Lib.hid (HJ1.out.next h1 h2 c)
              have HN := Lib.hid HN
              have HFW : Hid (acc.length ≤ 1000000000) := Lib.hid (by have := HJ1.out.few; omega)
              clear HJ1
              have hb1 : Below wr.heap.size wr ((wr.alloc (.cells #[.int .i64 s, .slice xa ops.length xc] 24)).alloc (.cells #[.int .i64 s, .slice xa ops.length xc] 24)) := ((Below.refl _ _).alloc (Nat.le_refl _) _).alloc (by simp) _
              obtain ⟨x1, x2⟩ := HO.out.push (x := (⟨s, ops⟩, .slice xa ops.length xc)) hb1 HB.out.size ⟨OwnO.below HEL.out.1 hb1 (Nat.le_refl _), HEL.out.2⟩
              have XR : Hid (Rd ((wr.alloc (.cells #[.int .i64 s, .slice xa ops.length xc] 24)).alloc (.cells #[.int .i64 s, .slice xa ops.length xc] 24)) 2 (.slice (some ⟨wr.heap.size + 1, 0, none⟩) 1 1) 1 [.int .i64 s, .slice xa ops.length xc]) := Lib.hid (by have h := one_bat (wr.alloc (.cells #[.int .i64 s, .slice xa ops.length xc] 24)) s (.slice xa ops.length xc); rwa [show (wr.alloc (.cells #[.int .i64 s, .slice xa ops.length xc] 24)).heap.size = wr.heap.size + 1 by simp] at h)
              have X1 := Lib.hid x1
              have X2 := Lib.hid x2
              have HU1 := Lib.hid (HU.out.below hb1 (Nat.le_refl _))
              have HB1 := Lib.hid hb1
              clear x1 x2 hb1
              go_wp2_with (at_builtin; refine wpList_plain rfl fun K' hK' => ?_; refine wp_append_at (.tmp 40) (.tmp 42) 28 rfl 24 2 32 (.agg #[.int .i64 0, .slice none 0 0]) Try.underlying28 info_bats rfl (by decide) _ _ _ 1 _ _ rfl rfl X1.out XR.out (by simp [Value.oneCell']) ?n1 ?n2 ?k1)
              case n1 => have := HFW.out; omega
              case n2 => have := HFW.out; unfold maxLen; omega
              case k1 =>
                intro v' w' hown hmv
                refine hK' _ _ ?_
                obtain ⟨q1, q2⟩ := X2.out v' w' hown hmv
                obtain ⟨q3, q4⟩ := HU1.out.stays HA.out hmv
                have hbx : w'.cell? ⟨wr.heap.size, 0, none⟩ = some (.int .i64 s) := by
                  have hk0 := (hmv.kept (R := fun q => q = wr.heap.size) fun q hq => ⟨by rw [hq]; simp; omega, fun e => by have := (HO.out.lt (.inl e)).2; omega⟩).cell (p := ⟨wr.heap.size, 0, none⟩) rfl
                  rw [hk0]
                  go_simp
                have Q1 := Lib.hid q1
                have Q2 := Lib.hid q2
                have Q3 := Lib.hid q3
                have Q4 := Lib.hid q4
                clear q1 q2 q3 q4 hown hmv
                go_wp2
                refine ⟨⟨k + 1, s, _, by omega, by go_num, rfl, HN.out _, Q1, Q3, Q4, Lib.hid (HB.out.trans Q2.out)⟩, ?_⟩
                simp [intOf]; omega
        · obtain rfl : k = us.length := by omega
          have hj := HJ.out
          rw [List.drop_of_length_le (by simp), List.nil_append, HT.out] at hj
          have HJ1 := Lib.hid hj
          clear hj HJ
          go_wp2
          rw [Exit.noGoto_normal]
          go_wp2
          refine ⟨⟨n + 1, last, acc, by omega, by go_num, rfl, HJ1, HO, HB⟩, ?_⟩
          simp [intOf]; omega
    · obtain rfl : n = ls.length := by omega
      have hj := HJ.out
      rw [List.drop_length, List.flatMap_nil] at hj
      have HD := Lib.hid hj.done
      clear hj HJ
      go_wp2
      rw [Exit.noGoto_ret]
      go_ret
      exact ⟨_, acc, rfl, HD.out, HO.out, HB.out⟩
end Go.Proofs.Ytpbmacbogmnokaa

/-
  Batches by numbers: what the statements' Make does.
-/
namespace Go.Proofs.Ytpbmacbogmnokaa
open Go.RowKit

def opN (n : Nat) : Ope := if n % 5 = 0 then ⟨2, strB (107 :: digL (n % 7)), ⟨#[]⟩⟩ else ⟨1, strB (107 :: digL (n % 7)), strB (digL n)⟩
def opM (n : Nat) : Ope := ⟨1, strB (108 :: digL (n % 4)), strB [120]⟩
def opsN (n : Nat) : List Ope := if n % 3 = 0 then [opN n, opM n] else [opN n]
/-- The batch of a number. -/
def batN (n : Nat) (s : Int) : Bat := ⟨s, normL (opsN n)⟩
/-- The first 'k' batches. -/
def mkB (ns : List UInt8) (start : Int) (k : Nat) : List Bat := (List.range k).map fun i => batN (ns.getD i 0).toNat (start + i)

theorem mkB_more (ns : List UInt8) (start : Int) (k : Nat) : mkB ns start (k + 1) = mkB ns start k ++ [batN (ns.getD k 0).toNat (start + k)] := by
  unfold mkB
  rw [List.range_succ, List.map_append]
  rfl

theorem mkB_length (ns : List UInt8) (start : Int) (k : Nat) : (mkB ns start k).length = k := by unfold mkB; simp

theorem opN_may {n : Nat} (h : n ≤ 255) : mayO (opN n) = 0 := by
  have h7 := digL_len (n % 7)
  have hn := digL_len n
  have e1 : (strB (107 :: digL (n % 7))).size = (digL (n % 7)).length + 1 := by rw [strB_size, List.length_cons]
  have e2 : (strB (digL n)).size = (digL n).length := strB_size _
  have e3 : (⟨#[]⟩ : ByteArray).size = 0 := rfl
  unfold opN
  split
  · unfold mayO
    simp only [e1, e3]
    rw [if_neg (by omega), if_neg (by omega), if_neg (by omega)]
  · unfold mayO
    simp only [e1, e2]
    rw [if_neg (by omega), if_neg (by omega), if_neg (by omega)]

theorem opM_may (n : Nat) : mayO (opM n) = 0 := by
  have h4 := digL_len (n % 4)
  have e1 : (strB (108 :: digL (n % 4))).size = (digL (n % 4)).length + 1 := by rw [strB_size, List.length_cons]
  have e2 : (strB [120]).size = 1 := strB_size _
  unfold opM mayO
  simp only [e1, e2]
  rw [if_neg (by omega), if_neg (by omega), if_neg (by omega)]

theorem opsN_may {n : Nat} (h : n ≤ 255) : ∀ o ∈ opsN n, mayO o = 0 := by
  intro o ho
  unfold opsN at ho
  split at ho
  · simp only [List.mem_cons, List.not_mem_nil, or_false] at ho
    rcases ho with rfl | rfl
    · exact opN_may h
    · exact opM_may n
  · obtain rfl := List.mem_singleton.1 ho
    exact opN_may h

theorem opsN_len (n : Nat) : 1 ≤ (opsN n).length ∧ (opsN n).length ≤ 2 := by unfold opsN; split <;> simp

theorem batN_may {n : Nat} {s : Int} (h : n ≤ 255) (h1 : 1 ≤ s) (h2 : s ≤ 9007199254740992) : mayBt (batN n s).s (batN n s).ops = true := by
  have hl := opsN_len n
  have hnl := normL_len (opsN n)
  have hne := normL_nonempty (l := opsN n) (fun e => by rw [e] at hl; simp at hl)
  refine mayBt_mk9 h1 h2 (mayOs_mk ?_ ?_ fun o ho => opsN_may h o (normL_mem ho)) (normL_norm _)
  · show 1 ≤ (normL (opsN n)).length
    have := List.length_pos_iff.2 hne
    omega
  · show (normL (opsN n)).length ≤ 32
    omega

theorem mayO_fits {o : Ope} (h : mayO o = 0) : o.fits := by
  obtain ⟨k1, k2, k3, _⟩ := mayO_zero h
  refine ⟨by rcases k1 with k1 | k1 <;> rw [k1] <;> decide, ?_, ?_⟩ <;> (unfold maxLen; omega)

/-- A box with an operation, and the slice of that one that was built. -/
theorem own_one (w w' : World) (o : Ope) (h : w' = (w.alloc (.cells #[.int .i64 o.k, .string o.u, .string o.v] 43)).alloc (.cells #[.int .i64 o.k, .string o.u, .string o.v] 43)) :
    w'.ownsRow 0 43 3 (.slice (some ⟨w.heap.size + 1, 0, none⟩) 1 1) 1 o.cells ∧ Below w.heap.size w w' := by
  subst h
  refine ⟨⟨rfl, .inr ⟨w.heap.size + 1, 1, _, rfl, Nat.zero_le _, heap_new2 w _ _, Nat.le_refl _, by unfold maxLen; omega, rfl, rfl⟩⟩, ((Below.refl _ _).alloc (Nat.le_refl _) _).alloc (by simp) _⟩

theorem byte255 (c : UInt8) : c.toNat ≤ 255 := by have := c.toNat_lt; omega

theorem mkB_may {ns : List UInt8} {start : Int} (k : Nat) (h1 : 1 ≤ start) (h2 : start + k ≤ 9007199254740992) : AllMay (mkB ns start k) := by
  intro b hb
  unfold mkB at hb
  obtain ⟨i, hi, rfl⟩ := List.mem_map.1 hb
  rw [List.mem_range] at hi
  exact batN_may (byte255 _) (by omega) (by omega)

theorem mkB_consec (ns : List UInt8) (start : Int) (k : Nat) : Consec start (mkB ns start k) := by
  intro i b hb
  unfold mkB at hb
  rw [List.getElem?_map] at hb
  rcases Nat.lt_or_ge i k with h | h
  · rw [List.getElem?_range h] at hb
    simp only [Option.map_some, Option.some.injEq] at hb
    rw [← hb]
    rfl
  · rw [List.getElem?_eq_none (by simpa using h)] at hb
    cases hb

set_option maxRecDepth 100000 in
set_option maxHeartbeats 16000000 in
theorem make_any (w : World) (v : Value) (ns : List UInt8) (start : Int) (h : RdB w v ns) (hn : ns.length ≤ 1000) (hs : 0 ≤ start ∧ start ≤ 1000000) :
    Calls Try.prog 16 #[v, .int .i64 start] w (RetBs w (mkB ns start ns.length)) := by
  obtain ⟨a, cap, rfl, _, hcap⟩ := h.form
  unfold maxLen at hcap
  have HV := Lib.hid h
  clear h
  go_enter Try.func16, Try.ntmps16
  go_wp2
  go_loopw [5, 6] (fun u i wr => ∃ (k : Nat) (xs : List BV), k ≤ ns.length ∧ i = .int .i64 k ∧ Hid (xs.map (·.1) = mkB ns start k) ∧ Hid (OwnBs wr w.heap.size u xs) ∧ Hid (Below w.heap.size w wr)) (fun _ i _ => ns.length - (intOf i).toNat)
  case atStart => exact ⟨0, [], Nat.zero_le _, rfl, Lib.hid rfl, Lib.hid (OwnBs.nil _ _), Lib.hid (Below.refl _ _)⟩
  case round =>
    obtain ⟨k, xs, hk, rfl, HX, HO, HB⟩ := hrel
    by_cases hlt : k < ns.length
    · obtain ⟨b, off, cp, hv, _, _, hbw, hcell⟩ := (HV.out.below HB.out (Nat.le_refl _)).cells (by intro e; rw [e] at hlt; simp at hlt)
      cases hv
      have a0 := hcell k hlt
      have HLX : Hid (xs.length = k) := Lib.hid (by have := congrArg List.length HX.out; rw [mkB_length] at this; simpa using this)
      have HXN : Hid (∀ c : Value, (xs ++ [((batN (ns.getD k 0).toNat (start + k), c) : BV)]).map (fun x => x.1) = mkB ns start (k + 1)) := Lib.hid fun c => by rw [mkB_more, ← HX.out, List.map_append]; rfl
      have hn255 := byte255 (ns.getD k 0)
      have hb1 : bv (ns.getD k 0) = .int .u8 ((ns.getD k 0).toNat : Int) := rfl
      rw [hb1] at a0
      clear hcell hb1
      generalize (ns.getD k 0).toNat = n at *
      have HMAY := Lib.hid (opsN_may hn255)
      have HSZ : Hid (1 ≤ start + k → (batN n (start + k)).s = start + k) := Lib.hid fun _ => rfl
      obtain ⟨d7, hd7⟩ : ∃ d, n % 7 = d := ⟨_, rfl⟩
      obtain ⟨d5, hd5⟩ : ∃ d, n % 5 = d := ⟨_, rfl⟩
      obtain ⟨d3, hd3⟩ : ∃ d, n % 3 = d := ⟨_, rfl⟩
      obtain ⟨d4, hd4⟩ : ∃ d, n % 4 = d := ⟨_, rfl⟩
      have b7 : d7 < 7 := by omega
      have b4 : d4 < 4 := by omega
      have m7 : (n : Int).tmod 7 = (d7 : Int) := by rw [Int.tmod_eq_emod_of_nonneg (by omega)]; omega
      have m5 : (n : Int).tmod 5 = (d5 : Int) := by rw [Int.tmod_eq_emod_of_nonneg (by omega)]; omega
      have m3 : (n : Int).tmod 3 = (d3 : Int) := by rw [Int.tmod_eq_emod_of_nonneg (by omega)]; omega
      have m4 : (n : Int).tmod 4 = (d4 : Int) := by rw [Int.tmod_eq_emod_of_nonneg (by omega)]; omega
      have w7 : IntKind.i64.wrap (d7 : Int) = (d7 : Int) := IntWalk.i64_in _ (by omega)
      have w5 : IntKind.i64.wrap (d5 : Int) = (d5 : Int) := IntWalk.i64_in _ (by omega)
      have w3 : IntKind.i64.wrap (d3 : Int) = (d3 : Int) := IntWalk.i64_in _ (by omega)
      have w4 : IntKind.i64.wrap (d4 : Int) = (d4 : Int) := IntWalk.i64_in _ (by omega)
      have wsk : IntKind.i64.wrap (start + (k : Int)) = start + (k : Int) := IntWalk.i64_in _ (by omega)
      have wk : IntKind.i64.wrap ((k : Int) + 1) = (k : Int) + 1 := IntWalk.i64_in _ (by omega)
      have hT7 := strB_app9 [107] (digL d7)
      have hT4 := strB_app9 [108] (digL d4)
      have l7 : ¬ 9223372036854775807 < 1 + (digL d7).length := by have := digL_len d7; omega
      have l4 : ¬ 9223372036854775807 < 1 + (digL d4).length := by have := digL_len d4; omega
      have D7 := Lib.hid (fun W => rdigits_any d7 (by omega) W)
      have DN := Lib.hid (fun W => rdigits_any n (by omega) W)
      have D4 := Lib.hid (fun W => rdigits_any d4 (by omega) W)
      have HOF := Lib.hid HO.out.form
      have HWF : Hid ((Lit.int .i64 (start + (k : Int))).wf = true) := Lib.hid (by simp [Lit.wf, IntKind.min, IntKind.max, IntKind.signed, IntKind.bits]; omega)
      have HN7 := Lib.hid hd7
      have HN4 := Lib.hid hd4
      have HN5 := Lib.hid hd5
      have HN3 := Lib.hid hd3
      clear hd7 hd5 hd3 hd4 HX
      by_cases h5 : d5 = 0
      · have HOP : Hid (opN n = (⟨2, strB (107 :: digL d7), ⟨#[]⟩⟩ : Ope)) := Lib.hid (by unfold opN; rw [HN7.out, HN5.out, if_pos h5])
        subst h5
        go_upto_region 10 with (first | (go_at_call 27; (with_reducible refine (D7.out _).mono ?_); rintro e w1 ⟨rfl, hb⟩; have HW1 := Lib.hid (hb); clear hb) | (go_at_call 27; (with_reducible refine (DN.out _).mono ?_); rintro e w2 ⟨rfl, hb⟩; have HW2 := Lib.hid (HW1.out.trans (hb.mono HW1.out.size)); clear hb))
        obtain ⟨wC, hwC⟩ : ∃ wC, wC = (w2.alloc (.cells #[.int .i64 2, .string (strB (107 :: digL d7)), .string (⟨#[]⟩)] 43)).alloc (.cells #[.int .i64 2, .string (strB (107 :: digL d7)), .string (⟨#[]⟩)] 43) := ⟨_, rfl⟩
        rw [← hwC]
        obtain ⟨hoc, hbc⟩ := own_one w2 wC (⟨2, strB (107 :: digL d7), ⟨#[]⟩⟩ : Ope) hwC
        rw [← HOP.out] at hoc
        have HOC := Lib.hid hoc
        have HC : Hid (Below wr.heap.size wr wC) := Lib.hid (HW2.out.trans (hbc.mono HW2.out.size))
        clear hwC hoc hbc
        obtain ⟨ua, uc, rfl, _, huc⟩ := HOF.out
        unfold maxLen at huc
        by_cases h3 : d3 = 0
        · have HOS : Hid (opsN n = [opN n, opM n]) := Lib.hid (by unfold opsN; rw [HN3.out, if_pos h3])
          have HOM : Hid (opM n = ⟨1, strB (108 :: digL d4), strB [120]⟩) := Lib.hid (by unfold opM; rw [HN4.out])
          subst h3
          go_wp2_with (first | (go_at_call 27; (with_reducible refine (D4.out _).mono ?_); rintro e w4 ⟨rfl, hb⟩; have HW4 := Lib.hid (HC.out.trans (hb.mono HC.out.size)); have hbp : Below wC.heap.size wC (w4.alloc (.cells #[.int .i64 1, .string (strB (108 :: digL d4)), .string (strB [120])] 43)) := hb.alloc hb.size _; have Y1 := Lib.hid (own_kept HOC.out (Kept.of hbp fun _ h => h) fun q hq => own_lt HOC.out q hq); clear hb hbp; have Y2 : Hid (Rd (w4.alloc (.cells #[.int .i64 1, .string (strB (108 :: digL d4)), .string (strB [120])] 43)) 3 (.slice (some ⟨w4.heap.size, 0, none⟩) 1 1) 1 (opM n).cells) := Lib.hid (by rw [HOM.out]; exact one_op w4 ⟨1, strB (108 :: digL d4), strB [120]⟩)) | (at_builtin; refine wpList_plain rfl fun K' hK' => ?_; refine wp_append_at (.tmp 39) (.tmp 45) 22 rfl 43 3 40 (.agg #[.int .i64 0, .string ⟨#[]⟩, .string ⟨#[]⟩]) Try.underlying22 info_op rfl (by decide) _ _ 1 1 _ _ rfl rfl Y1.out Y2.out (opCells_one _) ?m1 ?m2 ?j1))
          case m1 => decide
          case m2 => unfold maxLen; decide
          case j1 =>
            intro v4 w5 hown4 hm4
            refine hK' _ _ ?_
            have HRD : Hid (RdO w5 v4 (opsN n)) := Lib.hid ⟨by rw [HOS.out]; exact rd_of_own hown4, fun o ho => mayO_fits (HMAY.out o ho)⟩
            have HE : Hid (Below wr.heap.size wr w5) := Lib.hid ((HW4.out.alloc HW4.out.size _).grown hm4.grown (Nat.le_trans HW4.out.size (by simp)) fun q hq => by cases hq; have := HW2.out.size; show wr.heap.size ≤ w2.heap.size + 1; omega)
            obtain ⟨va, vc, rfl, _, _⟩ := HRD.out.form
            clear hown4 hm4
            go_wp2_with (first | (go_at_call 28; (with_reducible refine (rnorm_any _ (opsN n) _ HRD.out (by have := opsN_len n; omega)).mono ?_); rintro e wF ⟨nv, rfl, ho, hb⟩; obtain ⟨na, nc, rfl, _, _⟩ := ho.form; have HFB := Lib.hid (HE.out.trans (hb.mono HE.out.size)); obtain ⟨x1, x2⟩ := HO.out.push (x := (batN n (start + k), .slice na (normL (opsN n)).length nc)) (w1 := wF.alloc (.cells #[.int .i64 (start + (k : Int)), .slice na (normL (opsN n)).length nc] 24)) (HFB.out.alloc HFB.out.size _) HB.out.size ⟨own_mono (OwnO.below ho ((Below.refl _ _).alloc (Nat.le_refl _) _) (Nat.le_refl _)) (Nat.le_trans HB.out.size HE.out.size), fun o ho => mayO_fits (HMAY.out o (normL_mem ho)), HWF.out, fun q hq e => by have := (World.ownsRow.lt ho q hq).1; have := (HO.out.lt (.inl e)).2; have := HE.out.size; omega⟩; have X1 := Lib.hid x1; have X2 := Lib.hid x2; clear x1 x2 ho hb) | (at_builtin; refine wpList_plain rfl fun K' hK' => ?_; refine wp_append_at (.tmp 47) (.tmp 54) 28 rfl 24 2 32 (.agg #[.int .i64 0, .slice none 0 0]) Try.underlying28 info_bats rfl (by decide) _ _ _ 1 _ _ rfl rfl X1.out (one_bat _ _ _) (by simp [Value.oneCell']) ?n1 ?n2 ?k1))
            case n1 => have := HLX.out; omega
            case n2 => have := HLX.out; unfold maxLen; omega
            case k1 =>
              intro v' w' hown hmv
              refine hK' _ _ ?_
              obtain ⟨q1, q2⟩ := X2.out v' w' hown hmv
              have Q1 := Lib.hid q1
              have Q2 := Lib.hid q2
              clear q1 q2 hown hmv
              go_wp2
              go_roundw
              case rel => exact ⟨k + 1, _, by omega, by go_num, Lib.hid (HXN.out _), Q1, Lib.hid (HB.out.trans Q2.out)⟩
              case measure => simp [intOf]; omega
        · have HOS : Hid (opsN n = [opN n]) := Lib.hid (by unfold opsN; rw [HN3.out, if_neg h3])
          have g3 : ((d3 : Int) == 0) = false := by rw [beq_eq_false_iff_ne]; omega
          have HRD : Hid (RdO wC (.slice (some ⟨w2.heap.size + 1, 0, none⟩) 1 1) (opsN n)) := Lib.hid ⟨by rw [HOS.out]; exact rd_of_own HOC.out, fun o ho => mayO_fits (HMAY.out o ho)⟩
          have HE := HC
          go_wp2_with (first | (go_at_call 28; (with_reducible refine (rnorm_any _ (opsN n) _ HRD.out (by have := opsN_len n; omega)).mono ?_); rintro e wF ⟨nv, rfl, ho, hb⟩; obtain ⟨na, nc, rfl, _, _⟩ := ho.form; have HFB := Lib.hid (HE.out.trans (hb.mono HE.out.size)); obtain ⟨x1, x2⟩ := HO.out.push (x := (batN n (start + k), .slice na (normL (opsN n)).length nc)) (w1 := wF.alloc (.cells #[.int .i64 (start + (k : Int)), .slice na (normL (opsN n)).length nc] 24)) (HFB.out.alloc HFB.out.size _) HB.out.size ⟨own_mono (OwnO.below ho ((Below.refl _ _).alloc (Nat.le_refl _) _) (Nat.le_refl _)) (Nat.le_trans HB.out.size HE.out.size), fun o ho => mayO_fits (HMAY.out o (normL_mem ho)), HWF.out, fun q hq e => by have := (World.ownsRow.lt ho q hq).1; have := (HO.out.lt (.inl e)).2; have := HE.out.size; omega⟩; have X1 := Lib.hid x1; have X2 := Lib.hid x2; clear x1 x2 ho hb) | (at_builtin; refine wpList_plain rfl fun K' hK' => ?_; refine wp_append_at (.tmp 47) (.tmp 54) 28 rfl 24 2 32 (.agg #[.int .i64 0, .slice none 0 0]) Try.underlying28 info_bats rfl (by decide) _ _ _ 1 _ _ rfl rfl X1.out (one_bat _ _ _) (by simp [Value.oneCell']) ?n1 ?n2 ?k1))
          case n1 => have := HLX.out; omega
          case n2 => have := HLX.out; unfold maxLen; omega
          case k1 =>
            intro v' w' hown hmv
            refine hK' _ _ ?_
            obtain ⟨q1, q2⟩ := X2.out v' w' hown hmv
            have Q1 := Lib.hid q1
            have Q2 := Lib.hid q2
            clear q1 q2 hown hmv
            go_wp2
            go_roundw
            case rel => exact ⟨k + 1, _, by omega, by go_num, Lib.hid (HXN.out _), Q1, Lib.hid (HB.out.trans Q2.out)⟩
            case measure => simp [intOf]; omega
      · have HOP : Hid (opN n = (⟨1, strB (107 :: digL d7), strB (digL n)⟩ : Ope)) := Lib.hid (by unfold opN; rw [HN7.out, HN5.out, if_neg h5])
        have g5 : ((d5 : Int) == 0) = false := by rw [beq_eq_false_iff_ne]; omega
        go_upto_region 10 with (first | (go_at_call 27; (with_reducible refine (D7.out _).mono ?_); rintro e w1 ⟨rfl, hb⟩; have HW1 := Lib.hid (hb); clear hb) | (go_at_call 27; (with_reducible refine (DN.out _).mono ?_); rintro e w2 ⟨rfl, hb⟩; have HW2 := Lib.hid (HW1.out.trans (hb.mono HW1.out.size)); clear hb))
        obtain ⟨wC, hwC⟩ : ∃ wC, wC = (w2.alloc (.cells #[.int .i64 1, .string (strB (107 :: digL d7)), .string (strB (digL n))] 43)).alloc (.cells #[.int .i64 1, .string (strB (107 :: digL d7)), .string (strB (digL n))] 43) := ⟨_, rfl⟩
        rw [← hwC]
        obtain ⟨hoc, hbc⟩ := own_one w2 wC (⟨1, strB (107 :: digL d7), strB (digL n)⟩ : Ope) hwC
        rw [← HOP.out] at hoc
        have HOC := Lib.hid hoc
        have HC : Hid (Below wr.heap.size wr wC) := Lib.hid (HW2.out.trans (hbc.mono HW2.out.size))
        clear hwC hoc hbc
        obtain ⟨ua, uc, rfl, _, huc⟩ := HOF.out
        unfold maxLen at huc
        by_cases h3 : d3 = 0
        · have HOS : Hid (opsN n = [opN n, opM n]) := Lib.hid (by unfold opsN; rw [HN3.out, if_pos h3])
          have HOM : Hid (opM n = ⟨1, strB (108 :: digL d4), strB [120]⟩) := Lib.hid (by unfold opM; rw [HN4.out])
          subst h3
          go_wp2_with (first | (go_at_call 27; (with_reducible refine (D4.out _).mono ?_); rintro e w4 ⟨rfl, hb⟩; have HW4 := Lib.hid (HC.out.trans (hb.mono HC.out.size)); have hbp : Below wC.heap.size wC (w4.alloc (.cells #[.int .i64 1, .string (strB (108 :: digL d4)), .string (strB [120])] 43)) := hb.alloc hb.size _; have Y1 := Lib.hid (own_kept HOC.out (Kept.of hbp fun _ h => h) fun q hq => own_lt HOC.out q hq); clear hb hbp; have Y2 : Hid (Rd (w4.alloc (.cells #[.int .i64 1, .string (strB (108 :: digL d4)), .string (strB [120])] 43)) 3 (.slice (some ⟨w4.heap.size, 0, none⟩) 1 1) 1 (opM n).cells) := Lib.hid (by rw [HOM.out]; exact one_op w4 ⟨1, strB (108 :: digL d4), strB [120]⟩)) | (at_builtin; refine wpList_plain rfl fun K' hK' => ?_; refine wp_append_at (.tmp 39) (.tmp 45) 22 rfl 43 3 40 (.agg #[.int .i64 0, .string ⟨#[]⟩, .string ⟨#[]⟩]) Try.underlying22 info_op rfl (by decide) _ _ 1 1 _ _ rfl rfl Y1.out Y2.out (opCells_one _) ?m1 ?m2 ?j1))
          case m1 => decide
          case m2 => unfold maxLen; decide
          case j1 =>
            intro v4 w5 hown4 hm4
            refine hK' _ _ ?_
            have HRD : Hid (RdO w5 v4 (opsN n)) := Lib.hid ⟨by rw [HOS.out]; exact rd_of_own hown4, fun o ho => mayO_fits (HMAY.out o ho)⟩
            have HE : Hid (Below wr.heap.size wr w5) := Lib.hid ((HW4.out.alloc HW4.out.size _).grown hm4.grown (Nat.le_trans HW4.out.size (by simp)) fun q hq => by cases hq; have := HW2.out.size; show wr.heap.size ≤ w2.heap.size + 1; omega)
            obtain ⟨va, vc, rfl, _, _⟩ := HRD.out.form
            clear hown4 hm4
            go_wp2_with (first | (go_at_call 28; (with_reducible refine (rnorm_any _ (opsN n) _ HRD.out (by have := opsN_len n; omega)).mono ?_); rintro e wF ⟨nv, rfl, ho, hb⟩; obtain ⟨na, nc, rfl, _, _⟩ := ho.form; have HFB := Lib.hid (HE.out.trans (hb.mono HE.out.size)); obtain ⟨x1, x2⟩ := HO.out.push (x := (batN n (start + k), .slice na (normL (opsN n)).length nc)) (w1 := wF.alloc (.cells #[.int .i64 (start + (k : Int)), .slice na (normL (opsN n)).length nc] 24)) (HFB.out.alloc HFB.out.size _) HB.out.size ⟨own_mono (OwnO.below ho ((Below.refl _ _).alloc (Nat.le_refl _) _) (Nat.le_refl _)) (Nat.le_trans HB.out.size HE.out.size), fun o ho => mayO_fits (HMAY.out o (normL_mem ho)), HWF.out, fun q hq e => by have := (World.ownsRow.lt ho q hq).1; have := (HO.out.lt (.inl e)).2; have := HE.out.size; omega⟩; have X1 := Lib.hid x1; have X2 := Lib.hid x2; clear x1 x2 ho hb) | (at_builtin; refine wpList_plain rfl fun K' hK' => ?_; refine wp_append_at (.tmp 47) (.tmp 54) 28 rfl 24 2 32 (.agg #[.int .i64 0, .slice none 0 0]) Try.underlying28 info_bats rfl (by decide) _ _ _ 1 _ _ rfl rfl X1.out (one_bat _ _ _) (by simp [Value.oneCell']) ?n1 ?n2 ?k1))
            case n1 => have := HLX.out; omega
            case n2 => have := HLX.out; unfold maxLen; omega
            case k1 =>
              intro v' w' hown hmv
              refine hK' _ _ ?_
              obtain ⟨q1, q2⟩ := X2.out v' w' hown hmv
              have Q1 := Lib.hid q1
              have Q2 := Lib.hid q2
              clear q1 q2 hown hmv
              go_wp2
              go_roundw
              case rel => exact ⟨k + 1, _, by omega, by go_num, Lib.hid (HXN.out _), Q1, Lib.hid (HB.out.trans Q2.out)⟩
              case measure => simp [intOf]; omega
        · have HOS : Hid (opsN n = [opN n]) := Lib.hid (by unfold opsN; rw [HN3.out, if_neg h3])
          have g3 : ((d3 : Int) == 0) = false := by rw [beq_eq_false_iff_ne]; omega
          have HRD : Hid (RdO wC (.slice (some ⟨w2.heap.size + 1, 0, none⟩) 1 1) (opsN n)) := Lib.hid ⟨by rw [HOS.out]; exact rd_of_own HOC.out, fun o ho => mayO_fits (HMAY.out o ho)⟩
          have HE := HC
          go_wp2_with (first | (go_at_call 28; (with_reducible refine (rnorm_any _ (opsN n) _ HRD.out (by have := opsN_len n; omega)).mono ?_); rintro e wF ⟨nv, rfl, ho, hb⟩; obtain ⟨na, nc, rfl, _, _⟩ := ho.form; have HFB := Lib.hid (HE.out.trans (hb.mono HE.out.size)); obtain ⟨x1, x2⟩ := HO.out.push (x := (batN n (start + k), .slice na (normL (opsN n)).length nc)) (w1 := wF.alloc (.cells #[.int .i64 (start + (k : Int)), .slice na (normL (opsN n)).length nc] 24)) (HFB.out.alloc HFB.out.size _) HB.out.size ⟨own_mono (OwnO.below ho ((Below.refl _ _).alloc (Nat.le_refl _) _) (Nat.le_refl _)) (Nat.le_trans HB.out.size HE.out.size), fun o ho => mayO_fits (HMAY.out o (normL_mem ho)), HWF.out, fun q hq e => by have := (World.ownsRow.lt ho q hq).1; have := (HO.out.lt (.inl e)).2; have := HE.out.size; omega⟩; have X1 := Lib.hid x1; have X2 := Lib.hid x2; clear x1 x2 ho hb) | (at_builtin; refine wpList_plain rfl fun K' hK' => ?_; refine wp_append_at (.tmp 47) (.tmp 54) 28 rfl 24 2 32 (.agg #[.int .i64 0, .slice none 0 0]) Try.underlying28 info_bats rfl (by decide) _ _ _ 1 _ _ rfl rfl X1.out (one_bat _ _ _) (by simp [Value.oneCell']) ?n1 ?n2 ?k1))
          case n1 => have := HLX.out; omega
          case n2 => have := HLX.out; unfold maxLen; omega
          case k1 =>
            intro v' w' hown hmv
            refine hK' _ _ ?_
            obtain ⟨q1, q2⟩ := X2.out v' w' hown hmv
            have Q1 := Lib.hid q1
            have Q2 := Lib.hid q2
            clear q1 q2 hown hmv
            go_wp2
            go_roundw
            case rel => exact ⟨k + 1, _, by omega, by go_num, Lib.hid (HXN.out _), Q1, Lib.hid (HB.out.trans Q2.out)⟩
            case measure => simp [intOf]; omega
    · obtain rfl : k = ns.length := by omega
      go_wp2
      go_ret
      exact ⟨_, xs, rfl, HX.out, HO.out, HB.out⟩
end Go.Proofs.Ytpbmacbogmnokaa

/-
  What the document's SameBatch does, for every two batches.
-/
namespace Go.Proofs.Ytpbmacbogmnokaa
open Go.RowKit

set_option maxRecDepth 100000 in
set_option maxHeartbeats 1000000 in
theorem rsameB_any (s1 s2 : Int) (v1 v2 : Value) (l1 l2 : List Ope) (w : World) (h1 : RdO w v1 l1) (h2 : RdO w v2 l2) :
    Calls Try.prog 21 #[batV s1 v1, batV s2 v2] w fun e w' => e = .returned (.bool (s1 == s2 && sameL l1 l2)) ∧ Below w.heap.size w w' := by
  obtain ⟨a1, c1, rfl, _, _⟩ := h1.form
  obtain ⟨a2, c2, rfl, _, _⟩ := h2.form
  have hb : Below w.heap.size w ((w.alloc (.cells #[.int .i64 s1, .slice a1 l1.length c1] 24)).alloc (.cells #[.int .i64 s2, .slice a2 l2.length c2] 24)) := ((Below.refl _ _).alloc (Nat.le_refl _) _).alloc (by simp) _
  have hs := rsame_any _ _ l1 l2 _ (h1.below hb (Nat.le_refl _)) (h2.below hb (Nat.le_refl _))
  have HS := Lib.hid hs
  have HB := Lib.hid hb
  clear hs hb h1 h2
  by_cases he : s1 = s2
  · subst he
    have h3 : (s1 == s1) = true := by simp
    rw [h3]
    clear h3
    go_enter Try.func21, Try.ntmps21
    go_wp2_with (go_at_call 35; refine HS.out.mono ?_; rintro e w3 ⟨rfl, hb3⟩; have HB3 := Lib.hid (HB.out.trans (hb3.mono (by simp; omega))); clear hb3)
    go_ret
    exact ⟨by simp, HB3.out⟩
  · have h3 : (s1 == s2) = false := by simpa using he
    rw [h3]
    clear he
    go_enter Try.func21, Try.ntmps21
    go_wp2
    go_ret
    exact ⟨by simp, HB.out⟩
end Go.Proofs.Ytpbmacbogmnokaa

/-
  What the document's Batches does, for two lists of batches that are one.
-/
namespace Go.Proofs.Ytpbmacbogmnokaa
open Go.RowKit

theorem bats_len {xs ys : List BV} (h : xs.map (·.1) = ys.map (·.1)) : ys.length = xs.length := by
  have := congrArg List.length h
  simpa using this.symm

theorem bats_at {xs ys : List BV} (h : xs.map (·.1) = ys.map (·.1)) (i : Nat) : (ys.getD i BV.none_).1 = (xs.getD i BV.none_).1 := by
  have e : ∀ l : List BV, (l.getD i BV.none_).1 = (l.map (·.1)).getD i default := by
    intro l
    simp only [List.getD, List.getElem?_map]
    cases l[i]? <;> rfl
  rw [e, e, h]

set_option maxRecDepth 100000 in
set_option maxHeartbeats 4000000 in
theorem rbats_any (va vb : Value) (xs ys : List BV) (w : World) (ha : RdBs w va xs) (hb : RdBs w vb ys) (he : xs.map (·.1) = ys.map (·.1)) :
    Calls Try.prog 11 #[va, vb] w fun e w' => e = .returned (.bool true) ∧ Below w.heap.size w w' := by
  obtain ⟨pa, ca, rfl, _, hca⟩ := ha.form
  obtain ⟨pb, cb, rfl, _, hcb⟩ := hb.form
  unfold maxLen at hca hcb
  have HE := Lib.hid he
  have HA := Lib.hid ha
  have hlen := bats_len he
  rw [hlen] at hb
  have HB := Lib.hid hb
  have HLEN := Lib.hid hlen
  rw [hlen]
  clear ha hb he hlen hcb
  go_enter Try.func11, Try.ntmps11
  go_wp2
  go_loopw [5] (fun i wr => ∃ k : Nat, k ≤ xs.length ∧ i = .int .i64 k ∧ Hid (Below w.heap.size w wr)) (fun i _ => xs.length - (intOf i).toNat)
  case atStart => exact ⟨0, Nat.zero_le _, rfl, Lib.hid (Below.refl _ _)⟩
  case round =>
    obtain ⟨k, hk, rfl, HW⟩ := hrel
    by_cases hlt : k < xs.length
    · have hb0 := HB.out.below HW.out (Nat.le_refl _)
      obtain ⟨b1, o1, p1, q1, rfl, hb1, _, a0, a1, hr1, _⟩ := (HA.out.below HW.out (Nat.le_refl _)).at_ hlt
      rw [← HLEN.out] at hb0
      obtain ⟨b2, o2, p2, q2, rfl, hb2, _, b0, b1, hr2, _⟩ := hb0.at_ (i := k) (by rw [HLEN.out]; exact hlt)
      rw [bats_at HE.out] at b0 b1 hr2
      have ew : IntKind.i64.wrap ((k : Int) + 1) = (k : Int) + 1 := IntWalk.i64_in _ (by omega)
      clear hb0
      generalize (xs.getD k BV.none_).1 = x at *
      obtain ⟨s, ops⟩ := x
      simp only at *
      have HR1 : Hid (RdO wr.drew _ ops) := Lib.hid (hr1.below (Below.refl _ _).drew (Nat.le_refl _))
      have HR2 : Hid (RdO wr.drew _ ops) := Lib.hid (hr2.below (Below.refl _ _).drew (Nat.le_refl _))
      have HT : Hid ((s == s && sameL ops ops) = true) := Lib.hid (by rw [sameL_refl]; simp)
      clear hr1 hr2
      go_upto_region 6 with (fail)
      refine wp_region_plan [(true, 0), (true, 1), (true, 2), (true, 3), (true, 4), (true, 5), (true, 6), (true, 7), (false, 8), (true, 9)] (by kernel_rfl) (by kernel_rfl) (by kernel_rfl) (by kernel_rfl) (by kernel_rfl) ?_
      simp only [planO, List.drop_succ_cons, List.drop_zero]
      refine PlanO.take (v := ?v0) (by kernel_rfl) ?y0 ?r0
      case y0 => (intro wz hz; go_simp; try with_reducible rfl)
      (try simp only [Act.put, List.setIfInBounds_toArray, List.set_cons_zero, List.set_cons_succ])
      refine PlanO.take (v := ?v1) (by kernel_rfl) ?y1 ?r1
      case y1 => (intro wz hz; go_simp; try with_reducible rfl)
      (try simp only [Act.put, List.setIfInBounds_toArray, List.set_cons_zero, List.set_cons_succ])
      refine PlanO.take (v := ?v2) (by kernel_rfl) ?y2 ?r2
      case y2 => (intro wz hz; go_simp; try with_reducible rfl)
      (try simp only [Act.put, List.setIfInBounds_toArray, List.set_cons_zero, List.set_cons_succ])
      refine PlanO.take (v := ?v3) (by kernel_rfl) ?y3 ?r3
      case y3 => (intro wz hz; have c0 := Ext.at_ hz a0; have c1 := Ext.at_ hz a1; go_simp; try with_reducible rfl)
      (try simp only [Act.put, List.setIfInBounds_toArray, List.set_cons_zero, List.set_cons_succ])
      refine PlanO.take (v := ?v4) (by kernel_rfl) ?y4 ?r4
      case y4 => (intro wz hz; go_simp; try with_reducible rfl)
      (try simp only [Act.put, List.setIfInBounds_toArray, List.set_cons_zero, List.set_cons_succ])
      refine PlanO.take (v := ?v5) (by kernel_rfl) ?y5 ?r5
      case y5 => (intro wz hz; go_simp; try with_reducible rfl)
      (try simp only [Act.put, List.setIfInBounds_toArray, List.set_cons_zero, List.set_cons_succ])
      refine PlanO.take (v := ?v6) (by kernel_rfl) ?y6 ?r6
      case y6 => (intro wz hz; go_simp; try with_reducible rfl)
      (try simp only [Act.put, List.setIfInBounds_toArray, List.set_cons_zero, List.set_cons_succ])
      refine PlanO.take (v := ?v7) (by kernel_rfl) ?y7 ?r7
      case y7 => (intro wz hz; have c2 := Ext.at_ hz b0; have c3 := Ext.at_ hz b1; go_simp; try with_reducible rfl)
      (try simp only [Act.put, List.setIfInBounds_toArray, List.set_cons_zero, List.set_cons_succ])
      refine PlanO.exec (fun K hK => ?_)
      go_simp
      go_at_call 21
      (with_reducible refine (rsameB_any s s _ _ ops ops _ HR1.out HR2.out).mono ?_)
      rintro e w1 ⟨rfl, he1⟩
      rw [HT.out]
      have HE1 : Hid (Ext wr.drew w1) := Lib.hid he1
      go_wp2_with fail
      refine hK.out _ _ he1 ?_
      clear hK K
      (try simp only [Act.put, List.setIfInBounds_toArray, List.set_cons_zero, List.set_cons_succ])
      refine PlanO.take (v := ?v9) (by kernel_rfl) ?y9 ?r9
      case y9 => (intro wz hz; go_simp; try with_reducible rfl)
      (try simp only [Act.put, List.setIfInBounds_toArray, List.set_cons_zero, List.set_cons_succ])
      refine PlanO.done (NoPanic.normal ?_)
      go_wp2
      refine ⟨⟨k + 1, by omega, by go_num, Lib.hid (HW.out.trans (Below.mono (below_draw HE1.out) HW.out.size))⟩, ?_⟩
      simp [intOf]; omega
    · obtain rfl : k = xs.length := by omega
      go_wp2
      go_ret
      exact ⟨rfl, HW.out⟩
end Go.Proofs.Ytpbmacbogmnokaa

/-
  The example of layer 9.
-/
namespace Go.Proofs.Ytpbmacbogmnokaa
open Go.RowKit

def ex9 : Ope := ⟨2, ⟨#[97]⟩, ⟨#[]⟩⟩

theorem ex9_may : mayBt 1 [ex9] = true := by
  refine mayBt_mk9 (by decide) (by decide) ?_ ?_
  · exact mayOs_mk (by decide) (by decide) fun o ho => by
      obtain rfl := List.mem_singleton.1 ho
      decide
  · rfl

theorem ex9_len : (recB ⟨1, [ex9]⟩).length = 13 := by
  rw [recB_length (b := ⟨1, [ex9]⟩) ex9_may]
  have h1 : putL 1 = [1] := putL_lt 1 (by decide)
  have h2 : putL 2 = [2] := putL_lt 2 (by decide)
  unfold putBat
  rw [if_pos ex9_may]
  have h3 : (⟨#[97]⟩ : ByteArray).size = 1 := rfl
  unfold putBody putOpL putT ex9
  simp [h1, h2, h3]

theorem log_nil : logL [] = ([], 0) := (LogSo.start []).stop (recAt_no (none_nil []))

theorem ex9_fits : ∀ o ∈ [ex9], o.fits := (may_fits ex9_may).1

set_option maxRecDepth 100000 in
set_option maxHeartbeats 1000000 in
theorem awake9_any (w : World) : Calls Try.prog 8 #[] w fun e w' => e = .returned (.bool true) ∧ Below w.heap.size w w' := by
  have hs := rpscan_any w (.slice none 0 0) [] (Rd.nil _ _) (by simp)
  have hp : ∀ W : World, Calls Try.prog 12 #[batV 1 (.slice (some ⟨W.heap.size, 0, none⟩) 1 1)] (W.alloc (.cells #[.int .i64 2, .string ⟨#[97]⟩, .string ⟨#[]⟩] 43)) (RetB (W.alloc (.cells #[.int .i64 2, .string ⟨#[97]⟩, .string ⟨#[]⟩] 43)).heap.size (W.alloc (.cells #[.int .i64 2, .string ⟨#[97]⟩, .string ⟨#[]⟩] 43)) (recB ⟨1, [ex9]⟩)) :=
    fun W => rpput_any 1 (.slice (some ⟨W.heap.size, 0, none⟩) 1 1) [ex9] _ ⟨one_op W ex9, ex9_fits⟩ (by simp)
  have HL := Lib.hid ex9_len
  generalize recB ⟨1, [ex9]⟩ = l at hp HL
  have HS := Lib.hid hs
  have HP := Lib.hid hp
  have HN := Lib.hid log_nil
  clear hs hp
  go_enter Try.func8, Try.ntmps8
  go_wp2_with (first | (go_at_call 9; refine HS.out.mono ?_; rintro e w1 ⟨v1, xs, rfl, hx, ho1, hb1⟩; rw [HN.out] at hx ⊢; obtain rfl : xs = [] := List.map_eq_nil_iff.1 hx; obtain ⟨a1, c1, rfl, _, _⟩ := ho1.form; have HB1 := Lib.hid hb1; clear ho1 hb1 hx) | (go_at_call 12; refine (HP.out _).mono ?_; rintro e w2 ⟨v2, rfl, ho2, hb2⟩; obtain ⟨a2, c2, rfl, hc2, _⟩ := ho2.read.form; have HB2 := Lib.hid ((HB1.out.alloc HB1.out.size _).trans (hb2.mono (by have := HB1.out.size; simp; omega))); have hl := HL.out; rw [hl]; clear ho2 hb2 hc2 HL hl))
  go_ret
  exact ⟨by simp, HB2.out⟩
end Go.Proofs.Ytpbmacbogmnokaa

/-
  A row of records that is put together, and where they end: what stands in the statements' loops.
-/
namespace Go.Proofs.Ytpbmacbogmnokaa
open Go.RowKit

theorem info_int9 : (Try.prog.info? 3).map (fun i => (i.zero, i.size, i.bytes)) = some (some (.int .i64 0), 1, 8) := by kernel_rfl

theorem rowB_take (bs : List Bat) (k : Nat) (h : k < bs.length) : rowB (bs.take (k + 1)) = rowB (bs.take k) ++ recB (bs.getD k default) := by
  rw [List.take_succ_eq_append_getElem h, rowB_snoc]
  simp [List.getD, List.getElem?_eq_getElem h]

theorem rowB_take_len (bs : List Bat) (k : Nat) : (rowB (bs.take k)).length ≤ 100008 * k := by
  have := rowB_len (bs.take k)
  have h2 : (bs.take k).length ≤ k := by rw [List.length_take]; omega
  have := Nat.mul_le_mul_left 100008 h2
  omega

/-- A row of bytes of the call's own. -/
structure RB (V w : World) (xb : Value) (r : List UInt8) : Prop where
  own : OwnB w V.heap.size 5 xb r
  be : Below V.heap.size V w

theorem RB.start (V w : World) (h : Below V.heap.size V w) : RB V w (.slice none 0 0) [] := ⟨OwnB.nil _ _ _, h⟩

theorem RB.call {V w w1 : World} {xb : Value} {r : List UInt8} (h : RB V w xb r) (hb : Below w.heap.size w w1) : RB V w1 xb r := ⟨OwnB.below h.own hb (Nat.le_refl _), h.be.trans (hb.mono h.be.size)⟩

theorem RB.put {V w w2 : World} {xb xb' : Value} {r r' : List UInt8} (h : RB V w xb r) (h2 : OwnB w2 0 5 xb' r') (m2 : Moves w w2 xb xb') : RB V w2 xb' r' := by
  refine ⟨own_base h2 fun j hj => ?_, h.be.grown m2.grown h.be.size fun j hj => (World.ownsRow.lt h.own j hj).1⟩
  rcases m2.at_ j hj with e | e
  · exact (World.ownsRow.lt h.own j e).1
  · have := h.be.size
    omega

/-- .. and a list of numbers beside it. -/
structure CB (V w : World) (xb ev : Value) (r : List UInt8) (n : Nat) (es : List Value) : Prop where
  own : OwnB w V.heap.size 5 xb r
  ends : w.ownsRow V.heap.size 3 1 ev n es
  ap : ∀ j, xb.ownBlock = some j → ev.ownBlock ≠ some j
  be : Below V.heap.size V w

theorem CB.start (V w : World) (h : Below V.heap.size V w) : CB V w (.slice none 0 0) (.slice none 0 0) [] 0 [] :=
  ⟨OwnB.nil _ _ _, World.ownsRow_nil _ _ _ _, (fun j h => by cases h), h⟩

theorem CB.mid {V w w1 w2 : World} {xb ev xb' : Value} {r r' : List UInt8} {n : Nat} {es : List Value} (h : CB V w xb ev r n es) (hb1 : Below w.heap.size w w1)
    (h2 : OwnB w2 0 5 xb' r') (m2 : Moves w1 w2 xb xb') : CB V w2 xb' ev r' n es := by
  have hx : ∀ j, xb'.ownBlock = some j → xb.ownBlock = some j ∨ w1.heap.size ≤ j := fun j hj => (m2.at_ j hj).imp id fun h => h.1
  have hw := hb1.size
  have hW := h.be.size
  refine ⟨own_base h2 fun j hj => ?_, ?_, fun j hj he => ?_, (h.be.trans (hb1.mono hW)).grown m2.grown (by omega) fun j hj => (World.ownsRow.lt h.own j hj).1⟩
  · rcases hx j hj with e | e
    · exact (World.ownsRow.lt h.own j e).1
    · omega
  · have e1 := own_kept h.ends (R := fun k => k < w.heap.size) (Kept.of hb1 fun _ h => h) fun j hj => own_lt h.ends j hj
    exact own_kept e1 (m2.kept (R := fun k => k < w1.heap.size ∧ xb.ownBlock ≠ some k) fun _ h => h) fun j hj => ⟨own_lt e1 j hj, fun e => h.ap j e hj⟩
  · rcases hx j hj with e | e
    · exact h.ap j e he
    · have := own_lt h.ends j he
      omega

theorem CB.put {V w2 w3 : World} {xb ev ev' : Value} {r : List UInt8} {n : Nat} {es es' : List Value} {o : Obj} (h : CB V w2 xb ev r n es)
    (h3 : w3.ownsRow 0 3 1 ev' (n + 1) es') (m3 : Moves (w2.alloc o) w3 ev ev') : CB V w3 xb ev' r (n + 1) es' := by
  have hal : Below w2.heap.size w2 (w2.alloc o) := (Below.refl _ _).alloc (Nat.le_refl _) _
  have hx : ∀ j, ev'.ownBlock = some j → ev.ownBlock = some j ∨ (w2.alloc o).heap.size ≤ j := fun j hj => (m3.at_ j hj).imp id fun h => h.1
  have hw := hal.size
  have hW := h.be.size
  refine ⟨?_, own_base h3 fun j hj => ?_, fun j hj he => ?_, (h.be.alloc hW _).grown m3.grown (by omega) fun j hj => (World.ownsRow.lt h.ends j hj).1⟩
  · have e1 := OwnB.below h.own hal (Nat.le_refl _)
    exact own_kept e1 (m3.kept (R := fun k => k < (w2.alloc o).heap.size ∧ ev.ownBlock ≠ some k) fun _ h => h) fun j hj => ⟨own_lt e1 j hj, fun e => h.ap j hj e⟩
  · rcases hx j hj with e | e
    · exact (World.ownsRow.lt h.ends j e).1
    · omega
  · rcases hx j he with e | e
    · exact h.ap j hj e
    · have := own_lt h.own j hj
      omega

/-- Where the records end. -/
def endB (bs : List Bat) (k : Nat) : List Value := (List.range k).map fun j => .int .i64 ((rowB (bs.take (j + 1))).length : Int)
theorem endB_succ (bs : List Bat) (k : Nat) : endB bs (k + 1) = endB bs k ++ [.int .i64 ((rowB (bs.take (k + 1))).length : Int)] := by simp [endB, List.range_succ]
theorem endB_at (bs : List Bat) (k j : Nat) (h : j < k) : (endB bs k)[j]? = some (.int .i64 ((rowB (bs.take (j + 1))).length : Int)) := by simp [endB, h]

theorem bats_take (xs : List BV) (k : Nat) : (xs.take k).map (·.1) = (xs.map (·.1)).take k := by rw [List.map_take]
theorem bats_from (xs : List BV) (k : Nat) : (xs.drop k).map (·.1) = (xs.map (·.1)).drop k := by rw [List.map_drop]
theorem bats_getD (xs : List BV) (k : Nat) : (xs.map (·.1)).getD k default = (xs.getD k BV.none_).1 := map_getD xs k

/-- One of a list of batches that were made: it may be. -/
theorem made_may {xs : List BV} {bs : List Bat} (h : xs.map (·.1) = bs) (hm : AllMay bs) {k : Nat} (hk : k < xs.length) : mayBt (xs.getD k BV.none_).1.s (xs.getD k BV.none_).1.ops = true := by
  subst h
  exact hm _ (List.mem_map.2 ⟨_, bvGet hk, rfl⟩)
end Go.Proofs.Ytpbmacbogmnokaa

/-
  The walk of ReplayGaps: a log that begins anew with a number that is not the next one ends there.
-/
namespace Go.Proofs.Ytpbmacbogmnokaa
open Go.RowKit

def shiftB (d : Int) (b : Bat) : Bat := ⟨b.s + d, b.ops⟩
/-- The batches from 'k' on, below 'n', with numbers that are higher by 'd'. -/
def gapB (bs : List Bat) (k n : Nat) (d : Int) : List Bat := (List.range bs.length).map fun i => if k ≤ i ∧ i < n then shiftB d (bs.getD i default) else bs.getD i default

theorem gapB_length (bs : List Bat) (k n : Nat) (d : Int) : (gapB bs k n d).length = bs.length := by simp [gapB]

theorem gapB_at (bs : List Bat) (k n : Nat) (d : Int) (i : Nat) (h : i < bs.length) : (gapB bs k n d)[i]? = some (if k ≤ i ∧ i < n then shiftB d (bs.getD i default) else bs.getD i default) := by
  unfold gapB
  rw [List.getElem?_map, List.getElem?_range h]
  rfl

theorem getD_get (bs : List Bat) (i : Nat) (h : i < bs.length) : bs[i]? = some (bs.getD i default) := by
  simp [List.getD, List.getElem?_eq_getElem h]

theorem gapB_start (bs : List Bat) (k : Nat) (d : Int) : gapB bs k k d = bs := by
  refine List.ext_getElem? fun i => ?_
  rcases Nat.lt_or_ge i bs.length with h | h
  · rw [gapB_at _ _ _ _ _ h, getD_get _ _ h, if_neg (by omega)]
  · rw [List.getElem?_eq_none (by rw [gapB_length]; exact h), List.getElem?_eq_none h]

theorem gapB_set (bs : List Bat) (k n : Nat) (d : Int) (hk : k ≤ n) : (gapB bs k n d).set n (shiftB d (bs.getD n default)) = gapB bs k (n + 1) d := by
  refine List.ext_getElem? fun i => ?_
  rcases Nat.lt_or_ge i bs.length with h | h
  · rw [gapB_at _ _ _ _ _ h, List.getElem?_set]
    by_cases he : n = i
    · subst he
      rw [if_pos rfl, if_pos (by rw [gapB_length]; exact h), if_pos (by omega)]
    · rw [if_neg he, gapB_at _ _ _ _ _ h]
      congr 1
      by_cases h2 : k ≤ i ∧ i < n
      · rw [if_pos h2, if_pos (by omega)]
      · rw [if_neg h2, if_neg (by omega)]
  · rw [List.getElem?_eq_none (by rw [List.length_set, gapB_length]; exact h), List.getElem?_eq_none (by rw [gapB_length]; exact h)]

theorem gapB_done (bs : List Bat) (k : Nat) (d : Int) : gapB bs k bs.length d = bs.take k ++ (bs.drop k).map (shiftB d) := by
  refine List.ext_getElem? fun i => ?_
  rcases Nat.lt_or_ge i bs.length with h | h
  · rw [gapB_at _ _ _ _ _ h]
    by_cases hk : k ≤ i
    · rw [if_pos ⟨hk, h⟩, List.getElem?_append_right (by rw [List.length_take]; omega), List.length_take, Nat.min_eq_left (by omega), List.getElem?_map, List.getElem?_drop, show k + (i - k) = i by omega, getD_get _ _ h]
      rfl
    · rw [if_neg (by omega), List.getElem?_append_left (by rw [List.length_take]; omega), List.getElem?_take, if_pos (by omega), getD_get _ _ h]
  · rw [List.getElem?_eq_none (by rw [gapB_length]; exact h), List.getElem?_eq_none (by simp only [List.length_append, List.length_take, List.length_map, List.length_drop]; omega)]

theorem gap_may {bs : List Bat} {d : Int} (h : AllMay bs) (hd : 0 ≤ d ∧ d ≤ 255) (hs : ∀ b ∈ bs, b.s ≤ 1000) : AllMay (bs.map (shiftB d)) := by
  intro b hb
  obtain ⟨a, ha, rfl⟩ := List.mem_map.1 hb
  obtain ⟨h1, _, h3, h4⟩ := mayBt_true (h a ha)
  have := hs a ha
  exact mayBt_mk9 (show 1 ≤ a.s + d by omega) (show a.s + d ≤ 9007199254740992 by omega) h3 h4

theorem gap_consec {bs : List Bat} {n d : Int} (h : Consec n bs) : Consec (n + d) (bs.map (shiftB d)) := by
  intro i b hb
  rw [List.getElem?_map] at hb
  obtain ⟨a, ha, rfl⟩ := Option.map_eq_some_iff.1 hb
  have := h i a ha
  show a.s + d = n + d + i
  omega

theorem consec_low {bs : List Bat} (h : Consec 1 bs) (hl : bs.length ≤ 100) : ∀ b ∈ bs, b.s ≤ 1000 := by
  intro b hb
  obtain ⟨i, hi⟩ := List.mem_iff_getElem?.1 hb
  have := h i b hi
  have := (List.getElem?_eq_some_iff.1 hi).1
  omega

theorem batFlat_set : ∀ (xs : List BV) (n : Nat) (x y : BV), xs[n]? = some x → y.2 = x.2 → (xs.set n y).flatMap cellsB = (xs.flatMap cellsB).set (n * 2) (.int .i64 y.1.s)
  | [], n, x, y, h, _ => by simp at h
  | a :: r, 0, x, y, h, hy => by
    simp at h
    subst h
    obtain ⟨yb, yv⟩ := y
    simp only at hy
    subst hy
    rfl
  | a :: r, n + 1, x, y, h, hy => by
    have := batFlat_set r n x y (by simpa using h) hy
    rw [List.set_cons_succ, List.flatMap_cons, List.flatMap_cons, this, List.set_append_right _ _ (by simp [cellsB]; omega)]
    congr 2
    simp [cellsB]
    omega

/-- The number of one of them is set. -/
theorem OwnBs.setSeq {w : World} {B g cap n : Nat} {xs : List BV} {x : BV} (h : OwnBs w B (.slice (some ⟨g, 0, none⟩) xs.length cap) xs) (hn : xs[n]? = some x) (s : Int) (hs : (Lit.int .i64 s).wf = true) :
    OwnBs (w.setCell ⟨g, n * 2, none⟩ (.int .i64 s)) B (.slice (some ⟨g, 0, none⟩) xs.length cap) (xs.set n (⟨s, x.1.ops⟩, x.2)) := by
  have hk : Kept (fun q => q ≠ g) w (w.setCell ⟨g, n * 2, none⟩ (.int .i64 s)) := (Kept.refl _ _).setCell (by simp) _
  have hmem : x ∈ xs := List.mem_of_getElem? hn
  have keep : ∀ y : BV, y ∈ xs → OwnO (w.setCell ⟨g, n * 2, none⟩ (.int .i64 s)) B 43 y.2 y.1.ops := fun y hy => own_kept (h.2 y hy).1 hk fun q hq e => (h.2 y hy).2.2.2 q hq (by rw [e]; rfl)
  refine ⟨?_, fun y hy => ?_⟩
  · rw [batFlat_set xs n x (⟨s, x.1.ops⟩, x.2) hn rfl, List.length_set]
    exact (World.ownsRow.stored h.1 (n * 2) _).1
  · rcases List.mem_or_eq_of_mem_set hy with hy | rfl
    · exact ⟨keep y hy, (h.2 y hy).2⟩
    · exact ⟨keep x hmem, (h.2 x hmem).2.1, hs, (h.2 x hmem).2.2.2⟩

theorem rec_none : recB ⟨0, []⟩ = [] := recB_not rfl

theorem join_one {r : List UInt8} {bs : List Bat} {k e : Nat} (hr : logL r = (bs.take k, e)) (hc : Consec 1 bs) (hk : k ≤ bs.length) : joinL [r] 0 = bs.take k := by
  unfold joinL
  rw [List.flatMap_cons, List.flatMap_nil, hr]
  have := joinF_seg bs hc k 0 k 0 [] (by omega) (by omega) hk (Nat.le_refl _)
  simpa [joinF] using this

/-- A slice of one slice that was built. -/
theorem rdLL_one {w : World} {c : Value} {l : List UInt8} {e : Nat} (h : RdB w c l) : RdLL (w.alloc (.cells #[c] e)) (.slice (some ⟨w.heap.size, 0, none⟩) 1 1) [l] := by
  refine ⟨[c], ⟨_, 1, rfl, Nat.le_refl _, by unfold maxLen; omega, rfl, .inr ⟨w.heap.size, 0, rfl, by simp, fun j u hj => ?_⟩⟩, fun i d m hd hm => ?_⟩
  · rw [Nat.zero_add, blk_cell (heap_alloc_new w _)]
    simpa using hj
  · match i, hd, hm with
    | 0, hd, hm =>
      simp at hd hm
      subst hd hm
      exact h.below ((Below.refl _ _).alloc (Nat.le_refl _) _) (Nat.le_refl _)
    | i + 1, hd, hm => simp at hd

theorem wf_i64 {a : Int} (h : -9223372036854775808 ≤ a ∧ a ≤ 9223372036854775807) : (Lit.int .i64 a).wf = true := by
  simp [Lit.wf, IntKind.min, IntKind.max, IntKind.signed, IntKind.bits]
  omega

theorem opGetB {l : List BV} {i : Nat} (hi : i < l.length) : l[i]? = some (l.getD i BV.none_) := by
  simp [List.getD, List.getElem?_eq_getElem hi]

set_option maxRecDepth 100000 in
set_option maxHeartbeats 8000000 in
set_option linter.unusedSimpArgs false in
theorem replayGaps_walk (v : Value) (ns : List UInt8) (at_ by_ : Int) (W : World) (hv : RdB W v ns) (ha : (Lit.int .u8 at_).wf = true) (hb : (Lit.int .u8 by_).wf = true) :
    Calls Try.prog 7 #[v, .int .u8 at_, .int .u8 by_] W fun e w' => e = .returned (.bool true) ∧ Below W.heap.size W w' := by
  have hab := bounds_u8 ha
  have hbb := bounds_u8 hb
  clear ha hb
  have h9 := Lib.hid (fun w => awake9_any w)
  obtain ⟨na, nc, rfl, _, hnc⟩ := hv.form
  unfold maxLen at hnc
  by_cases g0 : (ns.length : Int) < 2
  · clear hv
    go_enter Try.func7, Try.ntmps7
    go_wp2_with (go_at_call 8; refine (h9.out _).mono ?_; rintro e w1 ⟨rfl, hb1⟩)
    go_ret
    exact ⟨rfl, hb1⟩
  by_cases g1 : (30 : Int) < (ns.length : Int)
  · clear hv
    go_enter Try.func7, Try.ntmps7
    go_wp2_with (go_at_call 8; refine (h9.out _).mono ?_; rintro e w1 ⟨rfl, hb1⟩)
    go_ret
    exact ⟨rfl, hb1⟩
  by_cases g2 : by_ = 0
  · subst g2
    clear hv
    go_enter Try.func7, Try.ntmps7
    go_wp2_with (go_at_call 8; refine (h9.out _).mono ?_; rintro e w1 ⟨rfl, hb1⟩)
    go_ret
    exact ⟨rfl, hb1⟩
  have hne : (by_ == 0) = false := by rw [beq_eq_false_iff_ne]; exact g2
  obtain ⟨an, rfl⟩ := Int.eq_ofNat_of_zero_le hab.1
  obtain ⟨N, hN⟩ : ∃ N, ns.length = N + 1 := ⟨ns.length - 1, by omega⟩
  obtain ⟨k1, hk⟩ : ∃ k, k = an % N := ⟨_, rfl⟩
  have hkl : k1 < N := by rw [hk]; exact Nat.mod_lt _ (by omega)
  have hk1 : (an : Int) % (N : Int) = (k1 : Int) := by rw [hk]; rfl
  have hk2 : (an : Int).tmod (N : Int) = (k1 : Int) := by rw [Int.tmod_eq_emod_of_nonneg (by omega)]; exact hk1
  have hw1 : IntKind.i64.wrap (N : Int) = (N : Int) := IntWalk.i64_in _ (by omega)
  have hw2 : IntKind.i64.wrap (k1 : Int) = (k1 : Int) := IntWalk.i64_in _ (by omega)
  have hw3 : IntKind.i64.wrap (1 + (k1 : Int)) = 1 + (k1 : Int) := IntWalk.i64_in _ (by omega)
  have HMK := Lib.hid (make_any W _ ns 1 hv (by omega) (by omega))
  have HMAY : Hid (AllMay (mkB ns 1 ns.length)) := Lib.hid (mkB_may ns.length (by omega) (by omega))
  have HCON : Hid (Consec 1 (mkB ns 1 ns.length)) := Lib.hid (mkB_consec ns 1 ns.length)
  have HLEN : Hid ((mkB ns 1 ns.length).length = N + 1) := Lib.hid ((mkB_length ns 1 ns.length).trans hN)
  generalize mkB ns 1 ns.length = bs at *
  have HBY := Lib.hid hbb
  have HNZ := Lib.hid g2
  have n0 : ¬ (N : Int) + 1 < 2 := by omega
  have n1 : ¬ (30 : Int) < (N : Int) + 1 := by omega
  have HN30 : Hid (N + 1 ≤ 30) := Lib.hid (by omega)
  clear hv hk g2 g0 g1
  rw [hN] at *
  clear hN
  go_enter Try.func7, Try.ntmps7
  go_wp2_with (go_at_call 16; (with_reducible refine HMK.out.mono ?_); rintro e w0 ⟨lv, xs, rfl, hxs, hown, hb0⟩; have hxl : xs.length = N + 1 := (by have := congrArg List.length hxs; rw [HLEN.out] at this; simpa using this); obtain ⟨g, lc, cur, rfl, hlc1, hlc, hgb, _, _⟩ := own_form hown.1 (by omega); unfold maxLen at hlc; rw [hxl] at hown hlc1 ⊢; have HXS := Lib.hid hxs; have HG := Lib.hid ((hown.lt (.inl rfl)).1); have HO0 := Lib.hid hown; have HB0 := Lib.hid hb0; have HXL := Lib.hid hxl; clear hxs hown hb0 hxl)
  obtain ⟨k, hkk⟩ : ∃ k : Nat, (1 + (k1 : Int)) = (k : Int) := ⟨1 + k1, by omega⟩
  rw [hkk]
  have HK : Hid (1 ≤ k ∧ k ≤ N) := Lib.hid (by omega)
  clear hk1 hk2 hw2 hw3 hkk hkl hab
  go_loopw [9] (fun i wr => ∃ (n : Nat) (ys : List BV), n ≤ N + 1 ∧ k ≤ n ∧ i = .int .i64 n ∧ Hid (ys.length = N + 1) ∧ Hid (ys.map (·.1) = gapB bs k n by_) ∧ Hid (OwnBs wr W.heap.size (.slice (some ⟨g, 0, none⟩) (N + 1) lc) ys) ∧ Hid (Below W.heap.size W wr)) (fun i _ => N + 1 - (intOf i).toNat)
  case atStart => exact ⟨k, xs, by have := HK.out; omega, Nat.le_refl _, rfl, HXL, Lib.hid (by rw [gapB_start]; exact HXS.out), HO0, HB0⟩
  case round =>
    obtain ⟨n, ys, hn, hkn, rfl, HYL, HYS, HO, HB⟩ := hrel
    by_cases hlt : n < N + 1
    · have hy := opGetB (l := ys) (i := n) (by rw [HYL.out]; exact hlt)
      have hyb : (ys.getD n BV.none_).1 = bs.getD n default := by
        have h1 := congrArg (fun l => l[n]?) HYS.out
        simp only [List.getElem?_map, gapB_at _ _ _ _ _ (show n < bs.length by rw [HLEN.out]; exact hlt), hy, Option.map_some, Option.some.injEq] at h1
        rw [h1, if_neg (by omega)]
      have hl := HO.out.read
      rw [← HYL.out] at hl
      obtain ⟨b, o, pa, pc, hpo, hbl, hx2, c0, c1, _, hwfs⟩ := hl.at_ (i := n) (by rw [HYL.out]; exact hlt)
      obtain ⟨rfl, rfl⟩ : b = g ∧ o = 0 := by simp at hpo; exact ⟨hpo.1.symm, hpo.2.symm⟩
      have hlow := consec_low HCON.out (by rw [HLEN.out]; have := HN30.out; omega) (bs.getD n default) (by
        have hh : n < bs.length := by rw [HLEN.out]; exact hlt
        simp only [List.getD, List.getElem?_eq_getElem hh, Option.getD_some]
        exact List.getElem_mem hh)
      have hlow1 := (mayBt_true (HMAY.out (bs.getD n default) (by
        have hh : n < bs.length := by rw [HLEN.out]; exact hlt
        simp only [List.getD, List.getElem?_eq_getElem hh, Option.getD_some]
        exact List.getElem_mem hh))).1
      rw [← hyb] at hlow hlow1
      have HST : Hid (∀ s, (Lit.int .i64 s).wf = true → OwnBs (wr.setCell ⟨b, n * 2, none⟩ (.int .i64 s)) W.heap.size (.slice (some ⟨b, 0, none⟩) (N + 1) lc) (ys.set n (⟨s, (ys.getD n BV.none_).1.ops⟩, (ys.getD n BV.none_).2))) := Lib.hid fun s hs => by
        have ho := HO.out
        rw [← HYL.out] at ho ⊢
        exact ho.setSeq hy s hs
      have HNX : Hid ((ys.set n (⟨(ys.getD n BV.none_).1.s + by_, (ys.getD n BV.none_).1.ops⟩, (ys.getD n BV.none_).2)).map (fun x => x.1) = gapB bs k (n + 1) by_) := Lib.hid (by
        rw [List.map_set, HYS.out, ← gapB_set bs k n by_ hkn, ← hyb]
        rfl)
      have hfz : wr.frozen? ⟨b, n * 2, none⟩ = false := by have ho := HO.out.1; rw [HYL.out] at ho; exact World.ownsRow.frozenAt ho (n * 2)
      rw [Nat.zero_add] at c0
      have hnw : IntKind.i64.wrap ((n : Int) + 1) = (n : Int) + 1 := IntWalk.i64_in _ (by have := HN30.out; omega)
      have hsw : IntKind.i64.wrap ((ys.getD n BV.none_).1.s + by_) = (ys.getD n BV.none_).1.s + by_ := IntWalk.i64_in _ (by have := HBY.out; omega)
      have HWF : Hid ((Lit.int .i64 ((ys.getD n BV.none_).1.s + by_)).wf = true) := Lib.hid (wf_i64 (by have := HBY.out; omega))
      have hni : (n : Int) < (N : Int) + 1 := by omega
      clear hl hy hyb hlow hlow1 hwfs hx2 hpo c1
      generalize (ys.getD n BV.none_).1 = x at *
      generalize (ys.getD n BV.none_).2 = xv at *
      obtain ⟨s, ops⟩ := x
      simp only at *
      go_wp2
      refine ⟨⟨n + 1, _, by omega, by omega, by go_num, Lib.hid (by rw [List.length_set]; exact HYL.out), HNX, Lib.hid (HST.out _ HWF.out), Lib.hid (HB.out.setCell HG.out _)⟩, ?_⟩
      simp [intOf]; omega
    · obtain rfl : n = N + 1 := by omega
      obtain ⟨gs, hgs⟩ : ∃ gs, gs = gapB bs k (N + 1) by_ := ⟨_, rfl⟩
      have hsplit : gs = bs.take k ++ (bs.drop k).map (shiftB by_) := by rw [hgs, ← HLEN.out, gapB_done]
      have hkk := HK.out
      have hby := HBY.out
      have hlowd : ∀ b ∈ bs.drop k, b.s ≤ 1000 := fun b hb => consec_low HCON.out (by rw [HLEN.out]; have := HN30.out; omega) b (List.mem_of_mem_drop hb)
      have hmd := gap_may (HMAY.out.drop k) HBY.out hlowd
      have HGM : Hid (AllMay gs) := Lib.hid (by
        rw [hsplit]
        intro b hb
        rcases List.mem_append.1 hb with h | h
        · exact HMAY.out.take k b h
        · exact hmd b h)
      have HGLOG : Hid (logL (rowB gs) = (bs.take k, (rowB (bs.take k)).length)) := Lib.hid (by
        rw [hsplit]
        refine log_gap (bs.take k) _ 1 (1 + (k : Int) + by_) (HMAY.out.take k) (HCON.out.take k) ?_ hmd (gap_consec (HCON.out.drop k)) ?_ ?_
        · rw [List.length_take, HLEN.out]; omega
        · rw [List.length_map, List.length_drop, HLEN.out]; omega
        · rw [List.length_take, HLEN.out]; have := HNZ.out; omega)
      have HGL : Hid (gs.length = N + 1) := Lib.hid (by rw [hgs, gapB_length]; exact HLEN.out)
      have HYG : Hid (ys.map (·.1) = gs) := Lib.hid (by rw [hgs]; exact HYS.out)
      have HYK : Hid ((ys.take k).map (·.1) = bs.take k) := Lib.hid (by
        rw [bats_take, HYG.out, hsplit, List.take_left' (by rw [List.length_take, HLEN.out]; omega)])
      have hrd := HO.out.read
      have HLY := Lib.hid hrd
      have HBV := Lib.hid HB.out
      obtain ⟨wV, hwV⟩ : ∃ wV, wV = wr := ⟨_, rfl⟩
      subst hwV
      rw [show ((N + 1 : Nat) : Int) = (N : Int) + 1 from rfl]
      clear hgs hsplit hlowd hmd HYS HO HB hrd hby
      go_wp2
      go_loopw [10, 11] (fun xb i wr => ∃ n : Nat, n ≤ N + 1 ∧ i = .int .i64 n ∧ Hid (RB wV wr xb (rowB (gs.take n)))) (fun _ i _ => N + 1 - (intOf i).toNat)
      case atStart => exact ⟨0, Nat.zero_le _, rfl, Lib.hid (RB.start wV wV (Below.refl _ _))⟩
      case round =>
        obtain ⟨n, hn, rfl, HF⟩ := hrel
        by_cases hlt : n < N + 1
        · have hly := HLY.out
          rw [← HYL.out] at hly
          have hlty : n < ys.length := by rw [HYL.out]; exact hlt
          obtain ⟨b, o, a, cap, hla, _, _, c0, c1, hrx, _⟩ := (hly.below HF.out.be (Nat.le_refl _)).at_ hlty
          obtain ⟨rfl, rfl⟩ : b = g ∧ o = 0 := by simp at hla; exact ⟨hla.1.symm, hla.2.symm⟩
          rw [Nat.zero_add] at c0 c1
          have hmay := made_may HYG.out HGM.out hlty
          have hput := rpput_any (ys.getD n BV.none_).1.s _ _ wr hrx (by have := may_len hmay; omega)
          have hrt := rowB_take gs n (by rw [HGL.out]; exact hlt)
          rw [← HYG.out, bats_getD, HYG.out] at hrt
          have hrow := rowB_take_len gs n
          have hrec := recB_len (ys.getD n BV.none_).1
          have hnw : IntKind.i64.wrap ((n : Int) + 1) = (n : Int) + 1 := IntWalk.i64_in _ (by have := HN30.out; omega)
          have hni : (n : Int) < (N : Int) + 1 := by omega
          have H30 := HN30.out
          clear hly hmay hla
          generalize (ys.getD n BV.none_).1 = x at *
          obtain ⟨s, ops⟩ := x
          simp only at *
          have HPUT := Lib.hid hput
          have HRT := Lib.hid hrt
          have HROW := Lib.hid hrow
          have HREC := Lib.hid hrec
          clear hput hrt hrow hrec hrx
          go_wp2_with (first | (go_at_call 12; (with_reducible refine HPUT.out.mono ?_); rintro e w1 ⟨u, rfl, hu, hb1⟩; obtain ⟨pa, pc, rfl⟩ := rdB_form' hu.read; have HU := Lib.hid hu.read; have HB1 := Lib.hid hb1; clear hu hb1) | (at_builtin; refine wpList_plain rfl fun K' hK' => ?_; refine wp_append_at (.tmp 62) (.tmp 67) 27 rfl 5 1 1 (.int .u8 0) Try.underlying27 info_u8 rfl (by decide) _ _ _ _ _ _ rfl rfl (own_base (OwnB.below HF.out.own HB1.out (Nat.le_refl _)) fun _ _ => Nat.zero_le _) HU.out (bv_oneCell _) (by have := HROW.out; have := HREC.out; omega) (by have := HROW.out; have := HREC.out; unfold maxLen; omega) ?_; intro xb' w5 hown hmv; refine hK' _ _ ?_; have hown2 : OwnB w5 0 5 xb' (rowB (gs.take (n + 1))) := (by rw [HRT.out]; unfold OwnB; rw [List.length_append, List.map_append]; exact hown); have HF3 := Lib.hid ((HF.out.call HB1.out).put hown2 hmv); clear hown hmv hown2 hK'))
          go_roundw
          case rel => exact ⟨n + 1, by omega, by go_num, HF3⟩
          case measure => simp [intOf]; omega
        · obtain rfl : n = N + 1 := by omega
          have hown := HF.out.own
          rw [← HGL.out, List.take_length] at hown
          have hrl := rowB_len gs
          rw [HGL.out] at hrl
          have HBr := Lib.hid HF.out.be
          obtain ⟨xa, xc, rfl⟩ := rdB_form' hown.read
          have HR := Lib.hid hown.read
          have HRL : Hid ((rowB gs).length ≤ 100008 * 30) := Lib.hid (by have := HN30.out; omega)
          have HRM : Hid ((logL (rowB gs)).1.length ≤ 1000000000) := Lib.hid (by have := logL_few (rowB gs); have := HRL.out; omega)
          have HJN : Hid (joinL [rowB gs] 0 = bs.take k) := Lib.hid (join_one HGLOG.out HCON.out (by rw [HLEN.out]; omega))
          have hklc : k ≤ lc := by omega
          have hkN : (k : Int) ≤ (N : Int) + 1 := by omega
          clear hown hrl HF
          generalize rowB gs = r at *
          generalize (rowB (bs.take k)).length = E at *
          have HF1 := Lib.hid (rpscan_any wr _ r HR.out (by have := HRL.out; omega))
          have HPN := Lib.hid (fun w => rpput_any 0 (.slice none 0 0) [] w ⟨Rd.nil _ _, by simp⟩ (by simp))
          rw [rec_none] at HPN
          have HJR : Hid (∀ w, RdB w (.slice xa r.length xc) r → Calls Try.prog 14 #[.slice (some ⟨w.heap.size, 0, none⟩) 1 1, .int .i64 0] (w.alloc (.cells #[.slice xa r.length xc] 27)) (RetBs (w.alloc (.cells #[.slice xa r.length xc] 27)) (bs.take k))) := Lib.hid fun w h => by
            rw [← HJN.out]
            refine rpjoin_any _ _ [r] 0 (rdLL_one h) (fun l hl => ?_) ?_ (by decide)
            · obtain rfl := List.mem_singleton.1 hl
              have := HRL.out
              omega
            · rw [List.flatMap_cons, List.flatMap_nil, List.append_nil]
              exact HRM.out
          go_wp2_with (first | (go_at_call 9; refine HF1.out.mono ?_; unfold ScanB; rw [HGLOG.out]; rintro e w1 ⟨v1, xs1, rfl, hx1, hv1, hb1⟩; obtain ⟨a1, c1, rfl, _, _⟩ := hv1.form; have HX1 := Lib.hid hx1; have HV1 := Lib.hid hv1.read; have HB1 := Lib.hid (HBr.out.trans (hb1.mono HBr.out.size)); have HR1 := Lib.hid (HR.out.below hb1 (Nat.le_refl _)); clear hv1 hb1 hx1) | (go_at_call 14; refine (HJR.out _ HR1.out).mono ?_; rintro e w2 ⟨v2, xs2, rfl, hx2, hv2, hb2⟩; obtain ⟨a2, c2, rfl, _, _⟩ := hv2.form; have HX2 := Lib.hid hx2; have HV2 := Lib.hid hv2.read; have hb12 := ((Below.refl w1.heap.size w1).alloc (Nat.le_refl _) _).trans (hb2.mono (by simp)); have HB2 := Lib.hid (HB1.out.trans (hb12.mono HB1.out.size)); have HV12 := Lib.hid (HV1.out.below hb12 (Nat.le_refl _)); clear hv2 hb2 hb12 hx2) | (go_at_call 11; (with_reducible refine (rbats_any _ _ xs1 (ys.take k) w2 HV12.out (RdBs.front (by have h := HLY.out.below HB2.out (Nat.le_refl _); rw [← HYL.out] at h; exact h) k (by rw [HYL.out]; omega)) (HX1.out.trans HYK.out.symm)).mono ?_); rintro e w3 ⟨rfl, hb3⟩; have HB3 := Lib.hid (HB2.out.trans (hb3.mono HB2.out.size)); have HV23 := Lib.hid (HV2.out.below hb3 (Nat.le_refl _)); clear hb3) | (go_at_call 11; (with_reducible refine (rbats_any _ _ xs2 (ys.take k) w3 HV23.out (RdBs.front (by have h := HLY.out.below HB3.out (Nat.le_refl _); rw [← HYL.out] at h; exact h) k (by rw [HYL.out]; omega)) (HX2.out.trans HYK.out.symm)).mono ?_); rintro e w4 ⟨rfl, hb4⟩; have HB4 := Lib.hid (HB3.out.trans (hb4.mono HB3.out.size)); clear hb4) | (go_at_call 12; refine (HPN.out _).mono ?_; rintro e w5 ⟨v5, rfl, ho5, hb5⟩; obtain ⟨a5, c5, rfl, _, _⟩ := ho5.read.form; have HB5 := Lib.hid (HB4.out.trans (hb5.mono HB4.out.size)); clear ho5 hb5) | (go_at_call 8; refine (h9.out _).mono ?_; rintro e w6 ⟨rfl, hb6⟩; have HB6 := Lib.hid (HB5.out.trans (hb6.mono HB5.out.size)); clear hb6))
          go_ret
          exact ⟨rfl, HBV.out.trans (Below.mono HB6.out HBV.out.size)⟩
end Go.Proofs.Ytpbmacbogmnokaa

/-
  How arguments are opened: a slice of bytes that came in reads as a list of bytes; a slice of integers as a list of integers.
-/
namespace Go.Proofs.Ytpbmacbogmnokaa
open Go.ChangeShapes Go.WideShapes Go.ChangeAt Go.RowKit

/-- The slice 'v' reads as the integers 'zs' (each of them fits the kind 'k') in world 'w'. -/
def RdI (k : IntKind) (w : World) (v : Value) (zs : List Int) : Prop :=
  ∃ a cap, v = .slice a zs.length cap ∧ zs.length ≤ cap ∧ cap ≤ maxLen ∧ (∀ n ∈ zs, (Lit.int k n).wf = true) ∧
    ((zs = [] ∧ (a = none → cap = 0)) ∨ ∃ b off, a = some ⟨b, off, none⟩ ∧ b < w.heap.size ∧ ∀ i, i < zs.length → w.cell? ⟨b, off + i, none⟩ = some (.int k (zs.getD i 0)))

theorem rdI_open {H : Type} {enc : TypeId × Value → H} {P : Program} {w : World} {k : IntKind} {t e : TypeId} {base : Nat} {m : Nat} {spare : Nat → Bool} {held : Bool} {v : Value} {d : DataW H} {p : List MemPlace} (ht : P.underlying t = some (.slice e)) (he : P.underlying e = some (.int k)) (hc : P.cellsOf e = 1)
    (hok : Value.okWide P w .any base t v) (hd : DataW.Trod enc P w m spare held t v d p) : ∃ zs, RdI k w v zs := by
  obtain ⟨a, len, cap, rfl⟩ := okWide_slice ht hok
  obtain ⟨fuel, hf⟩ := hd
  rcases open_ints ht he hc hf with ⟨hcs, _⟩ | ⟨x, l, c, zs, hcs, _, hl, hm, hz, _, hcell, hwz⟩
  · simp [Value.cells] at hcs
    obtain ⟨rfl, rfl, rfl⟩ := hcs
    exact ⟨[], none, 0, rfl, Nat.le_refl _, Nat.zero_le _, by simp, .inl ⟨rfl, fun _ => rfl⟩⟩
  · simp [Value.cells] at hcs
    obtain ⟨rfl, rfl, rfl⟩ := hcs
    have hz' : len ≤ zs.length := by rw [hz]; split <;> omega
    have hlen : (zs.take len).length = len := by rw [List.length_take]; omega
    refine ⟨zs.take len, some x, cap, by rw [hlen], by rw [hlen]; exact hl, hm, fun n hn => hwz n (List.mem_of_mem_take hn), ?_⟩
    by_cases h0 : len = 0
    · left; subst h0; exact ⟨rfl, fun h => by cases h⟩
    · right
      obtain ⟨b, off, spot⟩ := x
      have hc0 := hcell 0 (by omega)
      have hspot : spot = none := by simpa [Addr.add] using World.cell?_spot hc0
      subst hspot
      refine ⟨b, off, rfl, World.block_lt_of_cell? w _ hc0, fun i hi => ?_⟩
      have hi' : i < len := by omega
      have h1 := hcell i (by omega)
      have hadd : (⟨b, off, none⟩ : Addr).add i = ⟨b, off + i, none⟩ := by unfold Addr.add; split <;> simp_all
      rw [hadd] at h1
      rw [h1]
      simp [List.getD, hi']

theorem RdI.bytes {w : World} {v : Value} {zs : List Int} (h : RdI .u8 w v zs) : ∃ l, RdB w v l := by
  obtain ⟨a, cap, rfl, h1, h2, h3, h4⟩ := h
  have key : ∀ (zs : List Int), (∀ n ∈ zs, (Lit.int .u8 n).wf = true) → ∃ l : List UInt8, l.map (fun c => (c.toNat : Int)) = zs := by
    intro zs
    induction zs with
    | nil => exact fun _ => ⟨[], rfl⟩
    | cons z zs ih =>
      intro h
      obtain ⟨l, hl⟩ := ih fun n hn => h n (List.mem_cons_of_mem _ hn)
      have hz := bounds_u8 (h z (List.mem_cons_self ..))
      refine ⟨UInt8.ofNat z.toNat :: l, ?_⟩
      rw [List.map_cons, hl, UInt8.toNat_ofNat', Nat.mod_eq_of_lt (by omega)]
      congr 1
      omega
  obtain ⟨l, rfl⟩ := key zs h3
  simp only [List.length_map] at h1 h4 ⊢
  refine ⟨l, a, cap, rfl, h1, h2, by simp, ?_⟩
  rcases h4 with ⟨h4, h5⟩ | ⟨b, off, rfl, h5, h6⟩
  · left; exact ⟨by simpa using h4, h5⟩
  · refine .inr ⟨b, off, rfl, h5, fun j u hj => ?_⟩
    have hj' : j < l.length := by
      rcases Nat.lt_or_ge j l.length with h | h
      · exact h
      · simp [List.getElem?_eq_none h] at hj
    rw [h6 j hj']
    simp [hj'] at hj
    simp [List.getD, hj', hj]

theorem rdB_open {H : Type} {enc : TypeId × Value → H} {P : Program} {w : World} {t e : TypeId} {base : Nat} {m : Nat} {spare : Nat → Bool} {held : Bool} {v : Value} {d : DataW H} {p : List MemPlace} (ht : P.underlying t = some (.slice e)) (he : P.underlying e = some (.int .u8)) (hc : P.cellsOf e = 1)
    (hok : Value.okWide P w .any base t v) (hd : DataW.Trod enc P w m spare held t v d p) : ∃ l, RdB w v l :=
  let ⟨_, h⟩ := rdI_open ht he hc hok hd
  h.bytes
end Go.Proofs.Ytpbmacbogmnokaa
