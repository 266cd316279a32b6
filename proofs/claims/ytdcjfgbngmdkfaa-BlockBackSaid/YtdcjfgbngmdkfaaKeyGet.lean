/-
  What key.Get and the document's GetKey do, for all that they are given.
-/
import Derived.Test.YtdcjfgbngmdkfaaKeyMay
import Derived.Test.YtdcjfgbngmdkfaaRefText
namespace Go.Proofs.Ytdcjfgbngmdkfaa
open Go.RowKit

/-- The key whose bytes stand at a place, and the place behind it. -/
def keyAt (l : List UInt8) (at_ : Int) : Option ((List UInt8 × Int × Int) × Nat) :=
  match textAt l at_ with
  | none => none
  | some (s, p) =>
    match getAt l p with
    | none => none
    | some (n, q) => bif mayB s ((n : Int) / 2) ((n : Int) % 2 + 1) then some ((s, (n : Int) / 2, (n : Int) % 2 + 1), q) else none

/-- What a call answers of it. -/
def ansK : Option ((List UInt8 × Int × Int) × Nat) → Value
  | none => .tuple #[.agg #[.string ⟨#[]⟩, .int .i64 0, .int .i64 0], .int .i64 0, .bool false]
  | some ((s, x, y), k) => .tuple #[.agg #[.string (strB s), .int .i64 x, .int .i64 y], .int .i64 k, .bool true]

theorem textAt_size {l : List UInt8} {at_ : Int} {s : List UInt8} {p : Nat} (h : textAt l at_ = some (s, p)) : s.length ≤ l.length := by
  unfold textAt at h
  cases hg : getAt l at_ with
  | none => rw [hg] at h; cases h
  | some x =>
    rw [hg] at h
    simp only [Option.bind_some] at h
    split at h
    · cases h; simp; omega
    · cases h

theorem keyAt_none {l : List UInt8} {at_ : Int} (h : textAt l at_ = none) : keyAt l at_ = none := by unfold keyAt; rw [h]
theorem keyAt_none2 {l : List UInt8} {at_ : Int} {s : List UInt8} {p : Nat} (h : textAt l at_ = some (s, p)) (h2 : getAt l p = none) : keyAt l at_ = none := by unfold keyAt; rw [h]; simp only; rw [h2]
theorem keyAt_no {l : List UInt8} {at_ : Int} {s : List UInt8} {p n q : Nat} (h : textAt l at_ = some (s, p)) (h2 : getAt l p = some (n, q)) (h3 : mayB s ((n : Int) / 2) ((n : Int) % 2 + 1) = false) : keyAt l at_ = none := by
  unfold keyAt; rw [h]; simp only; rw [h2]; simp only; rw [h3]; rfl
theorem keyAt_some {l : List UInt8} {at_ : Int} {s : List UInt8} {p n q : Nat} (h : textAt l at_ = some (s, p)) (h2 : getAt l p = some (n, q)) (h3 : mayB s ((n : Int) / 2) ((n : Int) % 2 + 1) = true) :
    keyAt l at_ = some ((s, (n : Int) / 2, (n : Int) % 2 + 1), q) := by
  unfold keyAt; rw [h]; simp only; rw [h2]; simp only; rw [h3]; rfl

theorem ansG_form (o : Option (Nat × Nat)) : ∃ (x y : Int) (z : Bool), ans3 o = .tuple #[.int .i64 x, .int .i64 y, .bool z] := by
  cases o with
  | none => exact ⟨0, 0, false, rfl⟩
  | some x => exact ⟨_, _, true, rfl⟩

set_option maxRecDepth 100000 in
set_option maxHeartbeats 2000000 in
theorem kget_any (v : Value) (l : List UInt8) (at_ : Int) (w : World) (hv : RdB w v l) :
    Calls Try.prog 50 #[v, .int .i64 at_] w fun e w' => e = .returned (ansK (keyAt l at_)) ∧ Below w.heap.size w w' := by
  obtain ⟨a, cap, rfl, hc1, hc2⟩ := hv.form
  unfold maxLen at hc2
  cases ht : textAt l at_ with
  | none =>
    have hgt : ∀ w1, RdB w1 (.slice a l.length cap) l → Calls Try.prog 51 #[.slice a l.length cap, .int .i64 at_] w1 (fun e w' => e = .returned (.tuple #[.string ⟨#[]⟩, .int .i64 0, .bool false]) ∧ w1 = w') := by
      intro w1 h1
      have := getText_any _ l at_ w1 h1
      rw [ht] at this
      exact this
    have HT := Lib.hid hgt
    have HR := Lib.hid (keyAt_none ht)
    clear hgt ht
    go_enter Try.func50, Try.ntmps50
    go_wp2_with (go_at_call 51; refine (HT.out _ (hv.below ((Below.refl w.heap.size w).alloc (Nat.le_refl _) _) (Nat.le_refl _))).mono ?_; rintro e w' ⟨rfl, rfl⟩)
    refine bodyPost_ret (v := .tuple #[.agg #[.string ⟨#[]⟩, .int .i64 0, .int .i64 0], .int .i64 0, .bool false]) (by simp [results, Try.results50, go_sem]) rfl ⟨by rw [HR.out]; rfl, ?_⟩
    exact (Below.refl _ _).alloc (Nat.le_refl _) _
  | some x =>
    obtain ⟨s, p⟩ := x
    have hsz := textAt_size ht
    have hgt : ∀ w1, RdB w1 (.slice a l.length cap) l → Calls Try.prog 51 #[.slice a l.length cap, .int .i64 at_] w1 (fun e w' => e = .returned (.tuple #[.string (strB s), .int .i64 p, .bool true]) ∧ w1 = w') := by
      intro w1 h1
      have := getText_any _ l at_ w1 h1
      rw [ht] at this
      exact this
    have HT := Lib.hid hgt
    clear hgt
    cases hg : getAt l p with
    | none =>
      have hgg : ∀ w1, RdB w1 (.slice a l.length cap) l → Calls Try.prog 49 #[.slice a l.length cap, .int .i64 p] w1 (fun e w' => e = .returned (.tuple #[.int .i64 0, .int .i64 0, .bool false]) ∧ w1 = w') := by
        intro w1 h1
        have := get_any _ l p w1 h1
        rw [hg] at this
        exact this
      have HG := Lib.hid hgg
      have HR := Lib.hid (keyAt_none2 ht hg)
      clear hgg ht hg
      go_enter Try.func50, Try.ntmps50
      go_wp2_with (first | (go_at_call 51; refine (HT.out _ (hv.below ((Below.refl w.heap.size w).alloc (Nat.le_refl _) _) (Nat.le_refl _))).mono ?_; rintro e w' ⟨rfl, rfl⟩) | (go_at_call 49; refine (HG.out _ (hv.below ((Below.refl w.heap.size w).alloc (Nat.le_refl _) _) (Nat.le_refl _))).mono ?_; rintro e w' ⟨rfl, rfl⟩))
      refine bodyPost_ret (v := .tuple #[.agg #[.string ⟨#[]⟩, .int .i64 0, .int .i64 0], .int .i64 0, .bool false]) (by simp [results, Try.results50, go_sem]) rfl ⟨by rw [HR.out]; rfl, ?_⟩
      exact (Below.refl _ _).alloc (Nat.le_refl _) _
    | some y =>
      obtain ⟨n, q⟩ := y
      have hn9 : (n : Int) ≤ 9223372036854775807 := (getAt_some hg).choose_spec.2.2.2.1
      have hgg : ∀ w1, RdB w1 (.slice a l.length cap) l → Calls Try.prog 49 #[.slice a l.length cap, .int .i64 p] w1 (fun e w' => e = .returned (.tuple #[.int .i64 n, .int .i64 q, .bool true]) ∧ w1 = w') := by
        intro w1 h1
        have := get_any _ l p w1 h1
        rw [hg] at this
        exact this
      have HG := Lib.hid hgg
      have hmay : ∀ w1, Calls Try.prog 54 #[.agg #[.string (strB s), .int .i64 ((n : Int) / 2), .int .i64 ((n : Int) % 2 + 1)]] w1 fun e w' => e = .returned (.bool (mayB s ((n : Int) / 2) ((n : Int) % 2 + 1))) ∧ Below w1.heap.size w1 w' :=
        may_any (strB s) _ _ (by rw [strB_size]; unfold maxLen; omega)
      clear hgg
      cases hm : mayB s ((n : Int) / 2) ((n : Int) % 2 + 1) with
      | false =>
        rw [hm] at hmay
        have HM := Lib.hid hmay
        have HR := Lib.hid (keyAt_no ht hg hm)
        clear hmay hm ht hg
        go_enter Try.func50, Try.ntmps50
        go_wp2_with (first | (go_at_call 51; refine (HT.out _ (hv.below ((Below.refl w.heap.size w).alloc (Nat.le_refl _) _) (Nat.le_refl _))).mono ?_; rintro e w' ⟨rfl, rfl⟩) | (go_at_call 49; refine (HG.out _ (hv.below ((Below.refl w.heap.size w).alloc (Nat.le_refl _) _) (Nat.le_refl _))).mono ?_; rintro e w' ⟨rfl, rfl⟩) | (go_at_call 54; refine (HM.out _).mono ?_; rintro e w1 ⟨rfl, hb⟩; obtain ⟨hc, hf⟩ := bcell hb; have hz := hb.size; simp at hz))
        refine bodyPost_ret (v := .tuple #[.agg #[.string ⟨#[]⟩, .int .i64 0, .int .i64 0], .int .i64 0, .bool false]) (by simp [results, Try.results50, go_sem, hc]) rfl ⟨by rw [HR.out]; rfl, ?_⟩
        exact (((((Below.refl w.heap.size w).alloc (Nat.le_refl _) _).trans (hb.mono (by simp))).setCell (by simp) _).setCell (by simp) _).setCell (by simp) _
      | true =>
        rw [hm] at hmay
        have HM := Lib.hid hmay
        have HR := Lib.hid (keyAt_some ht hg hm)
        clear hmay hm ht hg
        go_enter Try.func50, Try.ntmps50
        go_wp2_with (first | (go_at_call 51; refine (HT.out _ (hv.below ((Below.refl w.heap.size w).alloc (Nat.le_refl _) _) (Nat.le_refl _))).mono ?_; rintro e w' ⟨rfl, rfl⟩) | (go_at_call 49; refine (HG.out _ (hv.below ((Below.refl w.heap.size w).alloc (Nat.le_refl _) _) (Nat.le_refl _))).mono ?_; rintro e w' ⟨rfl, rfl⟩) | (go_at_call 54; refine (HM.out _).mono ?_; rintro e w1 ⟨rfl, hb⟩; obtain ⟨hc, hf⟩ := bcell hb; have hz := hb.size; simp at hz))
        refine bodyPost_ret (v := .tuple #[.agg #[.string (strB s), .int .i64 ((n : Int) / 2), .int .i64 ((n : Int) % 2 + 1)], .int .i64 q, .bool true]) (by simp [results, Try.results50, go_sem, hc]) rfl ⟨by rw [HR.out]; rfl, ?_⟩
        exact (((((Below.refl w.heap.size w).alloc (Nat.le_refl _) _).trans (hb.mono (by simp))).setCell (by simp) _).setCell (by simp) _).setCell (by simp) _

end Go.Proofs.Ytdcjfgbngmdkfaa
