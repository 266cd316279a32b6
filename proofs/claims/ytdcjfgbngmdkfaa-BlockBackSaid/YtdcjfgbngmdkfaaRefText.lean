/-
  What the document's answer for layer 1 does: texts out of bytes.
-/
import Derived.Test.YtdcjfgbngmdkfaaRefNum
namespace Go.Proofs.Ytdcjfgbngmdkfaa
open Go.RowKit

set_option maxRecDepth 100000 in
set_option maxHeartbeats 1000000 in
theorem rgetText_any (v : Value) (l : List UInt8) (at_ : Int) (w : World) (hv : RdB w v l) :
    Calls Try.prog 34 #[v, .int .i64 at_] w fun e w' => e = .returned (ansT (textAt l at_)) ∧ w = w' := by
  have hget := rget_any v l at_ w hv
  obtain ⟨ta, ht⟩ : ∃ ta, ta = textAt l at_ := ⟨_, rfl⟩
  rw [← ht]
  cases hg : getAt l at_ with
  | none =>
    rw [hg] at hget
    have ht' : ta = none := by rw [ht, textAt, hg]; rfl
    subst ht'
    clear ht hg
    unfold ans3 at hget
    obtain ⟨a, cap, rfl, hc1, hc2⟩ := hv.form
    have HG := Lib.hid hget
    clear hget
    go_enter Try.func34, Try.ntmps34
    go_wp2_with fail
    refine HG.out.mono ?_
    rintro e w' ⟨rfl, rfl⟩
    go_wp2
    go_ret3
    exact ⟨rfl, rfl⟩
  | some x =>
    obtain ⟨n, k⟩ := x
    obtain ⟨p, hp0, hpk, hkl, hn, hp1⟩ := getAt_some hg
    clear hp0 hp1
    rw [hg] at hget
    unfold ans3 at hget
    obtain ⟨b, off, cap, rfl, hc1, hc2, hbw, hcell⟩ := hv.cells (by intro h; subst h; simp at hkl; omega)
    clear hcell
    unfold maxLen at hc2
    by_cases hle : n ≤ l.length - k
    · have ht' : ta = some ((l.drop k).take n, k + n) := by rw [ht, textAt, hg]; simp [hle]
      subst ht'
      clear ht hg
      have HG := Lib.hid hget
      clear hget
      have hpart := hv.part k (k + n) (by omega) (by omega)
      rw [show k + n - k = n from by omega] at hpart
      by_cases hcap : k = cap
      · have hn0 : n = 0 := by omega
        have hl0 : cap = l.length := by omega
        subst hn0 hcap hl0
        clear hpart
        have hconv := rdB_convert (P := Try.prog) (w := w) (RdB.none_left (a := ⟨b, off, none⟩)) 23 5 9 Try.underlying23 Try.underlying5 Try.underlying9
        go_enter Try.func34, Try.ntmps34
        go_wp2_with fail
        refine HG.out.mono ?_
        rintro e w' ⟨rfl, rfl⟩
        go_wp2
        go_ret3
        exact ⟨rfl, rfl⟩
      · have hconv := rdB_convert (P := Try.prog) hpart 23 5 9 Try.underlying23 Try.underlying5 Try.underlying9
        go_enter Try.func34, Try.ntmps34
        go_wp2_with fail
        refine HG.out.mono ?_
        rintro e w' ⟨rfl, rfl⟩
        have g1 : ¬ (l.length : Int) - (k : Int) < (n : Int) := by omega
        have hkc : k < cap := by omega
        go_wp2
        go_ret3
        exact ⟨rfl, rfl⟩
    · have ht' : ta = none := by rw [ht, textAt, hg]; simp [hle]
      subst ht'
      clear ht hg
      have HG := Lib.hid hget
      clear hget
      go_enter Try.func34, Try.ntmps34
      go_wp2_with fail
      refine HG.out.mono ?_
      rintro e w' ⟨rfl, rfl⟩
      have g1 : (l.length : Int) - (k : Int) < (n : Int) := by omega
      go_wp2
      go_ret3
      exact ⟨rfl, rfl⟩
end Go.Proofs.Ytdcjfgbngmdkfaa
