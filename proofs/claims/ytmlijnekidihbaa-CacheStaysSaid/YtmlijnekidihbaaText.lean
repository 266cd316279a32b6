/-
  What num.PutText and num.GetText do, for all that they are given.
-/
import Derived.Test.YtmlijnekidihbaaGet
namespace Go.Proofs.Ytmlijnekidihbaa
open Go.RowKit

/-- A text as bytes: its length, and its bytes. -/
def putT (s : List UInt8) : List UInt8 := putL s.length ++ s

set_option maxRecDepth 100000 in
theorem putText_any (s : ByteArray) (hs : (s.size : Int) ≤ 1099511627776) (w : World) : Calls Try.prog 53 #[.string s] w (RetB w.heap.size w (putT s.data.toList)) := by
  have hsz : s.data.toList.length = s.size := by rw [Array.length_toList]; rfl
  have hl9 := putL_length s.size (by omega)
  go_enter Try.func53, Try.ntmps53
  go_wp2_with fail
  refine (put_nat s.size (by omega) _).mono ?_
  rintro e w1 ⟨v, rfl, hown, hb⟩
  go_wp2_with (at_builtin; refine wpList_append_string rfl (.tmp 5) (.tmp 6) 22 9 rfl w.heap.size 5 Try.underlying22 Try.underlying9 info_u8 _ _ s rfl rfl hown hb.size ?_ ?_)
  · omega
  · intro v' w' hown' hb'
    go_wp2
    go_ret
    exact ⟨_, rfl, by rw [putT, hsz]; exact hown', hb' _ _ (Nat.le_refl _) hb⟩

/-- The text that stands at a place of bytes, and the place behind it. -/
def textAt (l : List UInt8) (at_ : Int) : Option (List UInt8 × Nat) :=
  (getAt l at_).bind fun x => if x.1 ≤ l.length - x.2 then some ((l.drop x.2).take x.1, x.2 + x.1) else none

/-- What a call answers of it. -/
def ansT : Option (List UInt8 × Nat) → Value
  | none => .tuple #[.string ⟨#[]⟩, .int .i64 0, .bool false]
  | some (s, k) => .tuple #[.string (strB s), .int .i64 k, .bool true]

theorem getAt_some {l : List UInt8} {at_ : Int} {n k : Nat} (h : getAt l at_ = some (n, k)) :
    ∃ p : Nat, at_ = p ∧ p < k ∧ k ≤ l.length ∧ (n : Int) ≤ 9223372036854775807 ∧ l.drop p = putL n ++ l.drop k ∧ k = p + (putL n).length := by
  unfold getAt at h
  split at h
  · cases h
  · rename_i hc
    obtain ⟨p, rfl⟩ := Int.eq_ofNat_of_zero_le (by omega : 0 ≤ at_)
    obtain ⟨⟨n', k'⟩, hg, he⟩ := Option.map_eq_some_iff.1 h
    simp only [Int.toNat_natCast, Prod.mk.injEq] at he hg
    obtain ⟨rfl, rfl⟩ := he
    obtain ⟨h1, h2, h3, h4, h5⟩ := getL_some hg
    rw [List.length_drop] at h5
    rw [List.drop_drop] at h3
    exact ⟨p, rfl, by omega, by omega, h1, h3, by rw [h2]⟩

set_option maxRecDepth 100000 in
set_option maxHeartbeats 1000000 in
theorem getText_any (v : Value) (l : List UInt8) (at_ : Int) (w : World) (hv : RdB w v l) :
    Calls Try.prog 38 #[v, .int .i64 at_] w fun e w' => e = .returned (ansT (textAt l at_)) ∧ w = w' := by
  have hget := get_any v l at_ w hv
  obtain ⟨ta, ht⟩ : ∃ ta, ta = textAt l at_ := ⟨_, rfl⟩
  rw [← ht]
  cases hg : getAt l at_ with
  | none =>
    rw [hg] at hget
    have ht' : ta = none := by rw [ht, textAt, hg]; rfl
    subst ht'
    clear ht hg
    unfold ans3 at hget
    obtain ⟨a, cap, rfl, hc1, hc2⟩ := hv.form
    have HG := Lib.hid hget
    clear hget
    go_enter Try.func38, Try.ntmps38
    go_wp2_with fail
    refine HG.out.mono ?_
    rintro e w' ⟨rfl, rfl⟩
    go_wp2
    go_ret3
    exact ⟨rfl, rfl⟩
  | some x =>
    obtain ⟨n, k⟩ := x
    obtain ⟨p, hp0, hpk, hkl, hn, hp1⟩ := getAt_some hg
    clear hp0 hp1
    rw [hg] at hget
    unfold ans3 at hget
    obtain ⟨b, off, cap, rfl, hc1, hc2, hbw, hcell⟩ := hv.cells (by intro h; subst h; simp at hkl; omega)
    clear hcell
    unfold maxLen at hc2
    by_cases hle : n ≤ l.length - k
    · have ht' : ta = some ((l.drop k).take n, k + n) := by rw [ht, textAt, hg]; simp [hle]
      subst ht'
      clear ht hg
      have HG := Lib.hid hget
      clear hget
      have hpart := hv.part k (k + n) (by omega) (by omega)
      rw [show k + n - k = n from by omega] at hpart
      by_cases hcap : k = cap
      · have hn0 : n = 0 := by omega
        have hl0 : cap = l.length := by omega
        subst hn0 hcap hl0
        clear hpart
        have hconv := rdB_convert (P := Try.prog) (w := w) (RdB.none_left (a := ⟨b, off, none⟩)) 22 5 9 Try.underlying22 Try.underlying5 Try.underlying9
        go_enter Try.func38, Try.ntmps38
        go_wp2_with fail
        refine HG.out.mono ?_
        rintro e w' ⟨rfl, rfl⟩
        go_wp2
        go_ret3
        exact ⟨rfl, rfl⟩
      · have hconv := rdB_convert (P := Try.prog) hpart 22 5 9 Try.underlying22 Try.underlying5 Try.underlying9
        go_enter Try.func38, Try.ntmps38
        go_wp2_with fail
        refine HG.out.mono ?_
        rintro e w' ⟨rfl, rfl⟩
        have g1 : ¬ (l.length : Int) - (k : Int) < (n : Int) := by omega
        have hkc : k < cap := by omega
        go_wp2
        go_ret3
        exact ⟨rfl, rfl⟩
    · have ht' : ta = none := by rw [ht, textAt, hg]; simp [hle]
      subst ht'
      clear ht hg
      have HG := Lib.hid hget
      clear hget
      go_enter Try.func38, Try.ntmps38
      go_wp2_with fail
      refine HG.out.mono ?_
      rintro e w' ⟨rfl, rfl⟩
      have g1 : (l.length : Int) - (k : Int) < (n : Int) := by omega
      go_wp2
      go_ret3
      exact ⟨rfl, rfl⟩
end Go.Proofs.Ytmlijnekidihbaa
