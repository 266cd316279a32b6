/-
  Numbers and texts among other bytes: plain facts.
-/
import Derived.Test.YtmlijnekidihbaaText
namespace Go.Proofs.Ytmlijnekidihbaa
open Go.RowKit

/-- The text at a place: its bytes stand there. -/
theorem textAt_stands {l : List UInt8} {p k : Nat} {s : List UInt8} (h : textAt l (p : Int) = some (s, k)) : l.drop p = putT s ++ l.drop k ∧ p < k ∧ k ≤ l.length := by
  unfold textAt at h
  obtain ⟨⟨n, a⟩, hg, hb⟩ := Option.bind_eq_some_iff.1 h
  obtain ⟨p', hp, h1, h2, _, h3, h4⟩ := getAt_some hg
  obtain rfl : p = p' := by omega
  simp only at hb
  split at hb
  · rename_i hn
    simp only [Option.some.injEq, Prod.mk.injEq] at hb
    obtain ⟨rfl, rfl⟩ := hb
    have hlen : ((l.drop a).take n).length = n := by rw [List.length_take, List.length_drop]; omega
    refine ⟨?_, by omega, by omega⟩
    unfold putT
    rw [hlen, h3, List.append_assoc]
    congr 1
    rw [← List.drop_drop, List.take_append_drop]
  · cases hb

/-- A text that stands there is told. -/
theorem textAt_tells (ahead behind s : List UInt8) (hs : s.length ≤ 1000) : textAt (ahead ++ putT s ++ behind) (ahead.length : Int) = some (s, ahead.length + (putT s).length) := by
  have hg : getAt (ahead ++ putT s ++ behind) (ahead.length : Int) = some (s.length, ahead.length + (putL s.length).length) := by
    have hne : 0 < (putT s).length := by
      unfold putT
      rw [List.length_append]
      have := List.length_pos_iff.2 (putL_ne s.length)
      omega
    rw [getAt_nat _ _ (by simp only [List.length_append]; omega)]
    have : (ahead ++ putT s ++ behind).drop ahead.length = putL s.length ++ (s ++ behind) := by
      rw [List.append_assoc, List.drop_left]
      unfold putT
      rw [List.append_assoc]
    rw [this, getL_put _ (by omega)]
    rfl
  unfold textAt
  rw [hg]
  simp only [Option.bind_some]
  have hl : (ahead ++ putT s ++ behind).length - (ahead.length + (putL s.length).length) = s.length + behind.length := by
    unfold putT
    simp only [List.length_append]
    omega
  rw [if_pos (by rw [hl]; omega)]
  have hd : (ahead ++ putT s ++ behind).drop (ahead.length + (putL s.length).length) = s ++ behind := by
    rw [List.append_assoc, ← List.drop_drop, List.drop_left]
    unfold putT
    rw [List.append_assoc, List.drop_left]
  rw [hd, List.take_left]
  unfold putT
  rw [List.length_append, Nat.add_assoc]

theorem getAt_tells (ahead behind : List UInt8) (n : Nat) (hn : (n : Int) ≤ 9223372036854775807) : getAt (ahead ++ putL n ++ behind) (ahead.length : Int) = some (n, ahead.length + (putL n).length) := by
  have hne := List.length_pos_iff.2 (putL_ne n)
  rw [getAt_nat _ _ (by simp only [List.length_append]; omega), List.append_assoc, List.drop_left, getL_put _ hn]
  rfl
end Go.Proofs.Ytmlijnekidihbaa
