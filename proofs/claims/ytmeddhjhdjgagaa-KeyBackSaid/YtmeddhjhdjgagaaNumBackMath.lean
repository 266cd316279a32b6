/-
  What the statement NumBack asks of lists of bytes.
-/
import Derived.Test.YtmeddhjhdjgagaaText
namespace Go.Proofs.Ytmeddhjhdjgagaa

theorem getAt_back (ahead behind : List UInt8) (k : Nat) (hk : (k : Int) ≤ 9223372036854775807) :
    getAt (ahead ++ putL k ++ behind) (ahead.length : Int) = some (k, ahead.length + (putL k).length) := by
  have h0 := putL_ne k
  have h1 : 0 < (putL k).length := List.length_pos_iff.2 h0
  rw [getAt_nat _ _ (by simp only [List.length_append]; omega), List.append_assoc, List.drop_left, getL_put k hk]
  rfl

theorem textAt_back (ahead behind : List UInt8) (s : List UInt8) (hs : s.length ≤ 500) :
    textAt (ahead ++ putT s ++ behind) (ahead.length : Int) = some (s, ahead.length + (putT s).length) := by
  have h := getAt_back ahead (s ++ behind) s.length (by omega)
  have e : ahead ++ putT s ++ behind = ahead ++ putL s.length ++ (s ++ behind) := by simp [putT]
  rw [textAt, e, h]
  simp only [Option.bind_some, List.length_append]
  rw [if_pos (by omega)]
  have e1 : (ahead ++ putL s.length ++ (s ++ behind)).drop (ahead.length + (putL s.length).length) = s ++ behind := by
    rw [← List.length_append, List.drop_left]
  rw [e1, List.take_left]
  simp only [putT, List.length_append]
  rw [Nat.add_assoc]

theorem getAt_cut (k : Nat) (hk : (k : Int) ≤ 9223372036854775807) : getAt ((putL k).take ((putL k).length - 1)) 0 = none := by
  have h := getL_cut k hk
  rw [List.dropLast_eq_take] at h
  unfold getAt
  split
  · rfl
  · simp only [Int.toNat_zero, List.drop_zero, h]; rfl

theorem textAt_cut (s : List UInt8) (hs : s.length ≤ 500) : textAt ((putT s).take ((putT s).length - 1)) 0 = none := by
  unfold textAt
  have h0 : 0 < (putL s.length).length := List.length_pos_iff.2 (putL_ne _)
  by_cases h : s.length = 0
  · have hs0 : s = [] := List.eq_nil_of_length_eq_zero h
    subst hs0
    have := getAt_cut 0 (by omega)
    simp only [putT, List.length_nil, List.append_nil]
    rw [this]; rfl
  · have e : (putT s).take ((putT s).length - 1) = [] ++ putL s.length ++ s.take (s.length - 1) := by
      rw [putT, List.length_append, List.take_append, List.take_of_length_le (by omega)]
      simp
      congr 1
      omega
    rw [e, show (0 : Int) = (([] : List UInt8).length : Int) from rfl, getAt_back _ _ _ (by omega)]
    simp only [Option.bind_some, List.length_append, List.length_nil, List.length_take]
    rw [if_neg (by omega)]
end Go.Proofs.Ytmeddhjhdjgagaa
