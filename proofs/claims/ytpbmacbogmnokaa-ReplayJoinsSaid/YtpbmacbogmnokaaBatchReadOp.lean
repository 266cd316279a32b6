/-
  What batch.readOp does, for any bytes at any place.
-/
import Derived.Test.YtpbmacbogmnokaaBatchMath
import Derived.OwnWalk
namespace Go.Proofs.Ytpbmacbogmnokaa
open Go.RowKit

/-- What is told of an operation at a place. -/
def AnsOp (x : Option (Ope × Nat)) (e : Ending) : Prop :=
  match x with
  | some (o, q) => e = .returned (.tuple #[o.val, .int .i64 (q : Int), .bool true])
  | none => ∃ (o : Ope) (q : Int), e = .returned (.tuple #[o.val, .int .i64 q, .bool false])

set_option maxRecDepth 100000 in
set_option maxHeartbeats 4000000 in
theorem readOp_any (v : Value) (l : List UInt8) (p : Nat) (w : World) (hv : RdB w v l) :
    Calls Try.prog 56 #[v, .int .i64 (p : Int)] w fun e w' => AnsOp (opAt l p) e ∧ Below w.heap.size w w' := by
  obtain ⟨a, cap, rfl, _, _⟩ := hv.form
  have HV := Lib.hid (hv.below ((Below.refl w.heap.size w).alloc (Nat.le_refl _) (.cells #[.int .i64 0, .string ⟨#[]⟩, .string ⟨#[]⟩] 43)) (Nat.le_refl _))
  clear hv
  cases hg : getAt l (p : Int) with
  | none =>
    have HG := Lib.hid hg
    have HR : Hid (opAt l p = none) := Lib.hid (by unfold opAt; rw [hg])
    clear hg
    rw [HR.out]
    go_enter Try.func56, Try.ntmps56
    go_wp2_with (go_at_call 55; refine (get_any _ l _ _ HV.out).mono ?_; rintro e w1 ⟨rfl, rfl⟩; rw [HG.out]; unfold ans3)
    refine bodyPost_ret (v := .tuple #[.agg #[.int .i64 0, .string ⟨#[]⟩, .string ⟨#[]⟩], .int .i64 0, .bool false]) (by simp [results, Try.results56, go_sem]) rfl ?_
    exact ⟨⟨⟨0, ⟨#[]⟩, ⟨#[]⟩⟩, 0, rfl⟩, (by repeat (first | exact (Below.refl _ _).alloc (Nat.le_refl _) _ | refine Below.setCell ?_ (Nat.le_refl _) _))⟩
  | some x =>
    obtain ⟨k, a1⟩ := x
    have HG := Lib.hid hg
    cases ht : textAt l (a1 : Int) with
    | none =>
      have HT := Lib.hid ht
      have HR : Hid (opAt l p = none) := Lib.hid (by unfold opAt; rw [hg]; simp only; rw [ht])
      clear hg ht
      rw [HR.out]
      go_enter Try.func56, Try.ntmps56
      go_wp2_with (first | (go_at_call 55; refine (get_any _ l _ _ HV.out).mono ?_; rintro e w1 ⟨rfl, rfl⟩; rw [HG.out]; unfold ans3) | (go_at_call 61; refine (getText_any _ l _ _ HV.out).mono ?_; rintro e w1 ⟨rfl, rfl⟩; rw [HT.out]; unfold ansT))
      refine bodyPost_ret (v := .tuple #[.agg #[.int .i64 (k : Int), .string ⟨#[]⟩, .string ⟨#[]⟩], .int .i64 0, .bool false]) (by simp [results, Try.results56, go_sem]) rfl ?_
      exact ⟨⟨⟨k, ⟨#[]⟩, ⟨#[]⟩⟩, 0, rfl⟩, (by repeat (first | exact (Below.refl _ _).alloc (Nat.le_refl _) _ | refine Below.setCell ?_ (Nat.le_refl _) _))⟩
    | some y =>
      obtain ⟨key, b1⟩ := y
      have HT := Lib.hid ht
      by_cases hk : k = 1
      · subst hk
        cases hval : textAt l (b1 : Int) with
        | none =>
          have HT2 := Lib.hid hval
          have HR : Hid (opAt l p = none) := Lib.hid (by unfold opAt; rw [hg]; simp only; rw [ht]; simp only [if_true]; rw [hval])
          clear hg ht hval
          rw [HR.out]
          go_enter Try.func56, Try.ntmps56
          go_wp2_with (first | (go_at_call 55; refine (get_any _ l _ _ HV.out).mono ?_; rintro e w1 ⟨rfl, rfl⟩; rw [HG.out]; unfold ans3) | (go_at_call 61; refine (getText_any _ l _ _ HV.out).mono ?_; rintro e w1 ⟨rfl, rfl⟩; (first | rw [HT.out] | rw [HT2.out]); unfold ansT))
          refine bodyPost_ret (v := .tuple #[.agg #[.int .i64 1, .string (strB key), .string ⟨#[]⟩], .int .i64 0, .bool false]) (by simp [results, Try.results56, go_sem]) rfl ?_
          exact ⟨⟨⟨1, strB key, ⟨#[]⟩⟩, 0, rfl⟩, (by repeat (first | exact (Below.refl _ _).alloc (Nat.le_refl _) _ | refine Below.setCell ?_ (Nat.le_refl _) _))⟩
        | some z =>
          obtain ⟨val, c1⟩ := z
          have HT2 := Lib.hid hval
          have HR : Hid (opAt l p = some (⟨1, strB key, strB val⟩, c1)) := Lib.hid (by unfold opAt; rw [hg]; simp only; rw [ht]; simp only [if_true]; rw [hval])
          clear hg ht hval
          rw [HR.out]
          go_enter Try.func56, Try.ntmps56
          go_wp2_with (first | (go_at_call 55; refine (get_any _ l _ _ HV.out).mono ?_; rintro e w1 ⟨rfl, rfl⟩; rw [HG.out]; unfold ans3) | (go_at_call 61; refine (getText_any _ l _ _ HV.out).mono ?_; rintro e w1 ⟨rfl, rfl⟩; (first | rw [HT.out] | rw [HT2.out]); unfold ansT))
          refine bodyPost_ret (v := .tuple #[.agg #[.int .i64 1, .string (strB key), .string (strB val)], .int .i64 (c1 : Int), .bool true]) (by simp [results, Try.results56, go_sem]) rfl ?_
          exact ⟨rfl, (by repeat (first | exact (Below.refl _ _).alloc (Nat.le_refl _) _ | refine Below.setCell ?_ (Nat.le_refl _) _))⟩
      · have HR : Hid (opAt l p = some (⟨(k : Int), strB key, ⟨#[]⟩⟩, b1)) := Lib.hid (by unfold opAt; rw [hg]; simp only; rw [ht]; simp only; rw [if_neg hk])
        have hk1 : ((k : Int) != 1) = true := by simp; omega
        clear hg ht
        rw [HR.out]
        go_enter Try.func56, Try.ntmps56
        go_wp2_with (first | (go_at_call 55; refine (get_any _ l _ _ HV.out).mono ?_; rintro e w1 ⟨rfl, rfl⟩; rw [HG.out]; unfold ans3) | (go_at_call 61; refine (getText_any _ l _ _ HV.out).mono ?_; rintro e w1 ⟨rfl, rfl⟩; rw [HT.out]; unfold ansT))
        refine bodyPost_ret (v := .tuple #[.agg #[.int .i64 (k : Int), .string (strB key), .string ⟨#[]⟩], .int .i64 (b1 : Int), .bool true]) (by simp [results, Try.results56, go_sem]) rfl ?_
        exact ⟨rfl, (by repeat (first | exact (Below.refl _ _).alloc (Nat.le_refl _) _ | refine Below.setCell ?_ (Nat.le_refl _) _))⟩
end Go.Proofs.Ytpbmacbogmnokaa
