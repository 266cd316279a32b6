/-
  The walk of the statement NumBack.
-/
import Derived.Test.YtemlonbcdaboeaaNumBackMath
import Derived.Test.YtemlonbcdaboeaaLift
namespace Go.Proofs.Ytemlonbcdaboeaa
open Go.ChangeShapes Go.WideShapes Go.ChangeAt Go.RowKit

set_option maxRecDepth 100000 in
theorem numBack_far (n : Int) (s : ByteArray) (v2 : Value) (l2 : List UInt8) (v3 : Value) (l3 : List UInt8) (W : World) (h2 : RdB W v2 l2) (h3 : RdB W v3 l3)
    (hf : 500 < s.size ∨ 100 < l2.length ∨ 100 < l3.length) :
    Calls Try.prog 4 #[.int .u64 n, .string s, v2, v3] W fun e w' => e = .returned (.bool true) ∧ Below W.heap.size W w' := by
  obtain ⟨a2, c2, rfl, _, _⟩ := h2.form
  obtain ⟨a3, c3, rfl, _, _⟩ := h3.form
  by_cases g1 : (500 : Int) < (s.size : Int)
  · go_enter Try.func4, Try.ntmps4
    go_wp2_with fail
    refine (awake_any _).mono ?_
    rintro e w2 ⟨rfl, hb2⟩
    go_wp2
    go_ret
    exact ⟨rfl, hb2⟩
  · by_cases g2 : (100 : Int) < (l2.length : Int)
    · go_enter Try.func4, Try.ntmps4
      go_wp2_with fail
      refine (awake_any _).mono ?_
      rintro e w2 ⟨rfl, hb2⟩
      go_wp2
      go_ret
      exact ⟨rfl, hb2⟩
    · have g3 : (100 : Int) < (l3.length : Int) := by omega
      go_enter Try.func4, Try.ntmps4
      go_wp2_with fail
      refine (awake_any _).mono ?_
      rintro e w2 ⟨rfl, hb2⟩
      go_wp2
      go_ret
      exact ⟨rfl, hb2⟩

set_option maxRecDepth 100000 in
set_option maxHeartbeats 1600000 in
theorem numBack_near (n : Int) (s : ByteArray) (v2 : Value) (l2 : List UInt8) (v3 : Value) (l3 : List UInt8) (W : World) (hn : 0 ≤ n ∧ n ≤ 18446744073709551615) (h2 : RdB W v2 l2) (h3 : RdB W v3 l3)
    (g1 : ¬ (500 : Int) < (s.size : Int)) (g2 : ¬ (100 : Int) < (l2.length : Int)) (g3 : ¬ (100 : Int) < (l3.length : Int)) :
    Calls Try.prog 4 #[.int .u64 n, .string s, v2, v3] W fun e w' => e = .returned (.bool true) ∧ Below W.heap.size W w' := by
  have hf2 := h2.form
  have hf3 := h3.form
  obtain ⟨a2, c2, rfl, hc2, hm2⟩ := hf2
  obtain ⟨a3, c3, rfl, hc3, hm3⟩ := hf3
  unfold maxLen at hm2 hm3
  obtain ⟨k, hk⟩ : ∃ k : Nat, n / 2 = (k : Int) := ⟨(n / 2).toNat, by omega⟩
  have hkb : (k : Int) ≤ 9223372036854775807 := by omega
  have HK := Lib.hid hk
  have hsz : s.data.toList.length = s.size := by rw [Array.length_toList]; rfl
  have HS := Lib.hid hsz
  have hT : (putT s.data.toList).length ≤ 600 := by
    have := putL_length s.data.toList.length (by omega)
    rw [putT, List.length_append]
    omega
  have hP := putL_length k (by omega)
  have hP1 : 0 < (putL k).length := List.length_pos_iff.2 (putL_ne _)
  have hT1 : 0 < (putT s.data.toList).length := by
    have : 0 < (putL s.data.toList.length).length := List.length_pos_iff.2 (putL_ne _)
    rw [putT, List.length_append]
    omega
  clear hk hsz
  go_enter Try.func4, Try.ntmps4
  go_wp2_with fail
  rw [HK.out]
  refine (put_nat k hkb _).mono ?_
  rintro e w1 ⟨p, rfl, hp, hb1⟩
  go_wp2_with fail
  refine (putText_any s (by omega) _).mono ?_
  rintro e w2 ⟨q, rfl, hq, hb2⟩
  have hpr : RdB w2 p (putL k) := hp.read.below hb2 (Nat.le_refl _)
  have hqr : RdB w2 q (putT s.data.toList) := hq.read
  have h22 : RdB w2 (.slice a2 l2.length c2) l2 := (h2.below hb1 (Nat.le_refl _)).below hb2 (Nat.le_refl _)
  have h32 : RdB w2 (.slice a3 l3.length c3) l3 := (h3.below hb1 (Nat.le_refl _)).below hb2 (Nat.le_refl _)
  have hb : Below W.heap.size W w2 := hb1.trans (hb2.mono hb1.size)
  clear hp hq hb1 hb2 h2 h3
  obtain ⟨pa, pc, rfl, hpc1, hpc2⟩ := hpr.form
  obtain ⟨qa, qc, rfl, hqc1, hqc2⟩ := hqr.form
  unfold maxLen at hpc2 hqc2
  have hal1 : Below w2.heap.size w2 (w2.alloc (.cells #[] 5)) := (Below.refl _ _).alloc (Nat.le_refl _) _
  have hn11 : ([] : List UInt8).length + l2.length ≤ 140737488355328 := by simp; omega
  have hn21 : l2.length + (putL k).length ≤ 140737488355328 := by omega
  have hn31 : (l2 ++ putL k).length + l3.length ≤ 140737488355328 := by simp; omega
  go_wp2_with (at_builtin; refine wpList_append_bytes rfl (.tmp 47) (.tmp 48) 22 rfl w2.heap.size 5 Try.underlying22 info_u8 _ _ [] l2 rfl rfl (OwnB.made w2 _ _ (Nat.le_refl _)) (h22.below hal1 (Nat.le_refl _)) hal1.size hn11 ?_)
  intro x11 u11 ho11 hk11
  replace ho11 : OwnB u11 w2.heap.size 5 x11 l2 := ho11
  have hx11 := hk11 w2.heap.size w2 (Nat.le_refl _) hal1
  go_wp2_with (at_builtin; refine wpList_append_bytes rfl (.tmp 49) (.tmp 50) 22 rfl w2.heap.size 5 Try.underlying22 info_u8 _ _ l2 (putL k) rfl rfl ho11 (hpr.below hx11 (Nat.le_refl _)) hx11.size hn21 ?_)
  intro x12 u12 ho12 hk12
  have hx12 := hk12 w2.heap.size w2 (Nat.le_refl _) hx11
  go_wp2_with (at_builtin; refine wpList_append_bytes rfl (.tmp 51) (.tmp 52) 22 rfl w2.heap.size 5 Try.underlying22 info_u8 _ _ (l2 ++ putL k) l3 rfl rfl ho12 (h32.below hx12 (Nat.le_refl _)) hx12.size hn31 ?_)
  intro x13 u13 ho13 hk13
  have hx13 := hk13 w2.heap.size w2 (Nat.le_refl _) hx12
  clear hk11 hk12 hk13 ho11 ho12 hx11 hx12 hn11 hn21 hn31 hal1
  have hpr3 := hpr.below hx13 (Nat.le_refl _)
  have hqr3 := hqr.below hx13 (Nat.le_refl _)
  have h23 := h22.below hx13 (Nat.le_refl _)
  have h33 := h32.below hx13 (Nat.le_refl _)
  have hrb := ho13.read
  have hb3 := hb.trans (hx13.mono hb.size)
  clear hpr hqr h22 h32 ho13 hx13 hb
  have hal2 : Below u13.heap.size u13 (u13.alloc (.cells #[] 5)) := (Below.refl _ _).alloc (Nat.le_refl _) _
  have hn12 : ([] : List UInt8).length + l2.length ≤ 140737488355328 := by simp; omega
  have hn22 : l2.length + (putT s.data.toList).length ≤ 140737488355328 := by omega
  have hn32 : (l2 ++ putT s.data.toList).length + l3.length ≤ 140737488355328 := by simp; omega
  go_wp2_with (at_builtin; refine wpList_append_bytes rfl (.tmp 54) (.tmp 55) 22 rfl u13.heap.size 5 Try.underlying22 info_u8 _ _ [] l2 rfl rfl (OwnB.made u13 _ _ (Nat.le_refl _)) (h23.below hal2 (Nat.le_refl _)) hal2.size hn12 ?_)
  intro x21 u21 ho21 hk21
  replace ho21 : OwnB u21 u13.heap.size 5 x21 l2 := ho21
  have hx21 := hk21 u13.heap.size u13 (Nat.le_refl _) hal2
  go_wp2_with (at_builtin; refine wpList_append_bytes rfl (.tmp 56) (.tmp 57) 22 rfl u13.heap.size 5 Try.underlying22 info_u8 _ _ l2 (putT s.data.toList) rfl rfl ho21 (hqr3.below hx21 (Nat.le_refl _)) hx21.size hn22 ?_)
  intro x22 u22 ho22 hk22
  have hx22 := hk22 u13.heap.size u13 (Nat.le_refl _) hx21
  go_wp2_with (at_builtin; refine wpList_append_bytes rfl (.tmp 58) (.tmp 59) 22 rfl u13.heap.size 5 Try.underlying22 info_u8 _ _ (l2 ++ putT s.data.toList) l3 rfl rfl ho22 (h33.below hx22 (Nat.le_refl _)) hx22.size hn32 ?_)
  intro x23 u23 ho23 hk23
  have hx23 := hk23 u13.heap.size u13 (Nat.le_refl _) hx22
  clear hk21 hk22 hk23 ho21 ho22 hx21 hx22 hn12 hn22 hn32 hal2
  have hpr4 := hpr3.below hx23 (Nat.le_refl _)
  have hqr4 := hqr3.below hx23 (Nat.le_refl _)
  have hrb4 := hrb.below hx23 (Nat.le_refl _)
  have hrc := ho23.read
  have hb4 := hb3.trans (hx23.mono hb3.size)
  clear hpr3 hqr3 hrb ho23 hx23 hb3 h23 h33
  have c1 := get_any x13 (l2 ++ putL k ++ l3) (l2.length : Int) u23 (by rw [List.append_assoc]; exact hrb4)
  rw [getAt_back l2 l3 k hkb] at c1
  have c2' := getText_any x23 (l2 ++ putT s.data.toList ++ l3) (l2.length : Int) u23 (by rw [List.append_assoc]; exact hrc)
  rw [textAt_back l2 l3 s.data.toList (by have := HS.out; omega)] at c2'
  have c3' := get_any _ _ 0 u23 (hpr4.front ((putL k).length - 1) (by omega))
  rw [getAt_cut k hkb] at c3'
  have c4 := getText_any _ _ 0 u23 (hqr4.front ((putT s.data.toList).length - 1) (by omega))
  rw [textAt_cut s.data.toList (by have := HS.out; omega)] at c4
  unfold ans3 at c1 c3'
  unfold ansT at c2' c4
  simp only [strB_data] at c2'
  have C1 := Lib.hid c1
  have C2 := Lib.hid c2'
  have C3 := Lib.hid c3'
  have C4 := Lib.hid c4
  clear c1 c2' c3' c4 hpr4 hqr4 hrb4 hrc
  generalize (putL k).length = np at *
  generalize (putT s.data.toList).length = nt at *
  have hpn : ((np : Int) == 0) = false := by simp; omega
  have hqn : ((nt : Int) == 0) = false := by simp; omega
  go_wp2_with fail
  refine C1.out.mono ?_
  rintro e w5 ⟨rfl, rfl⟩
  go_wp2_with fail
  refine C2.out.mono ?_
  rintro e w5 ⟨rfl, rfl⟩
  go_wp2_with fail
  refine C3.out.mono ?_
  rintro e w5 ⟨rfl, rfl⟩
  go_wp2_with fail
  refine C4.out.mono ?_
  rintro e w5 ⟨rfl, rfl⟩
  clear C1 C2 C3 C4
  go_wp2_with fail
  refine (awake_any _).mono ?_
  rintro e w2 ⟨rfl, hbz⟩
  go_wp2
  go_ret
  exact ⟨rfl, hb4.trans (hbz.mono hb4.size)⟩

theorem numBack_walk (n : Int) (s : ByteArray) (v2 : Value) (l2 : List UInt8) (v3 : Value) (l3 : List UInt8) (W : World) (hn : (Lit.int .u64 n).wf = true) (_hs : s.size ≤ maxLen) (h2 : RdB W v2 l2) (h3 : RdB W v3 l3) :
    Calls Try.prog 4 #[.int .u64 n, .string s, v2, v3] W fun e w' => e = .returned (.bool true) ∧ Below W.heap.size W w' := by
  by_cases hf : 500 < s.size ∨ 100 < l2.length ∨ 100 < l3.length
  · exact numBack_far n s v2 l2 v3 l3 W h2 h3 hf
  · exact numBack_near n s v2 l2 v3 l3 W (bounds_u64 hn) h2 h3 (by omega) (by omega) (by omega)
end Go.Proofs.Ytemlonbcdaboeaa
