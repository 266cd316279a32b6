/-
  Read.
-/
import Derived.Test.YtkobjbjakgfhcaaDiskReadErr
import Derived.Test.YtkobjbjakgfhcaaDiskClone2
namespace Go.Proofs.Ytkobjbjakgfhcaa
open Go.RowKit

def PD.read (d : PD) (n : List UInt8) (a k : Int) : List UInt8 × Nat :=
  if d.down then ([], 7) else match dfind d.names n with
  | none => ([], 2)
  | some id => if a < 0 ∨ ((d.file id).now.length : Int) < a ∨ k < 0 then ([], 1) else (((d.file id).now.drop a.toNat).take k.toNat, 0)

set_option maxRecDepth 100000 in
set_option maxHeartbeats 4000000 in
set_option linter.unusedSimpArgs false in
theorem read_at2 {g : Gh} {w : World} {p : Nat} {d : PD} (h : DiskAt g w p d) (hsm : Small d) (s : ByteArray) (hs : s.size ≤ maxLen) (a n : Int) :
    Calls Try.prog 20 #[.pointer (some ⟨p, 0, none⟩), .string s, .int .i64 a, .int .i64 n] w fun e w' => ∃ v, e = .returned (.tuple #[v, .int .i64 ((d.read s.data.toList a n).2 : Int)]) ∧ Below w.heap.size w w' ∧ OwnB w' 0 5 v (d.read s.data.toList a n).1 ∧ (∀ k, v.ownBlock = some k → w.heap.size ≤ k) := by
  by_cases hno : d.down = true ∨ dfind d.names s.data.toList = none
  · have e1 : d.read s.data.toList a n = ([], if d.down then 7 else 2) := by
      unfold PD.read
      cases hd : d.down with
      | true => rfl
      | false =>
        rcases hno with h | h
        · rw [hd] at h; cases h
        · rw [h]; rfl
    rw [e1]
    refine (read_err h hsm s hs a n hno).mono ?_
    rintro e w' ⟨rfl, rfl⟩
    refine ⟨_, ?_, Below.refl _ _, OwnB.nil _ _ _, fun k e => (nomatch e)⟩
    cases d.down <;> rfl
  · have hdn : d.down = false := by
      cases hd : d.down with
      | true => exact absurd (.inl hd) hno
      | false => rfl
    have c4 : w.cell? ⟨p, 4, none⟩ = some (.bool d.down) := blk_cell h.blk
    rw [hdn] at c4
    have HSH := Lib.hid (shut_any w p false c4)
    rcases find_at h s hs hsm.idn with ⟨hf, _⟩ | ⟨id, fb, cap, x, f, hf, _, _, _, hff, _, _, hfa, _, c1, _, _, hcall⟩
    · exact absurd (.inr hf) hno
    · have e1 : d.read s.data.toList a n = if a < 0 ∨ (f.now.length : Int) < a ∨ n < 0 then ([], 1) else ((f.now.drop a.toNat).take n.toNat, 0) := by
        unfold PD.read PD.file
        simp [hdn, hf, List.getD_eq_getElem?_getD, hff]
      have hv := hfa.vn.read
      obtain ⟨na, nc, hvn, hnc1, hnc2⟩ := RdB.form hv
      rw [hvn] at c1 hv
      have hq := eqf_nil
      have hflen := (hsm.fl f (List.mem_of_getElem? hff)).2.1
      have HC := Lib.hid hcall
      have HV := Lib.hid hv
      clear hcall hf hsm h hfa hvn hff c4 hno hdn hv
      by_cases hbad : a < 0 ∨ (f.now.length : Int) < a ∨ n < 0
      · rw [if_pos hbad] at e1
        rw [e1]
        by_cases q1 : a < 0
        · clear hbad e1
          go_enter Try.func20, Try.ntmps20
          go_wp2_with (first | (go_at_call 47; refine HSH.out.mono ?_; rintro e w5 ⟨rfl, rfl⟩) | (go_at_call 43; refine HC.out.mono ?_; rintro e w5 ⟨rfl, rfl⟩))
          go_ret2
          exact ⟨_, rfl, Below.refl _ _, OwnB.nil _ _ _, fun k e => (nomatch e)⟩
        · by_cases q2 : (f.now.length : Int) < a
          · clear hbad e1
            go_enter Try.func20, Try.ntmps20
            go_wp2_with (first | (go_at_call 47; refine HSH.out.mono ?_; rintro e w5 ⟨rfl, rfl⟩) | (go_at_call 43; refine HC.out.mono ?_; rintro e w5 ⟨rfl, rfl⟩))
            go_ret2
            exact ⟨_, rfl, Below.refl _ _, OwnB.nil _ _ _, fun k e => (nomatch e)⟩
          · have q3 : n < 0 := by omega
            clear hbad e1
            go_enter Try.func20, Try.ntmps20
            go_wp2_with (first | (go_at_call 47; refine HSH.out.mono ?_; rintro e w5 ⟨rfl, rfl⟩) | (go_at_call 43; refine HC.out.mono ?_; rintro e w5 ⟨rfl, rfl⟩))
            go_ret2
            exact ⟨_, rfl, Below.refl _ _, OwnB.nil _ _ _, fun k e => (nomatch e)⟩
      · rw [if_neg hbad] at e1
        rw [e1]
        obtain ⟨i, rfl⟩ := Int.eq_ofNat_of_zero_le (show 0 ≤ a by omega)
        obtain ⟨c, rfl⟩ := Int.eq_ofNat_of_zero_le (show 0 ≤ n by omega)
        have hil : i ≤ f.now.length := by omega
        obtain ⟨m, hm⟩ : ∃ m : Nat, m = min c (f.now.length - i) := ⟨_, rfl⟩
        have hmi : min (c : Int) ((f.now.length - i : Nat) : Int) = (m : Int) := by omega
        have htk : (f.now.drop i).take c = (f.now.drop i).take m := by
          rw [hm, ← List.length_drop, ← List.take_take, List.take_length]
        show Calls _ _ _ _ fun e w' => ∃ v, e = .returned (.tuple #[v, .int .i64 0]) ∧ Below w.heap.size w w' ∧ OwnB w' 0 5 v ((f.now.drop i).take c) ∧ (∀ k, v.ownBlock = some k → w.heap.size ≤ k)
        rw [htk]
        have hml : m ≤ f.now.length - i := by omega
        have hlm : ((f.now.drop i).take m).length = m := by rw [List.length_take, List.length_drop]; omega
        have h1 : ¬ ((i : Int) < 0) := by omega
        have h2 : ¬ ((f.now.length : Int) < (i : Int)) := by omega
        have h3 : ¬ ((c : Int) < 0) := by omega
        clear hbad e1 hm htk
        go_enter Try.func20, Try.ntmps20
        go_wp2_with (first | (go_at_call 47; refine HSH.out.mono ?_; rintro e w5 ⟨rfl, rfl⟩) | (go_at_call 43; refine HC.out.mono ?_; rintro e w5 ⟨rfl, rfl⟩))
        · have hm0 : m = 0 := by omega
          subst hm0
          refine (clone_bytes w _ 0 [] (show Rd w 1 (.slice na 0 0) 0 [] from ⟨na, 0, rfl, Nat.le_refl _, Nat.zero_le _, rfl, .inl ⟨rfl, fun _ => rfl⟩⟩) (by simp) (by omega)).mono ?_
          rintro e w5 ⟨v', rfl, hrow, hb, hvb⟩
          have HR := Lib.hid hrow
          clear hrow
          go_wp2
          go_ret2
          exact ⟨v', rfl, hb, by rw [List.take_zero]; exact HR.out, fun k e => (hvb k e).1⟩
        · refine (clone_bytes w _ m (((f.now.drop i).take m).map bv) (sub_rd HV.out i m hil hml) (bv_oneCell _) (by omega)).mono ?_
          rintro e w5 ⟨v', rfl, hrow, hb, hvb⟩
          have HR := Lib.hid hrow
          clear hrow
          go_wp2
          go_ret2
          refine ⟨v', rfl, hb, ?_, fun k e => (hvb k e).1⟩
          unfold OwnB
          rw [hlm]
          exact HR.out

theorem read_at {g : Gh} {w : World} {p : Nat} {d : PD} (h : DiskAt g w p d) (hsm : Small d) (s : ByteArray) (hs : s.size ≤ maxLen) (a n : Int) :
    Calls Try.prog 20 #[.pointer (some ⟨p, 0, none⟩), .string s, .int .i64 a, .int .i64 n] w fun e w' => ∃ v, e = .returned (.tuple #[v, .int .i64 ((d.read s.data.toList a n).2 : Int)]) ∧ Below w.heap.size w w' ∧ RdB w' v (d.read s.data.toList a n).1 ∧ (∀ k, v.ownBlock = some k → w.heap.size ≤ k) := by
  refine (read_at2 h hsm s hs a n).mono ?_
  rintro e w' ⟨v, rfl, h1, h2, h3⟩
  exact ⟨v, rfl, h1, h2.read, h3⟩
end Go.Proofs.Ytkobjbjakgfhcaa
