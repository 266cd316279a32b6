/-
  Are two operations, two lists of operations, one? '!=' at api.Op; slices.Equal; the document's SameOps.
-/
import Derived.Test.YtpbmacbogmnokaaOpsIns
import Derived.Test.YtpbmacbogmnokaaLayO
import Derived.Laws.StructEq
import Derived.Deep.QuietTactic
import Derived.BigQuiet
namespace Go.Proofs.Ytpbmacbogmnokaa
open Go.RowKit

/-- Are two operations one? -/
def eqO (x y : Ope) : Bool := x.k == y.k && (x.u.toList == y.u.toList && x.v.toList == y.v.toList)

theorem bytes_ext {a b : ByteArray} (h : a.toList = b.toList) : a = b := by
  rw [otoList_data, otoList_data] at h
  cases a; cases b
  simp only at h
  rw [Array.toList_inj.1 h]

theorem eqO_iff (x y : Ope) : eqO x y = true ↔ x = y := by
  unfold eqO
  cases x; cases y
  simp only [Bool.and_eq_true, beq_iff_eq, Ope.mk.injEq]
  exact ⟨fun ⟨h1, h2, h3⟩ => ⟨h1, bytes_ext h2, bytes_ext h3⟩, fun ⟨h1, h2, h3⟩ => ⟨h1, by rw [h2], by rw [h3]⟩⟩

theorem neqO : NeqAt Try.prog 43 (fun x => .agg (Ope.cells x).toArray) eqO := by
  refine ⟨fun x y w => ?_, GuardAt.agg _ (by kernel_rfl)⟩
  have u3 := Try.underlying3
  have a3 := Try.isAgg3
  have z3 := Try.sizeOf3
  have u9 := Try.underlying9
  have a9 := Try.isAgg9
  have z9 := Try.sizeOf9
  have hS : Try.prog.underlying 43 = some (.struct (Try.prog.fieldsOf 43)) := by kernel_rfl
  have hp : Try.prog.stoodInHeld 43 = false := by kernel_rfl
  simp only [Ope.cells]
  rw [run_neq_struct, show (10000 : Nat) = 9999 + 1 from rfl, run_equalIn_agg w 9999 43 _ _ hS hp]
  simp only [Program.fieldsOf, Try.underlying43]
  go_simp
  unfold eqO
  by_cases h1 : x.k = y.k <;> by_cases h2 : x.u.toList = y.u.toList <;> by_cases h3 : x.v.toList = y.v.toList <;> simp [h1, h2, h3]

/-- Are two lists one? -/
def sameL (a b : List Ope) : Bool := Lib.allEq eqO a b

theorem sameL_iff : ∀ a b : List Ope, sameL a b = true ↔ a = b
  | [], [] => by simp [sameL, Lib.allEq]
  | [], _ :: _ => by simp [sameL, Lib.allEq]
  | _ :: _, [] => by simp [sameL, Lib.allEq]
  | x :: r, y :: t => by
    have ih := sameL_iff r t
    unfold sameL at ih ⊢
    rw [Lib.allEq, Bool.and_eq_true, eqO_iff, ih, List.cons.injEq]

theorem sameL_refl (a : List Ope) : sameL a a = true := (sameL_iff a a).2 rfl

theorem sameL_at {a b : List Ope} (h : a.length = b.length) (he : ∀ j, j < a.length → eqO (a.getD j Ope.none_) (b.getD j Ope.none_) = true) : true = sameL a b := by
  rw [eq_comm, sameL_iff]
  refine List.ext_getElem h fun j h1 h2 => ?_
  have := (eqO_iff _ _).1 (he j h1)
  simpa [List.getD, h1, h2] using this

theorem sameL_no {a b : List Ope} {j : Nat} (_h : j < a.length) (he : eqO (a.getD j Ope.none_) (b.getD j Ope.none_) = false) : false = sameL a b := by
  cases hs : sameL a b with
  | false => rfl
  | true =>
    have := (sameL_iff a b).1 hs
    subst this
    rw [(eqO_iff _ _).2 rfl] at he
    cases he

theorem sameL_len {a b : List Ope} (h : a.length ≠ b.length) : false = sameL a b := by
  cases hs : sameL a b with
  | false => rfl
  | true => exact absurd (congrArg List.length ((sameL_iff a b).1 hs)) h

theorem eqO_more {a b : List Ope} {k : Nat} (h : ∀ j, j < k → eqO (a.getD j Ope.none_) (b.getD j Ope.none_) = true) (h2 : eqO (a.getD k Ope.none_) (b.getD k Ope.none_) = true) : ∀ j, j < k + 1 → eqO (a.getD j Ope.none_) (b.getD j Ope.none_) = true := by
  intro j hj
  rcases Nat.lt_or_ge j k with h1 | h1
  · exact h j h1
  · obtain rfl : j = k := by omega
    exact h2

set_option maxRecDepth 100000 in
set_option maxHeartbeats 4000000 in
theorem rsame_any (va vb : Value) (a b : List Ope) (w : World) (ha : RdO w va a) (hb : RdO w vb b) :
    Calls Try.prog 35 #[va, vb] w fun e w' => e = .returned (.bool (sameL a b)) ∧ Below w.heap.size w w' := by
  obtain ⟨pa, ca, rfl, a1, a2⟩ := ha.form
  obtain ⟨pb, cb, rfl, b1, b2⟩ := hb.form
  unfold maxLen at a2 b2
  by_cases hlen : a.length = b.length
  · have h1 : ((a.length : Int) != (b.length : Int)) = false := by simp [hlen]
    have HLEN := Lib.hid hlen
    have HA := Lib.hid ha
    have HB := Lib.hid hb
    clear ha hb hlen
    go_enter Try.func35, Try.ntmps35
    go_wp2
    go_loopw [5] (fun i wr => ∃ k : Nat, k ≤ a.length ∧ i = .int .i64 k ∧ Hid (∀ j, j < k → eqO (a.getD j Ope.none_) (b.getD j Ope.none_) = true) ∧ Below w.heap.size w wr) (fun i _ => a.length - (intOf i).toNat)
    case atStart => exact ⟨0, Nat.zero_le _, rfl, Lib.hid (fun j h => by omega), Below.refl _ _⟩
    case round =>
      obtain ⟨k, hk, rfl, HE, hbl⟩ := hrel
      have HBL := Lib.hid hbl
      clear hbl
      by_cases hlt : k < a.length
      · have hltb : k < b.length := by have := HLEN.out; omega
        obtain ⟨ba, oa, rfl, hba, hca⟩ := HA.out.at_ (by intro h; subst h; simp at hlt)
        obtain ⟨bb, ob, rfl, hbb, hcb⟩ := HB.out.at_ (by intro h; subst h; simp at hltb)
        obtain ⟨d0, d1, d2⟩ := hca k hlt
        obtain ⟨f0, f1, f2⟩ := hcb k hltb
        have e0 := (HBL.out.cell (p := ⟨ba, oa + k * 3, none⟩) hba).trans d0
        have e1 := (HBL.out.cell (p := ⟨ba, oa + k * 3 + 1, none⟩) hba).trans d1
        have e2 := (HBL.out.cell (p := ⟨ba, oa + k * 3 + 2, none⟩) hba).trans d2
        have g0 := (HBL.out.cell (p := ⟨bb, ob + k * 3, none⟩) hbb).trans f0
        have g1 := (HBL.out.cell (p := ⟨bb, ob + k * 3 + 1, none⟩) hbb).trans f1
        have g2 := (HBL.out.cell (p := ⟨bb, ob + k * 3 + 2, none⟩) hbb).trans f2
        have HN := Lib.hid (@sameL_no a b k hlt)
        have HM := Lib.hid (@eqO_more a b k HE.out)
        clear d0 d1 d2 f0 f1 f2 hca hcb
        generalize a.getD k Ope.none_ = x at *
        generalize b.getD k Ope.none_ = y at *
        have hne : ∀ (w : World), (binOp .neq 43 (.agg #[.int .i64 x.k, .string x.u, .string x.v]) (.agg #[.int .i64 y.k, .string y.u, .string y.v])).run Try.prog w = .ok (.bool (!eqO x y)) w := fun w => neqO.1 x y w
        cases he : eqO x y with
        | true =>
          rw [he] at hne
          have HT := Lib.hid (HM.out he)
          clear he
          go_wp2
          go_quiet (fail)
          go_wp2
          refine ⟨⟨k + 1, by omega, by go_num, HT, below_drewN HBL.out _⟩, ?_⟩
          simp [intOf]; omega
        | false =>
          rw [he] at hne
          have HT := Lib.hid (HN.out he)
          clear he
          go_wp2
          go_quiet (fail)
          go_wp2
          go_ret
          exact ⟨oret_bool HT.out, below_drewN HBL.out _⟩
      · obtain rfl : k = a.length := by omega
        go_wp2
        go_ret
        exact ⟨oret_bool (sameL_at HLEN.out HE.out), HBL.out⟩
  · have h1 : ((a.length : Int) != (b.length : Int)) = true := by simp; omega
    have HR := Lib.hid (sameL_len hlen)
    clear ha hb hlen
    go_enter Try.func35, Try.ntmps35
    go_wp2
    go_ret
    exact ⟨oret_bool HR.out, Below.refl _ _⟩

theorem equal_any (va vb : Value) (a b : List Ope) (w : World) (ha : RdO w va a) (hb : RdO w vb b) (h1 : a ≠ []) (h2 : b ≠ []) :
    Calls Try.prog 51 #[va, vb] w fun e w' => e = .returned (.bool (sameL a b)) ∧ Below w.heap.size w w' := by
  obtain ⟨pa, ca, rfl, a1, a2⟩ := ha.form
  obtain ⟨pb, cb, rfl, b1, b2⟩ := hb.form
  obtain ⟨ba, oa, rfl, hba, hca⟩ := ha.at_ h1
  obtain ⟨bb, ob, rfl, hbb, hcb⟩ := hb.at_ h2
  unfold maxLen at a2 b2
  have cells : ∀ (l : List Ope) (p o : Nat), (∀ i, i < l.length → w.cell? ⟨p, o + i * 3, none⟩ = some (.int .i64 (l.getD i Ope.none_).k) ∧ w.cell? ⟨p, o + i * 3 + 1, none⟩ = some (.string (l.getD i Ope.none_).u) ∧ w.cell? ⟨p, o + i * 3 + 2, none⟩ = some (.string (l.getD i Ope.none_).v)) →
      ∀ j, j < l.length → ∀ i v, (Ope.cells l[j]!)[i]? = some v → w.cell? ⟨p, o + j * 3 + i, none⟩ = some v := by
    intro l p o hl j hj i v hi
    obtain ⟨c0, c1, c2⟩ := hl j hj
    have e : l[j]! = l.getD j Ope.none_ := by simp [List.getD, hj]
    rw [e] at hi
    have hi3 : i < 3 := (List.getElem?_eq_some_iff.1 hi).1
    match i, hi3 with
    | 0, _ => rw [Nat.add_zero, c0]; exact hi
    | 1, _ => rw [c1]; exact hi
    | 2, _ => rw [c2]; exact hi
  have h := AnyQ.slices_Equal Try.equalO 3 Try.isAgg43 Try.sizeOf43 Ope.cells (fun _ => rfl) eqO neqO ba oa a.length ca bb ob b.length cb a b w (Nat.le_refl _) (Nat.le_refl _) (by omega) (by omega) (cells a ba oa hca) (cells b bb ob hcb)
  refine h.mono ?_
  rintro e w' ⟨rfl, q, rfl⟩
  rw [List.take_length, List.take_length]
  exact ⟨rfl, below_drewN (Below.refl _ _) _⟩
end Go.Proofs.Ytpbmacbogmnokaa
