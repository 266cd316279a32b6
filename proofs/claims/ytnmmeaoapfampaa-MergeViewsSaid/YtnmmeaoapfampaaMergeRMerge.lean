/-
  Entries of many lists as one, as the document makes them; pairs told twice.
-/
import Derived.Test.YtnmmeaoapfampaaMergeC
import Derived.Test.YtnmmeaoapfampaaSeekRSorted
namespace Go.Proofs.Ytnmmeaoapfampaa
open Go.RowKit

theorem RdLE.fits {w : World} {v : Value} {ls : List (List Ent)} (h : RdLE w v ls) : ∀ e ∈ ls.flatten, e.fits := by
  intro e he
  obtain ⟨l, hl, hel⟩ := List.mem_flatten.1 he
  obtain ⟨i, hi, rfl⟩ := List.mem_iff_getElem.1 hl
  obtain ⟨cs, ⟨a, cap, hv, h1, h2, h3, h4⟩, h5⟩ := h
  exact (h5 i (cs[i]'(by omega)) ls[i] (List.getElem?_eq_getElem (by omega)) (List.getElem?_eq_getElem hi)).2 e hel
theorem mflat_take {ls : List (List Ent)} {k : Nat} {X : List Ent} (h : ls[k]? = some X) : (ls.take (k + 1)).flatten = (ls.take k).flatten ++ X ∧ ((ls.take k).flatten).length + X.length ≤ ls.flatten.length := by
  obtain ⟨hk, rfl⟩ := List.getElem?_eq_some_iff.1 h
  have e1 : (ls.take (k + 1)).flatten = (ls.take k).flatten ++ ls[k] := by rw [List.take_succ_eq_append_getElem hk, List.flatten_append]; simp
  refine ⟨e1, ?_⟩
  have e2 : ls.flatten = (ls.take (k + 1)).flatten ++ (ls.drop (k + 1)).flatten := by rw [← List.flatten_append, List.take_append_drop]
  rw [e2, e1, List.length_append, List.length_append]
  omega

set_option maxRecDepth 100000 in
set_option maxHeartbeats 1000000 in
theorem rmerge_any (v : Value) (ls : List (List Ent)) (w : World) (hv : RdLE w v ls) (hl : ls.flatten.length ≤ 100000) :
    Calls Try.prog 14 #[v] w fun e w' => ∃ x, e = .returned x ∧ OwnE w' w.heap.size x (mergeE ls) ∧ Below w.heap.size w w' := by
  obtain ⟨va, vc, rfl, hc1, hc2⟩ := hv.form
  unfold maxLen at hc2
  have HV := Lib.hid hv
  have HF := Lib.hid hv.fits
  clear hv
  go_enter Try.func14, Try.ntmps14
  go_wp2
  go_loopw [3, 4] (fun l i wr => ∃ k : Nat, k ≤ ls.length ∧ i = .int .i64 (k : Int) ∧ Hid (OwnE wr w.heap.size l (ls.take k).flatten) ∧ Hid (Below w.heap.size w wr)) (fun _ i _ => ls.length - (intOf i).toNat)
  case atStart => exact ⟨0, Nat.zero_le _, rfl, Lib.hid (World.ownsRow_nil _ _ _ _), Lib.hid (Below.refl _ _)⟩
  case round =>
    obtain ⟨k, hk, rfl, HO, HB⟩ := hrel
    by_cases hlt : k < ls.length
    · have hlt' : (k : Int) < (ls.length : Int) := by omega
      obtain ⟨X, hX⟩ : ∃ X, ls[k]? = some X := ⟨_, List.getElem?_eq_getElem hlt⟩
      obtain ⟨b, o, a, cap, rfl, hcell, hr, hbl⟩ := (HV.out.below HB.out (Nat.le_refl _)).at_ hX
      obtain ⟨ft1, ft2⟩ := mflat_take hX
      have HFT := Lib.hid ft1
      have HR := Lib.hid hr
      clear hX hr ft1
      go_wp2_with (at_builtin; refine wpList_append_rd rfl (.tmp 11) (.tmp 15) 25 rfl w.heap.size 38 4 48 (.agg #[.string ⟨#[]⟩, .int .i64 0, .int .i64 0, .string ⟨#[]⟩]) Try.underlying25 info_ent rfl (by decide) _ (.slice a X.length cap) (ls.take k).flatten.length X.length ((ls.take k).flatten.flatMap Ent.cells) (X.flatMap Ent.cells) rfl rfl HO.out HR.out.1 (entFlat_one _) ?bA ?l1 ?l2 ?kk)
      case bA => exact HB.out.size
      case l1 => omega
      case l2 => unfold maxLen; omega
      case kk =>
        intro v' w' hown' hb'
        have q2 := hb' w.heap.size w (Nat.le_refl _) HB.out
        go_wp2
        refine ⟨⟨k + 1, by omega, by go_num, Lib.hid ?_, Lib.hid q2⟩, by simp [intOf]; omega⟩
        unfold OwnE
        rw [HFT.out, List.length_append, List.flatMap_append]
        rw [show (List.take k (List.map List.length ls)).sum = (List.take k ls).flatten.length by rw [List.length_flatten, List.map_take]] at hown'
        exact hown'
    · have hlt' : ¬ (k : Int) < (ls.length : Int) := by omega
      obtain rfl : k = ls.length := by omega
      rw [List.take_length] at HO
      have HRD := Lib.hid (HO.out.read HF.out)
      go_wp2_with (go_at_call 23; (refine (rsorted_any _ _ _ HRD.out hl).mono ?_); rintro e w5 ⟨x, rfl, ho, hb⟩)
      go_ret
      exact ⟨_, rfl, own_monoE ho HB.out.size, HB.out.trans (hb.mono HB.out.size)⟩

set_option maxRecDepth 100000 in
set_option maxHeartbeats 1000000 in
/-- Pairs of one list, told twice. -/
theorem rpairs_any (va vb : Value) (l : List (ByteArray × ByteArray)) (w : World) (hl : l.length < 1000000) (ha : OwnP w 0 va l) (hb : OwnP w 0 vb l) :
    Calls Try.prog 16 #[va, vb] w fun e w' => e = .returned (.bool true) ∧ Below w.heap.size w w' := by
  obtain ⟨aa, ca, rfl, _, _⟩ := ha.form
  obtain ⟨ab, cb, rfl, _, _⟩ := hb.form
  have HA := Lib.hid ha
  have HB := Lib.hid hb
  clear ha hb
  go_enter Try.func16, Try.ntmps16
  go_wp2
  go_loopw [5] (fun i wr => ∃ k : Nat, k ≤ l.length ∧ i = .int .i64 k ∧ Hid (Below w.heap.size w wr)) (fun i _ => l.length - (intOf i).toNat)
  case atStart => exact ⟨0, Nat.zero_le _, rfl, Lib.hid (Below.refl _ _)⟩
  case round =>
    obtain ⟨k, hk, rfl, HBL⟩ := hrel
    by_cases hlt : k < l.length
    · obtain ⟨ba, rfl, hba, c0, c1⟩ := own_pair (HA.out.below HBL.out) hlt
      obtain ⟨bb, rfl, hbb, d0, d1⟩ := own_pair (HB.out.below HBL.out) hlt
      generalize l.getD k noneP = o at *
      go_wp2
      go_quiet (fail)
      go_wp2
      refine ⟨⟨k + 1, by omega, by go_num, Lib.hid (below_drewN HBL.out _)⟩, ?_⟩
      simp [intOf]; omega
    · go_wp2
      go_ret
      exact ⟨rfl, HBL.out⟩
end Go.Proofs.Ytnmmeaoapfampaa
