/-
  The document's far store: Next, Objects, List, Drop.
-/
import Derived.Test.YtljjgpjaleekdaaGreatDoorRefFar2
namespace Go.Proofs.YtljjgpjaleekdaaGreatDoor
open Go.RowKit

theorem info_int : (Tryz.prog.info? 3).map (fun i => (i.zero, i.size, i.bytes)) = some (some (.int .i64 0), 1, 8) := by kernel_rfl
theorem info_str : (Tryz.prog.info? 9).map (fun i => (i.zero, i.size, i.bytes)) = some (some (.string ⟨#[]⟩), 1, 16) := by kernel_rfl
theorem int_one (l : List Int) : ∀ u ∈ l.map (Value.int .i64), u.oneCell' = true := by
  intro u hu
  obtain ⟨c, _, rfl⟩ := List.mem_map.1 hu
  rfl

theorem made_own (w : World) (e size : Nat) : (w.alloc (.cells #[] e)).ownsRow w.heap.size e size (.slice (some ⟨w.heap.size, 0, none⟩) 0 0) 0 [] := by
  exact ⟨by simp, .inr ⟨w.heap.size, 0, #[], rfl, Nat.le_refl _, heap_alloc_new w _, Nat.le_refl _, Nat.zero_le _, by simp, by simp⟩⟩

set_option maxRecDepth 100000 in
set_option maxHeartbeats 1000000 in
theorem rnext_at {H : Nat → Prop} {w : World} {q : Nat} {f : FR} (h : RefAt H w q f) (v : Value) (l : List Int) (hv : Rd w 1 v l.length (l.map (Value.int .i64))) (hl : l.length < 1000000) :
    Calls Tryz.prog 17 #[.pointer (some ⟨q, 0, none⟩), v] w fun e w' => e = .returned (.tuple #[]) ∧ RefTo H w w' q (f.next l) := by
  obtain ⟨⟨lv, nv, h1, h2, h3, h4, h5⟩, hq, lt⟩ := h
  obtain ⟨va, vc, rfl, _, _⟩ := Lf.form hv
  have HP := Lib.hid h1
  have HRD := Lib.hid h2
  have HV := Lib.hid hv
  have H4 := Lib.hid h4
  have HQW := Lib.hid (lt q hq)
  clear h1 h2 h3 h4 h5 hv
  go_enter Tryz.func17, Tryz.ntmps17
  go_wp2_with (at_builtin; refine wpList_append_rd rfl (.tmp 5) (.tmp 6) 28 rfl w.heap.size 3 1 8 (.int .i64 0) Tryz.underlying28 info_int rfl (by decide) (.slice (some ⟨w.heap.size, 0, none⟩) 0 0) (.slice va l.length vc) 0 l.length [] (l.map (Value.int .i64)) rfl rfl (made_own w _ _) (Rd.below HV.out ((Below.refl _ _).alloc (Nat.le_refl _) _) (Nat.le_refl _)) (int_one l) ?bb ?l1 ?l2 ?kk)
  case bb => simp
  case l1 => omega
  case l2 => unfold maxLen; omega
  case kk =>
    intro v' w' hown hB
    have hb := hB w.heap.size w (Nat.le_refl _) ((Below.refl _ _).alloc (Nat.le_refl _) _)
    have hrd := rd_of_own hown
    have hlt' := fun k (e : v'.ownBlock = some k) => World.ownsRow.lt hown k e
    obtain ⟨va', vc', rfl, hc1, hc2, hc3, hc4⟩ := hrd
    have hP' := (hb.block q HQW.out).trans HP.out
    have c1 : w'.cell? ⟨q, 1, none⟩ = some nv := blk_cell hP'
    have f1 : w'.frozen? ⟨q, 1, none⟩ = false := blk_free hP'
    have HB := Lib.hid hb
    have HPP := Lib.hid hP'
    have HLT := Lib.hid hlt'
    have HR := Lib.hid (rd_of_own hown)
    clear hb hP' hlt' hown hB hc4
    go_wp2
    go_end0
    have hk2 : Kept (fun k => k ≠ q) w' (w'.setCell ⟨q, 1, none⟩ (.slice va' l.length vc')) := (Kept.refl _ w').setCell (fun h => h rfl) _
    have hs2 : (w'.setCell ⟨q, 1, none⟩ (.slice va' l.length vc')).heap.size = w'.heap.size := by simp [World.setCell]
    have hqw := HQW.out
    refine ⟨rfl, fun k => H k ∨ (w.heap.size ≤ k ∧ k < w'.heap.size), ⟨⟨lv, .slice va' l.length vc', (blk_set (i := 1) HPP.out _).trans (by simp [FR.next]), ?_, ?_, fun k e => ⟨.inl (H4.out k e).1, (H4.out k e).2⟩, fun k e => ⟨.inr (HLT.out k e), ?_⟩⟩, .inl hq, ?_⟩, ?_, ?_⟩
    · exact Rd.kept (Rd.below HRD.out HB.out (Nat.le_refl _)) hk2 fun k e => (H4.out k e).2
    · exact Rd.kept HR.out hk2 fun k e ep => by have := (HLT.out k e).1; omega
    · have := (HLT.out k e).1; omega
    · rintro k (hk | hk)
      · rw [hs2]; exact Nat.lt_of_lt_of_le (lt k hk) HB.out.size
      · rw [hs2]; exact hk.2
    · exact (Kept.of HB.out fun k hk => hk.1).trans (Kept.mono hk2 fun k hk ep => hk.2 (ep ▸ hq))
    · rintro k (hk | hk)
      · exact .inl hk
      · exact .inr ⟨hk.1, by rw [hs2]; exact hk.2⟩

set_option maxRecDepth 100000 in
set_option maxHeartbeats 1000000 in
theorem robjs_at {H : Nat → Prop} {w : World} {q : Nat} {f : FR} (h : RefAt H w q f) (hl : f.objs.length < 1000000) :
    Calls Tryz.prog 9 #[.pointer (some ⟨q, 0, none⟩)] w fun e w' => ∃ v, e = .returned v ∧ w'.ownsRow w.heap.size 64 3 v f.objs.length (fileCells f.objs) ∧ Below w.heap.size w w' := by
  obtain ⟨⟨lv, nv, h1, h2, h3, h4, h5⟩, hq, lt⟩ := h
  have hb0 : Below w.heap.size w (w.alloc (.cells #[] 64)) := (Below.refl _ _).alloc (Nat.le_refl _) _
  have c0 : (w.alloc (.cells #[] 64)).cell? ⟨q, 0, none⟩ = some lv := blk_cell ((hb0.block q (lt q hq)).trans h1)
  have HRD := Lib.hid (Rd.below h2 hb0 (Nat.le_refl _))
  obtain ⟨va, vc, rfl, _, _⟩ := h2
  clear h1 h3 h4 h5
  go_enter Tryz.func9, Tryz.ntmps9
  go_wp2_with (at_builtin; refine wpList_append_rd rfl (.tmp 3) (.tmp 7) 27 rfl w.heap.size 64 3 40 (.agg #[.string ⟨#[]⟩, .string ⟨#[]⟩, .int .i64 0]) Tryz.underlying27 info_afile rfl (by decide) (.slice (some ⟨w.heap.size, 0, none⟩) 0 0) (.slice va f.objs.length vc) 0 f.objs.length [] (fileCells f.objs) rfl rfl (made_own w _ _) HRD.out (fileCells_one _) ?bb ?l1 ?l2 ?kk)
  case bb => simp
  case l1 => omega
  case l2 => unfold maxLen; omega
  case kk =>
    intro v' w' hown hB
    have hb := hB w.heap.size w (Nat.le_refl _) hb0
    have HO := Lib.hid hown
    clear hown hB
    go_wp2
    go_ret
    exact ⟨v', rfl, HO.out, hb⟩

/-- The first of the files, and the others. -/
theorem fileCells_take (l : List (List UInt8 × List UInt8)) (i : Nat) (hi : i ≤ l.length) : fileCells (l.take i) = (fileCells l).take (i * 3) := by
  induction l generalizing i with
  | nil => simp [fileCells]
  | cons x r ih =>
    cases i with
    | zero => simp [fileCells]
    | succ i =>
      have e : fileCells (x :: r) = [.string (strB x.1), .string (strB x.2), .int .i64 0] ++ fileCells r := by simp [fileCells]
      have e2 : fileCells ((x :: r).take (i + 1)) = [.string (strB x.1), .string (strB x.2), .int .i64 0] ++ fileCells (r.take i) := by simp [fileCells]
      rw [e, e2, ih i (by simpa using hi), show (i + 1) * 3 = i * 3 + 3 by omega]
      simp [List.take_succ_cons]
theorem fileCells_drop (l : List (List UInt8 × List UInt8)) (i : Nat) (hi : i ≤ l.length) : fileCells (l.drop i) = (fileCells l).drop (i * 3) := by
  induction l generalizing i with
  | nil => simp [fileCells]
  | cons x r ih =>
    cases i with
    | zero => simp
    | succ i =>
      have e : fileCells (x :: r) = [.string (strB x.1), .string (strB x.2), .int .i64 0] ++ fileCells r := by simp [fileCells]
      rw [e, List.drop_succ_cons, ih i (by simpa using hi), show (i + 1) * 3 = i * 3 + 3 by omega]
      simp
theorem fileCells_len (l : List (List UInt8 × List UInt8)) : (fileCells l).length = l.length * 3 := by
  induction l with
  | nil => rfl
  | cons x r ih =>
    have e : fileCells (x :: r) = [.string (strB x.1), .string (strB x.2), .int .i64 0] ++ fileCells r := by simp [fileCells]
    rw [e, List.length_append, ih, List.length_cons]
    simp
    omega
theorem fileCells_app (a b : List (List UInt8 × List UInt8)) : fileCells (a ++ b) = fileCells a ++ fileCells b := by simp [fileCells]

/-- The first files of a list that can be read. -/
theorem rd_files_front {w : World} {va : Option Addr} {vc : Nat} {l : List (List UInt8 × List UInt8)} (h : Rd w 3 (.slice va l.length vc) l.length (fileCells l)) (i : Nat) (hi : i ≤ l.length) : Rd w 3 (.slice va i vc) i (fileCells (l.take i)) := by
  obtain ⟨a, cap, hv, h1, h2, h0, h3⟩ := h
  cases hv
  refine ⟨_, _, rfl, by omega, h2, by rw [fileCells_len, List.length_take]; omega, ?_⟩
  rcases h3 with ⟨h3, h4⟩ | ⟨b, off, hb, h4, h5⟩
  · exact .inl ⟨by omega, h4⟩
  · refine .inr ⟨b, off, hb, h4, fun j u hj => h5 j u ?_⟩
    rw [fileCells_take l i hi, List.getElem?_take] at hj
    split at hj
    · exact hj
    · cases hj

/-- .. and those behind. -/
theorem rd_files_back {w : World} {va : Option Addr} {vc : Nat} {l : List (List UInt8 × List UInt8)} (h : Rd w 3 (.slice va l.length vc) l.length (fileCells l)) (i : Nat) (hi : i ≤ l.length) : Rd w 3 (.slice (va.map fun x => x.add (i * 3)) (l.length - i) (vc - i)) (l.length - i) (fileCells (l.drop i)) := by
  obtain ⟨a, cap, hv, h1, h2, h0, h3⟩ := h
  cases hv
  refine ⟨_, _, rfl, by omega, by omega, by rw [fileCells_len, List.length_drop], ?_⟩
  rcases h3 with ⟨h3, h4⟩ | ⟨b, off, rfl, h4, h5⟩
  · refine .inl ⟨by omega, fun hn => ?_⟩
    cases va with
    | none => have := h4 rfl; omega
    | some _ => cases hn
  · have hadd : (⟨b, off, none⟩ : Addr).add (i * 3) = ⟨b, off + i * 3, none⟩ := by unfold Addr.add; split <;> simp_all
    refine .inr ⟨b, off + i * 3, by rw [Option.map_some, hadd], h4, fun j u hj => ?_⟩
    rw [fileCells_drop l i hi, List.getElem?_drop] at hj
    rw [Nat.add_assoc]
    exact h5 (i * 3 + j) u hj
end Go.Proofs.YtljjgpjaleekdaaGreatDoor
