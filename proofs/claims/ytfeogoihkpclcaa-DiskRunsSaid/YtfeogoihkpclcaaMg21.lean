import Derived.Test.YtfeogoihkpclcaaMg20
import Derived.OwnWalk

/-
  The document's disk: Move, Gone, Names, Make.
-/
namespace Go.Proofs.Ytfeogoihkpclcaa
open Go.RowKit

set_option maxRecDepth 100000 in
set_option maxHeartbeats 4000000 in
set_option linter.unusedSimpArgs false in
theorem dchange_no {o : Nat → DR} {v : DV} {gs : List GD} {w : World} {q : Nat} {m : DM} (h : DocAt o v gs w q m) (hsm : DSm m) (hd : m.down = false) (c : DC) (his : m.is = false) :
    Calls Try.prog 63 #[.pointer (some ⟨q, 0, none⟩), .agg #[.string (strB c.src), .string (strB c.dst), .int .i64 (c.id : Int)]] w fun e w' => e = .returned (.int .i64 (m.err : Int)) ∧ DocTo o w w' q m.counted := by
  obtain ⟨wb, hwb⟩ : ∃ wb, wb = w.alloc (.cells #[.string (strB c.src), .string (strB c.dst), .int .i64 (c.id : Int)] 101) := ⟨_, rfl⟩
  have hbb : Below w.heap.size w wb := by rw [hwb]; exact (Below.refl _ _).alloc (Nat.le_refl _) _
  have hab := h.below hbb
  have HCO := Lib.hid (dcount_any wb q m hab hsm.c0 (by have := hsm.cl; omega) hd)
  have HH := Lib.hid h
  have HWB := Lib.hid hwb
  have HBB := Lib.hid hbb
  have HIS := Lib.hid his
  clear hwb hbb hab hsm hd h his
  go_enter Try.func63, Try.ntmps63
  go_wp2_with fail
  rw [← HWB.out]
  refine HCO.out.mono ?_
  rw [HIS.out]
  rintro e w0 ⟨rfl, hd0, hk0⟩
  have HD0 := Lib.hid hd0
  have HK0 := Lib.hid hk0
  clear hd0 hk0
  go_wp2
  go_ret
  exact ⟨rfl, o, v, gs, HD0.out, doc_touch HH.out.rol ((Kept.of HBB.out (R := fun k => k < w.heap.size ∧ k ≠ q) fun _ h => h.1).trans (HK0.out.mono fun k hk => ⟨Nat.lt_of_lt_of_le hk.1 HBB.out.size, hk.2⟩)), Grows.refl _ _ _⟩

theorem dchange_any {o : Nat → DR} {v : DV} {gs : List GD} {w : World} {q : Nat} {m : DM} (h : DocAt o v gs w q m) (hsm : DSm m) (hd : m.down = false) (s t : ByteArray) (id : Nat) (hid : id < 100000) :
    Calls Try.prog 63 #[.pointer (some ⟨q, 0, none⟩), .agg #[.string s, .string t, .int .i64 (id : Int)]] w fun e w' => e = .returned (.int .i64 ((m.change ⟨s.data.toList, t.data.toList, id⟩).1 : Int)) ∧ DocTo o w w' q (m.change ⟨s.data.toList, t.data.toList, id⟩).2 := by
  unfold DM.change
  by_cases his : m.is = true
  · rw [if_pos his]
    exact dchange_yes h hsm hd ⟨s.data.toList, t.data.toList, id⟩ hid his
  · rw [if_neg his]
    exact dchange_no h hsm hd ⟨s.data.toList, t.data.toList, id⟩ (by simpa using his)

set_option maxRecDepth 100000 in
set_option maxHeartbeats 4000000 in
set_option linter.unusedSimpArgs false in
theorem dmove_any {o : Nat → DR} {v : DV} {gs : List GD} {w : World} {q : Nat} {m : DM} (h : DocAt o v gs w q m) (hsm : DSm m) (s t : ByteArray) (ht : t.size ≤ maxLen) :
    Calls Try.prog 31 #[.pointer (some ⟨q, 0, none⟩), .string s, .string t] w fun e w' => e = .returned (.int .i64 ((m.move s.data.toList t.data.toList).1 : Int)) ∧ DocTo o w w' q (m.move s.data.toList t.data.toList).2 := by
  have HCH := Lib.hid (fun hd => dchange_any h hsm hd s t 0 (by omega))
  have hnm := named_any w t ht
  have q1 : w.cell? ⟨q, 1, none⟩ = some v.nv := blk_cell h.blk
  have q10 : w.cell? ⟨q, 10, none⟩ = some (.bool m.down) := blk_cell h.blk
  have HH := Lib.hid h
  obtain ⟨na, nc, hnv, _, _⟩ := h.now
  rw [hnv] at q1
  have HNW := Lib.hid (show Rd w 2 (.slice na m.now.length nc) m.now.length (bCells m.now) by rw [← hnv]; exact h.now)
  clear hnv h
  unfold DM.move
  by_cases hd : m.down = true
  · rw [if_pos hd]
    rw [hd] at q10
    clear hd hnm
    go_enter Try.func31, Try.ntmps31
    go_wp2
    go_ret
    exact ⟨rfl, DocTo.of_below HH.out (Below.refl _ _)⟩
  rw [if_neg hd]
  have hd' : m.down = false := by simpa using hd
  have HC := Lib.hid (HCH.out hd')
  rw [show ((0 : Nat) : Int) = 0 from rfl] at HC
  rw [hd'] at q10
  clear hd hd'
  by_cases hk : nmOk t.data.toList = false
  · rw [hk] at hnm ⊢
    have HN := Lib.hid hnm
    clear hk hnm
    rw [if_pos (by rfl)]
    go_enter Try.func31, Try.ntmps31
    go_wp2_with (first | (go_at_call 61; (with_reducible refine HN.out.mono ?_); rintro e w1 ⟨rfl, rfl⟩))
    go_ret
    exact ⟨rfl, DocTo.of_below HH.out (Below.refl _ _)⟩
  have hk' : nmOk t.data.toList = true := by simpa using hk
  rw [hk'] at hnm ⊢
  have HN := Lib.hid hnm
  clear hk hk' hnm
  rw [if_neg (by simp)]
  have hfd := dfind_any w (.slice na m.now.length nc) m.now s (by have := hsm.now; omega) HNW.out
  cases hf : dfind m.now s.data.toList with
  | none =>
    rw [show dfindI m.now s.data.toList = -1 by unfold dfindI; rw [hf]] at hfd
    have HF := Lib.hid hfd
    clear hfd hf
    rw [if_pos (by rfl)]
    go_enter Try.func31, Try.ntmps31
    go_wp2_with (first | (go_at_call 62; (with_reducible refine HF.out.mono ?_); rintro e w1 ⟨rfl, rfl⟩) | (go_at_call 61; (with_reducible refine HN.out.mono ?_); rintro e w1 ⟨rfl, rfl⟩))
    go_ret
    exact ⟨rfl, DocTo.of_below HH.out (Below.refl _ _)⟩
  | some id =>
    rw [show dfindI m.now s.data.toList = (id : Int) by unfold dfindI; rw [hf]] at hfd
    have HF := Lib.hid hfd
    clear hfd hf
    rw [if_neg (by simp)]
    go_enter Try.func31, Try.ntmps31
    go_wp2_with (first | (go_at_call 62; (with_reducible refine HF.out.mono ?_); rintro e w1 ⟨rfl, rfl⟩) | (go_at_call 61; (with_reducible refine HN.out.mono ?_); rintro e w1 ⟨rfl, rfl⟩) | (go_at_call 63; (with_reducible refine HC.out.mono ?_); rintro e w1 ⟨rfl, hto⟩; have HTO := Lib.hid hto; clear hto))
    go_ret
    exact ⟨rfl, HTO.out⟩

set_option maxRecDepth 100000 in
set_option maxHeartbeats 4000000 in
set_option linter.unusedSimpArgs false in
theorem dgone_any {o : Nat → DR} {v : DV} {gs : List GD} {w : World} {q : Nat} {m : DM} (h : DocAt o v gs w q m) (hsm : DSm m) (s : ByteArray) :
    Calls Try.prog 33 #[.pointer (some ⟨q, 0, none⟩), .string s] w fun e w' => e = .returned (.int .i64 ((m.gone s.data.toList).1 : Int)) ∧ DocTo o w w' q (m.gone s.data.toList).2 := by
  have HCH := Lib.hid (fun hd => dchange_any h hsm hd s ⟨#[]⟩ 0 (by omega))
  have q1 : w.cell? ⟨q, 1, none⟩ = some v.nv := blk_cell h.blk
  have q10 : w.cell? ⟨q, 10, none⟩ = some (.bool m.down) := blk_cell h.blk
  have HH := Lib.hid h
  obtain ⟨na, nc, hnv, _, _⟩ := h.now
  rw [hnv] at q1
  have HNW := Lib.hid (show Rd w 2 (.slice na m.now.length nc) m.now.length (bCells m.now) by rw [← hnv]; exact h.now)
  clear hnv h
  unfold DM.gone
  by_cases hd : m.down = true
  · rw [if_pos hd]
    rw [hd] at q10
    clear hd
    go_enter Try.func33, Try.ntmps33
    go_wp2
    go_ret
    exact ⟨rfl, DocTo.of_below HH.out (Below.refl _ _)⟩
  rw [if_neg hd]
  have hd' : m.down = false := by simpa using hd
  have HC := Lib.hid (HCH.out hd')
  rw [show ((0 : Nat) : Int) = 0 from rfl] at HC
  rw [hd'] at q10
  clear hd hd'
  have hfd := dfind_any w (.slice na m.now.length nc) m.now s (by have := hsm.now; omega) HNW.out
  cases hf : dfind m.now s.data.toList with
  | none =>
    rw [show dfindI m.now s.data.toList = -1 by unfold dfindI; rw [hf]] at hfd
    have HF := Lib.hid hfd
    clear hfd hf
    rw [if_pos (by rfl)]
    go_enter Try.func33, Try.ntmps33
    go_wp2_with (first | (go_at_call 62; (with_reducible refine HF.out.mono ?_); rintro e w1 ⟨rfl, rfl⟩))
    go_ret
    exact ⟨rfl, DocTo.of_below HH.out (Below.refl _ _)⟩
  | some id =>
    rw [show dfindI m.now s.data.toList = (id : Int) by unfold dfindI; rw [hf]] at hfd
    have HF := Lib.hid hfd
    clear hfd hf
    rw [if_neg (by simp)]
    go_enter Try.func33, Try.ntmps33
    go_wp2_with (first | (go_at_call 62; (with_reducible refine HF.out.mono ?_); rintro e w1 ⟨rfl, rfl⟩) | (go_at_call 63; (with_reducible refine HC.out.mono ?_); rintro e w1 ⟨rfl, hto⟩; have HTO := Lib.hid hto; clear hto))
    go_ret
    exact ⟨rfl, HTO.out⟩

end Go.Proofs.Ytfeogoihkpclcaa

/-
  The document's disk: Names, Make.
-/
namespace Go.Proofs.Ytfeogoihkpclcaa
open Go.RowKit

set_option maxRecDepth 100000 in
set_option maxHeartbeats 4000000 in
set_option linter.unusedSimpArgs false in
theorem dnames_any {o : Nat → DR} {v : DV} {gs : List GD} {w : World} {q : Nat} {m : DM} (h : DocAt o v gs w q m) (hsm : DSm m) :
    Calls Try.prog 35 #[.pointer (some ⟨q, 0, none⟩)] w fun e w' => e = .returned (.int .i64 ((m.names).1 : Int)) ∧ DocTo o w w' q (m.names).2 := by
  have HCO := Lib.hid (fun hd => dcount_any w q m h hsm.c0 (by have := hsm.cl; omega) hd)
  have q1 : w.cell? ⟨q, 1, none⟩ = some v.nv := blk_cell h.blk
  have q10 : w.cell? ⟨q, 10, none⟩ = some (.bool m.down) := blk_cell h.blk
  have HH := Lib.hid h
  obtain ⟨na, nc, hnv, _, _⟩ := h.now
  rw [hnv] at q1
  have HNW := Lib.hid (show Rd w 2 (.slice na m.now.length nc) m.now.length (bCells m.now) by rw [← hnv]; exact h.now)
  clear hnv h
  unfold DM.names
  by_cases hd : m.down = true
  · rw [if_pos hd]
    rw [hd] at q10
    clear hd
    go_enter Try.func35, Try.ntmps35
    go_wp2
    go_ret
    exact ⟨rfl, DocTo.of_below HH.out (Below.refl _ _)⟩
  rw [if_neg hd]
  have hd' : m.down = false := by simpa using hd
  have HCO := Lib.hid (HCO.out hd')
  rw [hd'] at q10
  clear hd hd'
  by_cases his : m.is = true
  · rw [if_pos his]
    have HIS := Lib.hid his
    have hnl := hsm.now
    clear his hsm
    go_enter Try.func35, Try.ntmps35
    go_wp2_with fail
    refine HCO.out.mono ?_
    rw [HIS.out]
    rintro e w1 ⟨rfl, hd1, hk1⟩
    obtain ⟨mc, hmc⟩ : ∃ mc, mc = m.counted := ⟨_, rfl⟩
    have hmn : mc.now = m.now := by rw [hmc]; rfl
    rw [← hmc] at hd1
    have HD1 := Lib.hid hd1
    have HK1 := Lib.hid hk1
    have HMC := Lib.hid hmc
    have e1 : w1.cell? ⟨q, 1, none⟩ = some v.nv := blk_cell hd1.blk
    obtain ⟨na1, nc1, hnv1, _, _⟩ := hd1.now
    rw [hnv1] at e1
    have HR1 := Lib.hid (show Rd w1 2 (.slice na1 mc.now.length nc1) mc.now.length (bCells mc.now) by rw [← hnv1]; exact hd1.now)
    rw [← hmn] at hnl
    have hb1 : Below w1.heap.size w1 (w1.alloc (.cells #[] 87)) := (Below.refl _ _).alloc (Nat.le_refl _) _
    have HB1 := Lib.hid hb1
    have HQ := Lib.hid (show q < w1.heap.size from blk_lt hd1.blk)
    have e1' : ∀ o, (w1.alloc o).cell? ⟨q, 1, none⟩ = some (.slice na1 mc.now.length nc1) := fun o => (World.cell?_of_block (a := ⟨q, 1, none⟩) (Below.heap_alloc _ _ _ HQ.out)).trans e1
    clear hd1 hk1 hmc hnv1 hb1 q1 q10 hmn
    go_wp2_with (at_builtin; refine wpList_append_rd rfl (.tmp 16) (.tmp 20) 53 rfl w1.heap.size 87 2 24 (.agg #[.string ⟨#[]⟩, .int .i64 0]) Try.underlying53 info_bind rfl (by decide) (.slice (some ⟨w1.heap.size, 0, none⟩) 0 0) (.slice na1 mc.now.length nc1) 0 mc.now.length [] (bCells mc.now) rfl rfl (made_ownD w1 _ _) (HR1.out.below HB1.out (Nat.le_refl _)) (b_one _) HB1.out.size (by omega) (by unfold maxLen; omega) ?kk)
    case kk =>
      intro u2 w2 hown hBk
      have hb2 := hBk w1.heap.size w1 (Nat.le_refl _) HB1.out
      have hown2 : w2.ownsRow w1.heap.size 87 2 u2 mc.now.length (bCells mc.now) := by simpa using hown
      obtain ⟨ua, uc, rfl, _, _⟩ := rd_of_own hown2
      have hq2 : w2.heap[q]? = some (.cells (docCells v mc) 56 (0, 0)) := (hb2.block q HQ.out).trans HD1.out.blk
      have c2 : w2.cell? ⟨q, 2, none⟩ = some v.ov := blk_cell hq2
      have f2 : w2.frozen? ⟨q, 2, none⟩ = false := blk_free hq2
      have hq3 := blk_set (i := 2) hq2 (.slice ua mc.now.length uc)
      have c3 : (w2.setCell ⟨q, 2, none⟩ (.slice ua mc.now.length uc)).cell? ⟨q, 3, none⟩ = some v.lv := (blk_cell hq3).trans (by simp [docCells])
      have f3 : (w2.setCell ⟨q, 2, none⟩ (.slice ua mc.now.length uc)).frozen? ⟨q, 3, none⟩ = false := blk_free hq3
      have HO2 := Lib.hid hown2
      have HB2 := Lib.hid hb2
      have HQ2 := Lib.hid hq2
      have HQ3 := Lib.hid hq3
      clear hown hBk hb2 hown2 hq2 hq3
      go_wp2
      go_ret
      obtain ⟨w3, hw3⟩ : ∃ w3, w3 = w2.setCell ⟨q, 2, none⟩ (.slice ua mc.now.length uc) := ⟨_, rfl⟩
      rw [← hw3]
      have hk3 : Kept (fun k => k < w1.heap.size ∧ k ≠ q) w1 w3 := by rw [hw3]; exact (Kept.of HB2.out fun _ h => h.1).setCell (fun h => h.2 rfl) _
      have hs3 : w3.heap.size = w2.heap.size := by rw [hw3]; simp [World.setCell]
      have hr3 : Rd w3 2 (.slice ua mc.now.length uc) mc.now.length (bCells mc.now) := by
        rw [hw3]
        refine (rd_of_own HO2.out).kept (R := fun k => k ≠ q) ((Kept.refl _ w2).setCell (fun h => h rfl) _) fun k e ep => ?_
        have := (World.ownsRow.lt HO2.out k e).1
        have := HQ.out
        omega
      have hb3 : w3.heap[q]? = some (.cells (docCells { v with ov := .slice ua mc.now.length uc } mc) 56 (0, 0)) := by rw [hw3]; exact HQ3.out.trans (by simp [docCells])
      obtain ⟨hDo, hTo, hGo⟩ := HD1.out.set_old hk3 hb3 hr3 (fun k e => .inr ⟨(World.ownsRow.lt HO2.out k e).1, by rw [hs3]; exact (World.ownsRow.lt HO2.out k e).2⟩)
      have hk4 : Kept (fun k => k < w3.heap.size ∧ k ≠ q) w3 (w3.setCell ⟨q, 3, none⟩ (.slice none 0 0)) := (Kept.refl _ w3).setCell (fun h => h.2 rfl) _
      have hDn := hDo.no_loose hk4 ((blk_set (i := 3) hDo.blk _).trans (by simp [docCells]))
      have ht := (doc_touch HH.out.rol HK1.out).trans (hTo.trans (doc_touch hDo.rol hk4) hGo) (Grows.refl _ _ _)
      have hg := (Grows.refl (DF_ o) w w1).trans (hGo.trans (Grows.refl _ _ _) hTo.size hk4.size) HK1.out.size (Nat.le_trans hTo.size hk4.size)
      have hz := hDn
      rw [HMC.out] at hz hg
      exact ⟨rfl, _, _, gs, hz, ht, hg⟩
  · rw [if_neg his]
    have HIS := Lib.hid (show m.is = false by simpa using his)
    clear his hsm q1
    go_enter Try.func35, Try.ntmps35
    go_wp2_with (go_at_call 65; (with_reducible refine HCO.out.mono ?_); rw [HIS.out]; rintro e w1 ⟨rfl, hd1, hk1⟩; have HD1 := Lib.hid hd1; have HK1 := Lib.hid hk1;  clear hd1 hk1)
    go_ret
    exact ⟨rfl, o, v, gs, HD1.out, doc_touch HH.out.rol HK1.out, Grows.refl _ _ _⟩

theorem info_pfile : (Try.prog.info? 85).map (fun i => (i.zero, i.size, i.bytes)) = some (some (.pointer none), 1, 8) := by kernel_rfl

set_option maxRecDepth 100000 in
set_option maxHeartbeats 4000000 in
set_option linter.unusedSimpArgs false in
theorem dmake_any {o : Nat → DR} {v : DV} {gs : List GD} {w : World} {q : Nat} {m : DM} (h : DocAt o v gs w q m) (hsm : DSm m) (hfl : m.files.length < 99999) (s : ByteArray) (hs : s.size ≤ maxLen) :
    Calls Try.prog 27 #[.pointer (some ⟨q, 0, none⟩), .string s] w fun e w' => e = .returned (.int .i64 ((m.make s.data.toList).1 : Int)) ∧ DocTo o w w' q (m.make s.data.toList).2 := by
  have hnm := named_any w s hs
  have q0 : w.cell? ⟨q, 0, none⟩ = some v.fv := blk_cell h.blk
  have q1 : w.cell? ⟨q, 1, none⟩ = some v.nv := blk_cell h.blk
  have q10 : w.cell? ⟨q, 10, none⟩ = some (.bool m.down) := blk_cell h.blk
  have HH := Lib.hid h
  obtain ⟨na, nc, hnv, _, _⟩ := h.now
  rw [hnv] at q1
  have HNW := Lib.hid (show Rd w 2 (.slice na m.now.length nc) m.now.length (bCells m.now) by rw [← hnv]; exact h.now)
  clear hnv h
  unfold DM.make
  by_cases hd : m.down = true
  · rw [if_pos hd]
    rw [hd] at q10
    clear hd hnm
    go_enter Try.func27, Try.ntmps27
    go_wp2
    go_ret
    exact ⟨rfl, DocTo.of_below HH.out (Below.refl _ _)⟩
  rw [if_neg hd]
  have hd' : m.down = false := by simpa using hd
  have HD' := Lib.hid hd'
  rw [hd'] at q10
  clear hd hd'
  by_cases hk : nmOk s.data.toList = false
  · rw [hk] at hnm ⊢
    have HN := Lib.hid hnm
    clear hk hnm
    rw [if_pos (by rfl)]
    go_enter Try.func27, Try.ntmps27
    go_wp2_with (first | (go_at_call 61; (with_reducible refine HN.out.mono ?_); rintro e w1 ⟨rfl, rfl⟩))
    go_ret
    exact ⟨rfl, DocTo.of_below HH.out (Below.refl _ _)⟩
  have hk' : nmOk s.data.toList = true := by simpa using hk
  rw [hk'] at hnm ⊢
  have HN := Lib.hid hnm
  clear hk hk' hnm
  rw [if_neg (by simp)]
  have hfd := dfind_any w (.slice na m.now.length nc) m.now s (by have := hsm.now; omega) HNW.out
  cases hf : dfind m.now s.data.toList with
  | some id =>
    rw [show dfindI m.now s.data.toList = (id : Int) by unfold dfindI; rw [hf]] at hfd
    have HF := Lib.hid hfd
    clear hfd hf
    rw [if_pos (by rfl)]
    go_enter Try.func27, Try.ntmps27
    go_wp2_with (first | (go_at_call 62; (with_reducible refine HF.out.mono ?_); rintro e w1 ⟨rfl, rfl⟩) | (go_at_call 61; (with_reducible refine HN.out.mono ?_); rintro e w1 ⟨rfl, rfl⟩))
    go_ret
    exact ⟨rfl, DocTo.of_below HH.out (Below.refl _ _)⟩
  | none =>
    rw [show dfindI m.now s.data.toList = -1 by unfold dfindI; rw [hf]] at hfd
    have HF := Lib.hid hfd
    clear hfd hf
    rw [if_neg (by simp)]
    have hgl : m.files.length = gs.length := by rw [HH.out.fls, List.length_map]
    obtain ⟨fa, fc, hfv, _, _⟩ := rd_of_own HH.out.row
    have hrow := HH.out.row
    have HFV := Lib.hid hfv
    rw [hfv] at hrow q0
    have hgl2 : gs.length < 99999 := by omega
    have HROW := Lib.hid hrow
    have HGL := Lib.hid hgl
    have HSM := Lib.hid hsm
    have HQ := Lib.hid (show q < w.heap.size from HH.out.lt q (by rw [HH.out.rol]; simp))
    have q0' : ∀ o, (w.alloc o).cell? ⟨q, 0, none⟩ = some (.slice fa gs.length fc) := fun o => (World.cell?_of_block (a := ⟨q, 0, none⟩) (Below.heap_alloc _ _ _ HQ.out)).trans q0
    obtain ⟨wa, hwa⟩ : ∃ wa, wa = w.alloc (.cells #[.slice none 0 0, .slice none 0 0] 98) := ⟨_, rfl⟩
    obtain ⟨wb, hwb⟩ : ∃ wb, wb = wa.alloc (.cells #[.pointer (some ⟨w.heap.size, 0, none⟩)] 85) := ⟨_, rfl⟩
    have hba : Below w.heap.size w wa := by rw [hwa]; exact (Below.refl _ _).alloc (Nat.le_refl _) _
    have hbb : Below w.heap.size w wb := by rw [hwb]; exact hba.alloc hba.size _
    have hsa : wa.heap.size = w.heap.size + 1 := by rw [hwa]; simp
    have hsb : wb.heap.size = w.heap.size + 2 := by rw [hwb]; simp [hsa]
    have hfb : wb.heap[w.heap.size]? = some (.cells #[.slice none 0 0, .slice none 0 0] 98 (0, 0)) := by
      rw [hwb, Below.heap_alloc _ _ _ (by omega), hwa]
      exact heap_alloc_new w _
    have hpb : wb.heap[wa.heap.size]? = some (.cells #[.pointer (some ⟨w.heap.size, 0, none⟩)] 85 (0, 0)) := by rw [hwb]; exact heap_alloc_new wa _
    have HBB := Lib.hid hbb
    have HSB := Lib.hid hsb
    have HSA := Lib.hid hsa
    have HFB := Lib.hid hfb
    have HPB := Lib.hid hpb
    have HWA := Lib.hid hwa
    have HWB := Lib.hid hwb
    clear hfv hrow hgl hsm hwa hwb hba hbb hsa hsb hfb hpb
    go_enter Try.func27, Try.ntmps27
    go_wp2_with (first | (go_at_call 61; (with_reducible refine HN.out.mono ?_); rintro e w1 ⟨rfl, rfl⟩) | (go_at_call 62; (with_reducible refine HF.out.mono ?_); rintro e w1 ⟨rfl, rfl⟩) | (at_builtin; go_loud (refine wpList_plain rfl fun K' hK' => ?_; refine wp_append_at (.tmp 26) (.tmp 29) 52 rfl 85 1 8 (.pointer none) Try.underlying52 info_pfile rfl (by decide) (.slice fa gs.length fc) _ gs.length 1 (fpCells gs) [.pointer (some ⟨w.heap.size, 0, none⟩)] rfl rfl ?own ?rd (by intro u hu; simp at hu; subst hu; rfl) (by omega) (by unfold maxLen; omega) ?kk)))
    case own => rw [← HWA.out, ← HWB.out]; exact own_kept HROW.out (R := fun k => k < w.heap.size) (Kept.of HBB.out fun _ h => h) fun k e => own_lt HROW.out k e
    case rd => rw [← HWA.out, ← HWB.out]; exact ⟨_, 1, rfl, Nat.le_refl _, by unfold maxLen; omega, rfl, .inr ⟨wa.heap.size, 0, by rw [HSA.out], blk_lt HPB.out, fun j u hj => by rw [Nat.zero_add, blk_cell HPB.out]; simpa using hj⟩⟩
    case kk =>
      intro v2 w2 ho2 hm2
      refine hK' _ _ ?_
      rw [← HWA.out, ← HWB.out] at hm2
      obtain ⟨ua, uc, rfl, _, _⟩ := rd_of_own ho2
      have hrl : ∀ k, (Value.slice fa gs.length fc).ownBlock = some k → o k = .files := fun k e => HH.out.orow k (by rw [HFV.out]; exact e)
      have hq2 : w2.heap[q]? = some (.cells (docCells v m) 56 (0, 0)) := (hm2.grown.block q (Nat.lt_of_lt_of_le HQ.out HBB.out.size) (fun e => by have := hrl q e.symm; rw [HH.out.rol] at this; cases this)).trans ((HBB.out.block q HQ.out).trans HH.out.blk)
      have hf2 : w2.heap[w.heap.size]? = some (.cells #[.slice none 0 0, .slice none 0 0] 98 (0, 0)) := (hm2.grown.block _ (blk_lt HFB.out) (fun e => by have := HH.out.lt _ (by rw [hrl _ e.symm]; simp); omega)).trans HFB.out
      have c0 : w2.cell? ⟨q, 0, none⟩ = some (.slice fa gs.length fc) := (blk_cell hq2).trans (by rw [← HFV.out]; rfl)
      have f0 : w2.frozen? ⟨q, 0, none⟩ = false := blk_free hq2
      have hq3 := blk_set (i := 0) hq2 (.slice ua (gs.length + 1) uc)
      have c3 : (w2.setCell ⟨q, 0, none⟩ (.slice ua (gs.length + 1) uc)).cell? ⟨q, 0, none⟩ = some (.slice ua (gs.length + 1) uc) := (blk_cell hq3).trans (by simp [docCells])
      obtain ⟨w3, hw3⟩ : ∃ w3, w3 = w2.setCell ⟨q, 0, none⟩ (.slice ua (gs.length + 1) uc) := ⟨_, rfl⟩
      rw [← hw3] at c3 hq3
      have hk3 : Kept (fun k => k < w.heap.size ∧ k ≠ q ∧ v.fv.ownBlock ≠ some k) w w3 := by
        rw [hw3, HFV.out]
        exact ((Kept.of HBB.out (R := fun k => k < w.heap.size ∧ k ≠ q ∧ (Value.slice fa gs.length fc).ownBlock ≠ some k) fun _ h => h.1).trans (hm2.kept fun k hk => ⟨Nat.lt_of_lt_of_le hk.1 HBB.out.size, hk.2.2⟩)).setCell (fun h => h.2.1 rfl) _
      have hs3 : w3.heap.size = w2.heap.size := by rw [hw3]; simp [World.setCell]
      have hat : ∀ k, (Value.slice ua (gs.length + 1) uc).ownBlock = some k → v.fv.ownBlock = some k ∨ (w.heap.size ≤ k ∧ k < w3.heap.size ∧ k ≠ w.heap.size) := fun k e => by
        rcases hm2.at_ k e with h | h
        · exact .inl (by rw [HFV.out]; exact h)
        · rw [HSB.out] at h
          exact .inr ⟨by omega, by rw [hs3]; exact h.2, by omega⟩
      have hneq : ∀ k, (Value.slice ua (gs.length + 1) uc).ownBlock = some k → k ≠ q := fun k e ep => by
        subst ep
        rcases hat k e with h | h
        · have := HH.out.orow k h; rw [HH.out.rol] at this; cases this
        · have := HQ.out; omega
      have ho3 : w3.ownsRow 0 85 1 (.slice ua (gs.length + 1) uc) (gs.length + 1) (fpCells gs ++ [.pointer (some ⟨w.heap.size, 0, none⟩)]) := by
        rw [hw3]
        exact own_kept ho2 (R := fun k => k ≠ q) ((Kept.refl _ w2).setCell (fun h => h rfl) _) hneq
      have hf3 : w3.heap[w.heap.size]? = some (.cells #[.slice none 0 0, .slice none 0 0] 98 (0, 0)) := by
        rw [hw3]
        exact (Below.heap_setCell _ _ _ _ (by show w.heap.size ≠ q; have := HQ.out; omega)).trans hf2
      obtain ⟨o3, hD3, hT3, hG3⟩ := HH.out.add_file (fp := w.heap.size) hk3 (hq3.trans (by simp [docCells])) ho3 hf3 (Nat.le_refl _) hat
      have hsm3 : DSm { m with files := m.files ++ [DF.none_] } := ⟨HSM.out.c0, HSM.out.cl, HSM.out.now, HSM.out.old, HSM.out.loose, HSM.out.ids, HSM.out.oids, by show (m.files ++ [DF.none_]).length < _; rw [List.length_append]; show m.files.length + 1 < _; omega⟩
      have hch := dchange_any hD3 hsm3 HD'.out ⟨#[]⟩ s gs.length (by omega)
      have HC := Lib.hid hch
      have HT3 := Lib.hid hT3
      have HG3 := Lib.hid hG3
      have HW3 := Lib.hid hw3
      clear hch hT3 hG3 hD3 hsm3 ho3 hf3 hneq hat hs3 hk3 hw3 hf2 hq2 hq3 hrl ho2 hm2 hK'
      rw [HW3.out] at c3
      go_wp2_with (go_at_call 63; rw [← HW3.out]; (with_reducible refine HC.out.mono ?_); rintro e w5 ⟨rfl, hto⟩; have HTO := Lib.hid hto; clear hto)
      go_ret
      rw [HGL.out]
      exact ⟨rfl, DocTo.trans HT3.out HG3.out HTO.out⟩
end Go.Proofs.Ytfeogoihkpclcaa

/-
  The document's disk: what a file has, what all have together; Size, Read.
-/
namespace Go.Proofs.Ytfeogoihkpclcaa
open Go.RowKit

structure FOkD (f : DF) : Prop where
  wok : WOk f.safe f.loose
  num : f.loose.length < 1000
  size : f.safe.length + manyL f.loose < 100000

def DFo (m : DM) (l : DB) : Prop := ∀ x ∈ l, x.2 < m.files.length ∧ FOkD (m.file x.2)

theorem DFo.id_ {m : DM} {l : DB} (h : DFo m l) {n : List UInt8} {id : Nat} (hf : dfind l n = some id) : id < m.files.length := by
  obtain ⟨x, hx, _, rfl⟩ := dfind_mem hf
  exact (h x hx).1
theorem DFo.ok {m : DM} {l : DB} (h : DFo m l) {n : List UInt8} {id : Nat} (hf : dfind l n = some id) : FOkD (m.file id) := by
  obtain ⟨x, hx, _, rfl⟩ := dfind_mem hf
  exact (h x hx).2

theorem DocAt.file {o : Nat → DR} {v : DV} {gs : List GD} {w : World} {q : Nat} {m : DM} (h : DocAt o v gs w q m) {id : Nat} (hid : id < m.files.length) :
    ∃ fb fc g, v.fv = .slice (some ⟨fb, 0, none⟩) gs.length fc ∧ gs[id]? = some g ∧ g.df = m.file id ∧ w.cell? ⟨fb, id, none⟩ = some (.pointer (some ⟨g.fp, 0, none⟩)) ∧ fb < w.heap.size ∧ gs.length ≤ fc ∧ GDAt o w id g := by
  have hl : m.files.length = gs.length := by rw [h.fls, List.length_map]
  obtain ⟨fb, fc, cur, hv, hc, _, hb, hcell, _⟩ := own_form h.row (by omega)
  obtain ⟨g, hg⟩ : ∃ g, gs[id]? = some g := ⟨_, List.getElem?_eq_getElem (by omega)⟩
  refine ⟨fb, fc, g, hv, hg, ?_, hcell id _ (by unfold fpCells; rw [List.getElem?_map, hg]; rfl), blk_lt hb, hc, h.each id g hg⟩
  unfold DM.file
  rw [h.fls, List.getD_eq_getElem?_getD, List.getElem?_map, hg]
  rfl

theorem FOkD.all_len {f : DF} (h : FOkD f) : f.all.length < 100000 := by
  have h1 := Go.Proofs.Ytfeogoihkpclcaa.all_len f.loose f.safe h.wok
  have h2 := h.size
  unfold DF.all
  omega

theorem dall_at {o : Nat → DR} {w : World} {i : Nat} {g : GD} (h : GDAt o w i g) (hok : FOkD g.df) :
    Calls Try.prog 44 #[.pointer (some ⟨g.fp, 0, none⟩)] w fun e w' => ∃ u, e = .returned u ∧ OwnB w' w.heap.size 5 u g.df.all ∧ Below w.heap.size w w' := by
  have hn := hok.num
  have hs := hok.size
  have e1 : g.df.loose.length = g.ps.length := by unfold GD.df pwL; rw [List.length_map]
  have e2 : g.df.safe.length + manyL g.df.loose = g.safe.length + manyL (pwL g.ps) := rfl
  exact dall_any w g.fp g.sv g.pv g.safe g.ps h.blk h.safe ⟨rd_of_own h.row, h.each⟩ hok.wok (by omega) (by omega)

set_option maxRecDepth 100000 in
set_option maxHeartbeats 4000000 in
set_option linter.unusedSimpArgs false in
theorem dsize_any {o : Nat → DR} {v : DV} {gs : List GD} {w : World} {q : Nat} {m : DM} (h : DocAt o v gs w q m) (hsm : DSm m) (hfo : DFo m m.now) (s : ByteArray) :
    Calls Try.prog 39 #[.pointer (some ⟨q, 0, none⟩), .string s] w fun e w' => e = .returned (.tuple #[.int .i64 ((m.size s.data.toList).1 : Int), .bool (m.size s.data.toList).2]) ∧ Below w.heap.size w w' := by
  have q0 : w.cell? ⟨q, 0, none⟩ = some v.fv := blk_cell h.blk
  have q1 : w.cell? ⟨q, 1, none⟩ = some v.nv := blk_cell h.blk
  have q10 : w.cell? ⟨q, 10, none⟩ = some (.bool m.down) := blk_cell h.blk
  have HH := Lib.hid h
  obtain ⟨na, nc, hnv, _, _⟩ := h.now
  rw [hnv] at q1
  have HNW := Lib.hid (show Rd w 2 (.slice na m.now.length nc) m.now.length (bCells m.now) by rw [← hnv]; exact h.now)
  clear hnv h
  unfold DM.size
  have hfd := dfind_any w (.slice na m.now.length nc) m.now s (by have := hsm.now; omega) HNW.out
  cases hf : dfind m.now s.data.toList with
  | none =>
    rw [show dfindI m.now s.data.toList = -1 by unfold dfindI; rw [hf]] at hfd
    have HF := Lib.hid hfd
    clear hfd hf
    dsimp only
    go_enter Try.func39, Try.ntmps39
    go_wp2_with (go_at_call 62; (with_reducible refine HF.out.mono ?_); rintro e w1 ⟨rfl, rfl⟩)
    go_ret2
    exact ⟨rfl, Below.refl _ _⟩
  | some id =>
    rw [show dfindI m.now s.data.toList = (id : Int) by unfold dfindI; rw [hf]] at hfd
    have HF := Lib.hid hfd
    obtain ⟨fb, fc, g, hfv, hg, hdf, hcf, hfb, hgc, hga⟩ := HH.out.file (hfo.id_ hf)
    rw [hfv] at q0
    have hid : id < gs.length := (List.getElem?_eq_some_iff.1 hg).1
    have hok := hfo.ok hf
    rw [← hdf] at hok
    have HA := Lib.hid (dall_at hga hok)
    dsimp only
    rw [← hdf]
    generalize g.df.all = b at *
    clear hfd hf hfv hg hdf hga hok hfo hsm
    go_enter Try.func39, Try.ntmps39
    go_wp2_with (first | (go_at_call 62; (with_reducible refine HF.out.mono ?_); rintro e w1 ⟨rfl, rfl⟩) | (go_at_call 44; (with_reducible refine HA.out.mono ?_); rintro e w1 ⟨u, rfl, hu, hb1⟩; have HU := Lib.hid hu; have HB1 := Lib.hid hb1; obtain ⟨ua, uc, rfl, _, _⟩ := hu.read.form; clear hu hb1))
    go_ret2
    exact ⟨rfl, HB1.out⟩

set_option maxRecDepth 100000 in
set_option maxHeartbeats 4000000 in
set_option linter.unusedSimpArgs false in
theorem dread_any {o : Nat → DR} {v : DV} {gs : List GD} {w : World} {q : Nat} {m : DM} (h : DocAt o v gs w q m) (hsm : DSm m) (hfo : DFo m m.now) (s : ByteArray) (a k : Int) (ha : -9223372036854775808 ≤ a ∧ a ≤ 9223372036854775807) (hk : -9223372036854775808 ≤ k ∧ k ≤ 9223372036854775807) :
    Calls Try.prog 37 #[.pointer (some ⟨q, 0, none⟩), .string s, .int .i64 a, .int .i64 k] w fun e w' => ∃ u, e = .returned (.tuple #[u, .int .i64 ((m.read s.data.toList a k).2 : Int)]) ∧ RdB w' u (m.read s.data.toList a k).1 ∧ Below w.heap.size w w' := by
  have q0 : w.cell? ⟨q, 0, none⟩ = some v.fv := blk_cell h.blk
  have q1 : w.cell? ⟨q, 1, none⟩ = some v.nv := blk_cell h.blk
  have q10 : w.cell? ⟨q, 10, none⟩ = some (.bool m.down) := blk_cell h.blk
  have HH := Lib.hid h
  obtain ⟨na, nc, hnv, _, _⟩ := h.now
  rw [hnv] at q1
  have HNW := Lib.hid (show Rd w 2 (.slice na m.now.length nc) m.now.length (bCells m.now) by rw [← hnv]; exact h.now)
  clear hnv h
  unfold DM.read
  have hfd := dfind_any w (.slice na m.now.length nc) m.now s (by have := hsm.now; omega) HNW.out
  by_cases hd : m.down = true
  · rw [if_pos hd]
    rw [hd] at q10
    have HF := Lib.hid hfd
    clear hd hfd
    go_enter Try.func37, Try.ntmps37
    go_wp2_with (go_at_call 62; (with_reducible refine HF.out.mono ?_); rintro e w1 ⟨rfl, rfl⟩)
    go_ret2
    exact ⟨_, rfl, Rd.nil _ _, Below.refl _ _⟩
  rw [if_neg hd]
  rw [show m.down = false by simpa using hd] at q10
  clear hd
  cases hf : dfind m.now s.data.toList with
  | none =>
    rw [show dfindI m.now s.data.toList = -1 by unfold dfindI; rw [hf]] at hfd
    have HF := Lib.hid hfd
    clear hfd hf
    dsimp only
    go_enter Try.func37, Try.ntmps37
    go_wp2_with (go_at_call 62; (with_reducible refine HF.out.mono ?_); rintro e w1 ⟨rfl, rfl⟩)
    go_ret2
    exact ⟨_, rfl, Rd.nil _ _, Below.refl _ _⟩
  | some id =>
    rw [show dfindI m.now s.data.toList = (id : Int) by unfold dfindI; rw [hf]] at hfd
    have HF := Lib.hid hfd
    obtain ⟨fb, fc, g, hfv, hg, hdf, hcf, hfb, hgc, hga⟩ := HH.out.file (hfo.id_ hf)
    rw [hfv] at q0
    have hid : id < gs.length := (List.getElem?_eq_some_iff.1 hg).1
    have hok := hfo.ok hf
    rw [← hdf] at hok
    have HA := Lib.hid (dall_at hga hok)
    dsimp only
    rw [← hdf]
    have hbl := hok.all_len
    generalize g.df.all = b at *
    clear hfd hf hfv hg hdf hga hok hfo hsm
    by_cases hc : a < 0 ∨ (b.length : Int) < a ∨ k < 0
    · rw [if_pos hc]
      have hc3 : a < 0 ∨ (0 ≤ a ∧ (b.length : Int) < a) ∨ (0 ≤ a ∧ a ≤ (b.length : Int) ∧ k < 0) := by omega
      clear hc
      rcases hc3 with g1 | ⟨g1, g2⟩ | ⟨g1, g2, g3⟩
      all_goals
        go_enter Try.func37, Try.ntmps37
        go_wp2_with (first | (go_at_call 62; (with_reducible refine HF.out.mono ?_); rintro e w1 ⟨rfl, rfl⟩) | (go_at_call 44; (with_reducible refine HA.out.mono ?_); rintro e w1 ⟨u, rfl, hu, hb1⟩; have HU := Lib.hid hu; have HB1 := Lib.hid hb1; obtain ⟨ua, uc, rfl, _, _⟩ := hu.read.form; clear hu hb1))
        go_ret2
        exact ⟨_, rfl, Rd.nil _ _, HB1.out⟩
    · rw [if_neg hc]
      obtain ⟨i, rfl⟩ := Int.eq_ofNat_of_zero_le (show 0 ≤ a by omega)
      obtain ⟨j, rfl⟩ := Int.eq_ofNat_of_zero_le (show 0 ≤ k by omega)
      have hi : i ≤ b.length := by omega
      have g1 : ¬ (b.length : Int) < (i : Int) := by omega
      rw [show ((i : Int)).toNat = i from rfl, show ((j : Int)).toNat = j from rfl]
      clear hc
      go_enter Try.func37, Try.ntmps37
      go_wp2_with (first | (go_at_call 62; (with_reducible refine HF.out.mono ?_); rintro e w1 ⟨rfl, rfl⟩) | (go_at_call 44; (with_reducible refine HA.out.mono ?_); rintro e w1 ⟨u, rfl, hu, hb1⟩; have HU := Lib.hid hu; have HB1 := Lib.hid hb1; obtain ⟨ua, uc, rfl, _, _⟩ := hu.read.form; clear hu hb1) | (go_at_call 68; (with_reducible refine (dpart_any _ _ _ b i j HU.out.read hi (by omega)).mono ?_); rintro e w2 ⟨u2, rfl, hu2, _, hb2⟩; have HU2 := Lib.hid hu2; have HB2 := Lib.hid hb2; clear hu2 hb2))
      go_ret2
      exact ⟨_, rfl, HU2.out, HB1.out.trans (HB2.out.mono HB1.out.size)⟩

def usedL (m : DM) (l : DB) : Nat := (l.map fun x => (m.file x.2).all.length).sum
theorem used_step (m : DM) {l : DB} {i : Nat} {x : List UInt8 × Nat} (h : l[i]? = some x) : usedL m (l.take (i + 1)) = usedL m (l.take i) + (m.file x.2).all.length := by
  obtain ⟨hk, rfl⟩ := List.getElem?_eq_some_iff.1 h
  unfold usedL
  rw [List.take_succ_eq_append_getElem hk, List.map_append, List.sum_append]
  simp
theorem used_le {m : DM} : ∀ {l : DB}, DFo m l → usedL m l ≤ 100000 * l.length
  | [], _ => by simp [usedL]
  | x :: r, h => by
    have h1 := used_le (l := r) fun y hy => h y (by simp [hy])
    have h2 := (h x (by simp)).2.all_len
    unfold usedL at h1 ⊢
    rw [List.map_cons, List.sum_cons, List.length_cons]
    omega

set_option maxRecDepth 100000 in
set_option maxHeartbeats 4000000 in
set_option linter.unusedSimpArgs false in
theorem dused_any {o : Nat → DR} {v : DV} {gs : List GD} {w : World} {q : Nat} {m : DM} (h : DocAt o v gs w q m) (hsm : DSm m) (hfo : DFo m m.now) :
    Calls Try.prog 64 #[.pointer (some ⟨q, 0, none⟩)] w fun e w' => e = .returned (.int .i64 ((m.used : Nat) : Int)) ∧ Below w.heap.size w w' := by
  have q1 : w.cell? ⟨q, 1, none⟩ = some v.nv := blk_cell h.blk
  have q10 : w.cell? ⟨q, 10, none⟩ = some (.bool m.down) := blk_cell h.blk
  have HH := Lib.hid h
  obtain ⟨na, nc, hnv, _, _⟩ := h.now
  rw [hnv] at q1
  have HNW := Lib.hid (show Rd w 2 (.slice na m.now.length nc) m.now.length (bCells m.now) by rw [← hnv]; exact h.now)
  clear hnv h
  have hnl := hsm.now
  have HFO := Lib.hid hfo
  have hqs : q < w.heap.size := blk_lt HH.out.blk
  clear hsm hfo q10
  go_enter Try.func64, Try.ntmps64
  go_wp2
  go_loopw [3, 4] (fun n i wr => ∃ k : Nat, k ≤ m.now.length ∧ i = .int .i64 k ∧ n = .int .i64 (usedL m (m.now.take k) : Nat) ∧ Below w.heap.size w wr) (fun _ i _ => m.now.length - (intOf i).toNat)
  case atStart => exact ⟨0, Nat.zero_le _, rfl, rfl, Below.refl _ _⟩
  case round =>
    obtain ⟨k, hk, rfl, rfl, hbr⟩ := hrel
    have HBR := Lib.hid hbr
    have r1 : wr.cell? ⟨q, 1, none⟩ = some (.slice na m.now.length nc) := (hbr.cell (p := ⟨q, 1, none⟩) hqs).trans q1
    clear hbr
    by_cases hlt : k < m.now.length
    · obtain ⟨x, hx⟩ : ∃ x, m.now[k]? = some x := ⟨_, List.getElem?_eq_getElem hlt⟩
      obtain ⟨w4, hw4⟩ : ∃ w4, w4 = wr.drew := ⟨_, rfl⟩
      have hb4 : Below w.heap.size w w4 := by rw [hw4]; exact HBR.out.drew
      have hD4 := HH.out.below hb4
      have hxm := HFO.out x (List.mem_of_getElem? hx)
      obtain ⟨fb, fc, g, hfv, hg, hdf, a3, hfb, hgc, hga⟩ := hD4.file hxm.1
      have a0 : w4.cell? ⟨q, 0, none⟩ = some v.fv := blk_cell hD4.blk
      rw [hfv] at a0
      have a1 : w4.cell? ⟨q, 1, none⟩ = some (.slice na m.now.length nc) := (hb4.cell (p := ⟨q, 1, none⟩) hqs).trans q1
      obtain ⟨nb, no, rfl, _, a2, _⟩ := rd_bind (HNW.out.below hb4 (Nat.le_refl _)) hx
      have hid : x.2 < gs.length := (List.getElem?_eq_some_iff.1 hg).1
      have hok := hxm.2
      rw [← hdf] at hok
      have HA := Lib.hid (dall_at hga hok)
      have hst := used_step m hx
      rw [← hdf] at hst
      have hbl := hok.all_len
      have hul := used_le (m := m) (l := m.now.take k) fun y hy => HFO.out y (List.mem_of_mem_take hy)
      rw [List.length_take, Nat.min_eq_left hk] at hul
      have HUL := Lib.hid hul
      have HBL := Lib.hid hbl
      have HKL : Hid (k < 100000) := Lib.hid (by omega)
      generalize g.df.all = b at *
      generalize usedL m (m.now.take k) = us at *
      have HST := Lib.hid hst
      have HW4 := Lib.hid hw4
      have HB4 := Lib.hid hb4
      generalize x.2 = id at *
      clear hx hw4 hb4 hD4 hxm hfv hg hdf hga hok hst
      go_wp2
      refine wp_region_plan [(true, 0), (true, 1), (true, 2), (true, 3), (true, 4), (true, 5), (true, 6), (true, 7), (true, 8), (true, 9), (true, 10), (true, 11), (true, 12), (true, 13), (true, 14), (false, 15), (true, 16), (true, 17), (true, 18)] (by kernel_rfl) (by kernel_rfl) (by kernel_rfl) (by kernel_rfl) (by kernel_rfl) ?_
      simp only [planO, List.drop_succ_cons, List.drop_zero]
      rw [← HW4.out]
      refine PlanO.take (v := ?v0) (by kernel_rfl) ?y0 ?r0
      case y0 => (intro wz hz; go_simp; try with_reducible rfl)
      (try simp only [Act.put, List.setIfInBounds_toArray, List.set_cons_zero, List.set_cons_succ])
      refine PlanO.take (v := ?v1) (by kernel_rfl) ?y1 ?r1
      case y1 => (intro wz hz; go_simp; try with_reducible rfl)
      (try simp only [Act.put, List.setIfInBounds_toArray, List.set_cons_zero, List.set_cons_succ])
      refine PlanO.take (v := ?v2) (by kernel_rfl) ?y2 ?r2
      case y2 => (intro wz hz; go_simp; try with_reducible rfl)
      (try simp only [Act.put, List.setIfInBounds_toArray, List.set_cons_zero, List.set_cons_succ])
      refine PlanO.take (v := ?v3) (by kernel_rfl) ?y3 ?r3
      case y3 => (intro wz hz; go_simp; try with_reducible rfl)
      (try simp only [Act.put, List.setIfInBounds_toArray, List.set_cons_zero, List.set_cons_succ])
      refine PlanO.take (v := ?v4) (by kernel_rfl) ?y4 ?r4
      case y4 => (intro wz hz; have k0 := Ext.at_ hz a0; go_simp; try with_reducible rfl)
      (try simp only [Act.put, List.setIfInBounds_toArray, List.set_cons_zero, List.set_cons_succ])
      refine PlanO.take (v := ?v5) (by kernel_rfl) ?y5 ?r5
      case y5 => (intro wz hz; go_simp; try with_reducible rfl)
      (try simp only [Act.put, List.setIfInBounds_toArray, List.set_cons_zero, List.set_cons_succ])
      refine PlanO.take (v := ?v6) (by kernel_rfl) ?y6 ?r6
      case y6 => (intro wz hz; go_simp; try with_reducible rfl)
      (try simp only [Act.put, List.setIfInBounds_toArray, List.set_cons_zero, List.set_cons_succ])
      refine PlanO.take (v := ?v7) (by kernel_rfl) ?y7 ?r7
      case y7 => (intro wz hz; go_simp; try with_reducible rfl)
      (try simp only [Act.put, List.setIfInBounds_toArray, List.set_cons_zero, List.set_cons_succ])
      refine PlanO.take (v := ?v8) (by kernel_rfl) ?y8 ?r8
      case y8 => (intro wz hz; have k1 := Ext.at_ hz a1; go_simp; try with_reducible rfl)
      (try simp only [Act.put, List.setIfInBounds_toArray, List.set_cons_zero, List.set_cons_succ])
      refine PlanO.take (v := ?v9) (by kernel_rfl) ?y9 ?r9
      case y9 => (intro wz hz; go_simp; try with_reducible rfl)
      (try simp only [Act.put, List.setIfInBounds_toArray, List.set_cons_zero, List.set_cons_succ])
      refine PlanO.take (v := ?v10) (by kernel_rfl) ?y10 ?r10
      case y10 => (intro wz hz; go_simp; try with_reducible rfl)
      (try simp only [Act.put, List.setIfInBounds_toArray, List.set_cons_zero, List.set_cons_succ])
      refine PlanO.take (v := ?v11) (by kernel_rfl) ?y11 ?r11
      case y11 => (intro wz hz; go_simp; try with_reducible rfl)
      (try simp only [Act.put, List.setIfInBounds_toArray, List.set_cons_zero, List.set_cons_succ])
      refine PlanO.take (v := ?v12) (by kernel_rfl) ?y12 ?r12
      case y12 => (intro wz hz; have k2 := Ext.at_ hz a2; go_simp; try with_reducible rfl)
      (try simp only [Act.put, List.setIfInBounds_toArray, List.set_cons_zero, List.set_cons_succ])
      refine PlanO.take (v := ?v13) (by kernel_rfl) ?y13 ?r13
      case y13 => (intro wz hz; go_simp; try with_reducible rfl)
      (try simp only [Act.put, List.setIfInBounds_toArray, List.set_cons_zero, List.set_cons_succ])
      refine PlanO.take (v := ?v14) (by kernel_rfl) ?y14 ?r14
      case y14 => (intro wz hz; have k3 := Ext.at_ hz a3; go_simp; try with_reducible rfl)
      (try simp only [Act.put, List.setIfInBounds_toArray, List.set_cons_zero, List.set_cons_succ])
      refine PlanO.exec (fun K hK => ?_)
      go_simp
      go_at_call 44
      (with_reducible refine HA.out.mono ?_)
      rintro e w5 ⟨u, rfl, hu, hb5⟩
      have HU := Lib.hid hu
      have HB5 := Lib.hid hb5
      obtain ⟨ua, uc, rfl, _, _⟩ := hu.read.form
      clear hu hb5
      go_wp2_with fail
      refine hK.out _ _ HB5.out ?_
      clear hK K
      (try simp only [Act.put, List.setIfInBounds_toArray, List.set_cons_zero, List.set_cons_succ])
      refine PlanO.take (v := ?v16) (by kernel_rfl) ?y16 ?r16
      case y16 => (intro wz hz; go_simp; try with_reducible rfl)
      (try simp only [Act.put, List.setIfInBounds_toArray, List.set_cons_zero, List.set_cons_succ])
      refine PlanO.take (v := ?v17) (by kernel_rfl) ?y17 ?r17
      case y17 => (intro wz hz; go_simp; try with_reducible rfl)
      (try simp only [Act.put, List.setIfInBounds_toArray, List.set_cons_zero, List.set_cons_succ])
      refine PlanO.take (v := ?v18) (by kernel_rfl) ?y18 ?r18
      case y18 => (intro wz hz; go_simp; try with_reducible rfl)
      (try simp only [Act.put, List.setIfInBounds_toArray, List.set_cons_zero, List.set_cons_succ])
      refine PlanO.done (NoPanic.normal ?_)
      have hul2 := HUL.out
      have hkl2 := HKL.out
      have hbl2 := HBL.out
      go_wp2
      go_roundw
      case rel => exact ⟨k + 1, by omega, by go_num, by rw [IntWalk.i64_in _ (by omega), HST.out]; go_num, HB4.out.trans (HB5.out.mono HB4.out.size)⟩
      case measure => simp [intOf]; omega
    · go_wp2
      go_ret
      refine ⟨?_, HBR.out⟩
      have : m.used = usedL m (m.now.take k) := by rw [List.take_of_length_le (by omega)]; rfl
      rw [this]
      rfl
end Go.Proofs.Ytfeogoihkpclcaa
