/-
  Next and Copy; the methods of nil.
-/
import Derived.Test.YtcgbpbpbbbfmhaaDoorFarGet
namespace Go.Proofs.YtcgbpbpbbbfmhaaDoor
open Go.RowKit

set_option maxRecDepth 100000 in
set_option maxHeartbeats 1000000 in
theorem farNext_at {G : Nat → Prop} {w : World} {p : Nat} {f : FR} (h : FarAt G w p f) (v : Value) (l : List Int) (hv : Rd w 1 v l.length (l.map (Value.int .i64))) (hl : l.length < 1000000000000) :
    Calls Tryd.prog 19 #[.pointer (some ⟨p, 0, none⟩), v] w fun e w' => e = .returned (.tuple #[]) ∧ FarTo G w w' p (f.next l) := by
  have H := Lib.hid h
  obtain ⟨⟨mv, lv, h1, h2, h3, h4, h5⟩, gp, glt⟩ := h
  have HP := Lib.hid h1
  have HOM := Lib.hid h2
  have HMV := Lib.hid h4
  have HI := Lib.hid (iclone_any w v l hv hl)
  obtain ⟨va, vc, rfl, _, _⟩ := Lf.form hv
  have hq : ∀ (w : World) (a : Addr), (binOp .neq 24 (.pointer (some a)) (.pointer none)).run Tryd.prog w = .ok (.bool true) w := fun w a => by kernel_rfl
  clear h1 h2 h3 h4 h5 hv
  go_enter Tryd.func19, Tryd.ntmps19
  go_wp2_with (go_at_call 25; refine HI.out.mono ?_; rintro e w1 ⟨lv', rfl, hl', hlb, hb1⟩; obtain ⟨la, lc, hlv, hlc, hlm⟩ := hl'.form; subst hlv; have hc1 : w1.cell? ⟨p, 1, none⟩ = some lv := blk_cell ((hb1.block p (blk_lt HP.out)).trans HP.out); have hf1 : w1.frozen? ⟨p, 1, none⟩ = false := blk_free ((hb1.block p (blk_lt HP.out)).trans HP.out); have HL' := Lib.hid hl'; have HLB := Lib.hid hlb; have HB1 := Lib.hid hb1; clear hl' hlb hb1)
  go_end0
  have hpw := blk_lt HP.out
  have hP1 := (HB1.out.block p hpw).trans HP.out
  have hk2 : Kept (fun k => k ≠ p) w1 (w1.setCell ⟨p, 1, none⟩ (.slice la l.length lc)) := (Kept.refl _ w1).setCell (fun h => h rfl) _
  have hs2 : (w1.setCell ⟨p, 1, none⟩ (.slice la l.length lc)).heap.size = w1.heap.size := by simp [World.setCell]
  refine ⟨rfl, fun k => G k ∨ (w.heap.size ≤ k ∧ k < w1.heap.size), ⟨⟨mv, .slice la l.length lc, (blk_set (i := 1) hP1 _).trans (by simp [FR.next]), ?_, ?_, fun k e => .inl (HMV.out k e), fun k e => ⟨.inr (HLB.out k e), ?_⟩⟩, .inl gp, ?_⟩, ?_, ?_⟩
  · have ho1 := HOM.out.kept (Kept.of HB1.out (R := fun k => k < w.heap.size) fun _ h => h) HOM.out.lt
    exact ho1.kept hk2 fun k e ep => by subst ep; exact ho1.ne hP1 e
  · exact Rd.kept HL'.out hk2 fun k e ep => by have := (HLB.out k e).1; omega
  · have := (HLB.out k e).1; omega
  · rintro k (hk | hk)
    · rw [hs2]; exact Nat.lt_of_lt_of_le (glt k hk) HB1.out.size
    · rw [hs2]; exact hk.2
  · exact (Kept.of HB1.out fun k hk => hk.1).trans (Kept.mono hk2 fun k hk ep => hk.2 (ep ▸ gp))
  · rintro k (hk | hk)
    · exact .inl hk
    · exact .inr ⟨hk.1, by rw [hs2]; exact hk.2⟩

theorem farNext_nil (w : World) (va : Option Addr) (vn vc : Nat) : Calls Tryd.prog 19 #[.pointer none, .slice va vn vc] w fun e w' => e = .returned (.tuple #[]) ∧ w = w' := by
  have hq : ∀ (w : World), (binOp .neq 24 (.pointer none) (.pointer none)).run Tryd.prog w = .ok (.bool false) w := fun w => by kernel_rfl
  go_enter Tryd.func19, Tryd.ntmps19
  go_wp2
  go_end0
  exact ⟨rfl, rfl⟩

theorem farCall_nil (w : World) (k : Nat) (fst caps : Array Value) : Calls Tryd.prog 33 #[.pointer none, .func (.func k) fst caps] w fun e w' => e = .returned (.int .i64 2) ∧ w = w' := by
  go_enter Tryd.func33, Tryd.ntmps33
  go_wp2
  go_step3
  go_wp2
  rw [Exit.noGoto_ret]
  go_ret
  exact ⟨rfl, rfl⟩

set_option maxRecDepth 100000 in
theorem farPut_nil (w : World) (s : ByteArray) (va : Option Addr) (vn vc : Nat) : Calls Tryd.prog 18 #[.pointer none, .string s, .slice va vn vc] w fun e w' => e = .returned (.int .i64 2) ∧ Below w.heap.size w w' := by
  go_enter Tryd.func18, Tryd.ntmps18
  go_wp2_with (go_at_call 33; (with_reducible refine (farCall_nil _ _ _ _).mono ?_); rintro e w2 ⟨rfl, rfl⟩)
  go_ret
  exact ⟨rfl, (((Below.refl _ _).alloc (Nat.le_refl _) _).alloc (by simp) _).alloc (by simp <;> omega) _⟩

set_option maxRecDepth 100000 in
theorem farDrop_nil (w : World) (s : ByteArray) : Calls Tryd.prog 21 #[.pointer none, .string s] w fun e w' => e = .returned (.int .i64 2) ∧ Below w.heap.size w w' := by
  go_enter Tryd.func21, Tryd.ntmps21
  go_wp2_with (go_at_call 33; (with_reducible refine (farCall_nil _ _ _ _).mono ?_); rintro e w2 ⟨rfl, rfl⟩)
  go_ret
  exact ⟨rfl, ((Below.refl _ _).alloc (Nat.le_refl _) _).alloc (by simp) _⟩

set_option maxRecDepth 100000 in
theorem farGet_nil (w : World) (s : ByteArray) (a n : Int) : Calls Tryd.prog 20 #[.pointer none, .string s, .int .i64 a, .int .i64 n] w fun e w' => e = .returned (.tuple #[.slice none 0 0, .int .i64 2]) ∧ Below w.heap.size w w' := by
  go_enter Tryd.func20, Tryd.ntmps20
  go_wp2_with (go_at_call 33; (with_reducible refine (farCall_nil _ _ _ _).mono ?_); rintro e w2 ⟨rfl, rfl⟩)
  go_ret2
  exact ⟨rfl, ((((Below.refl _ _).alloc (Nat.le_refl _) _).alloc (by simp) _).alloc (by simp <;> omega) _).alloc (by simp <;> omega) _⟩

theorem farList_nil (w : World) : Calls Tryd.prog 23 #[.pointer none] w fun e w' => e = .returned (.tuple #[.slice none 0 0, .int .i64 2]) ∧ Below w.heap.size w w' := by
  go_enter Tryd.func23, Tryd.ntmps23
  go_wp2_with (go_at_call 33; (with_reducible refine (farCall_nil _ _ _ _).mono ?_); rintro e w2 ⟨rfl, rfl⟩)
  go_ret2
  exact ⟨rfl, Below.refl _ _⟩

theorem farCopy_nil (w : World) : Calls Tryd.prog 9 #[.pointer none] w fun e w' => e = .returned (.pointer none) ∧ w = w' := by
  go_enter Tryd.func9, Tryd.ntmps9
  go_wp2
  go_ret
  exact ⟨rfl, rfl⟩

set_option maxRecDepth 100000 in
set_option maxHeartbeats 2000000 in
set_option linter.unusedSimpArgs false in
theorem farCopy_at {G : Nat → Prop} {w : World} {p : Nat} {f : FR} (h : FarAt G w p f) (hll : f.left.length < 1000000000000) :
    Calls Tryd.prog 9 #[.pointer (some ⟨p, 0, none⟩)] w fun e w' => ∃ p' G', e = .returned (.pointer (some ⟨p', 0, none⟩)) ∧ FarAt G' w' p' f ∧ (∀ k, G' k → w.heap.size ≤ k) ∧ Below w.heap.size w w' := by
  obtain ⟨⟨mv, lv, h1, h2, h3, h4, h5⟩, gp, glt⟩ := h
  obtain ⟨la, lc, hlv, _, _⟩ := h3.form
  subst hlv
  obtain ⟨mb, hmv⟩ := h2.form
  subst hmv
  obtain ⟨w2, hw2⟩ : ∃ w2, w2 = w.drew := ⟨_, rfl⟩
  have HB2 := Lib.hid (show Below w.heap.size w w2 by rw [hw2]; exact (Below.refl _ _).drew)
  have HS2 := Lib.hid (show w2.heap.size = w.heap.size by rw [hw2]; rfl)
  have hp2 := (HB2.out.block p (blk_lt h1)).trans h1
  have HC0 := Lib.hid (show w2.cell? ⟨p, 0, none⟩ = some (.map mb) from blk_cell hp2)
  have HC1 := Lib.hid (show w2.cell? ⟨p, 1, none⟩ = some (.slice la f.left.length lc) from blk_cell hp2)
  have HC2 := Lib.hid (show w2.cell? ⟨p, 2, none⟩ = some (.int .i64 (f.calls : Int)) from blk_cell hp2)
  have HPL := Lib.hid (blk_lt hp2)
  have HOC := Lib.hid (oclone_any w2 _ f.objs (h2.kept (Kept.of HB2.out (R := fun k => k < w.heap.size) fun _ h => h) h2.lt))
  have HLF := Lib.hid (show Rd w2 1 (.slice la f.left.length lc) f.left.length (f.left.map (Value.int .i64)) from Rd.below h3 HB2.out (Nat.le_refl _))
  have HLL := Lib.hid hll
  have Hw2 := Lib.hid hw2
  clear h1 h2 h3 h4 h5 hp2 hw2
  go_enter Tryd.func9, Tryd.ntmps9
  go_wp2
  refine wp_region_two (fun wz => Below w2.heap.size w2 wz) (fun wz => Below w2.heap.size w2 wz) [(0, 0), (0, 1), (0, 2), (0, 3), (0, 5), (0, 6), (0, 7), (0, 8), (0, 10), (0, 11), (0, 12), (0, 13), (2, 4), (2, 9), (0, 14), (2, 15), (0, 16)] [] (by kernel_rfl) (by kernel_rfl) (by kernel_rfl) (by kernel_rfl) (by kernel_rfl) (by rw [← Hw2.out]; exact Below.refl _ _) (by rw [← Hw2.out]; exact Below.refl _ _) ?_
  simp only [planT, List.drop_succ_cons, List.drop_zero]
  rw [← Hw2.out]
  refine PlanT.take0 (v := ?vC0) (by kernel_rfl) ?yC0 ?rC0
  case yC0 => (intro wz hz; have k0 := (hz.cell (p := ⟨p, 0, none⟩) HPL.out).trans HC0.out; have k1 := (hz.cell (p := ⟨p, 1, none⟩) HPL.out).trans HC1.out; have k2 := (hz.cell (p := ⟨p, 2, none⟩) HPL.out).trans HC2.out; clear hz; go_simp; try with_reducible rfl)
  (try simp only [Act.put, List.setIfInBounds_toArray, List.set_cons_zero, List.set_cons_succ])
  refine PlanT.take0 (v := ?vC1) (by kernel_rfl) ?yC1 ?rC1
  case yC1 => (intro wz hz; have k0 := (hz.cell (p := ⟨p, 0, none⟩) HPL.out).trans HC0.out; have k1 := (hz.cell (p := ⟨p, 1, none⟩) HPL.out).trans HC1.out; have k2 := (hz.cell (p := ⟨p, 2, none⟩) HPL.out).trans HC2.out; clear hz; go_simp; try with_reducible rfl)
  (try simp only [Act.put, List.setIfInBounds_toArray, List.set_cons_zero, List.set_cons_succ])
  refine PlanT.take0 (v := ?vC2) (by kernel_rfl) ?yC2 ?rC2
  case yC2 => (intro wz hz; have k0 := (hz.cell (p := ⟨p, 0, none⟩) HPL.out).trans HC0.out; have k1 := (hz.cell (p := ⟨p, 1, none⟩) HPL.out).trans HC1.out; have k2 := (hz.cell (p := ⟨p, 2, none⟩) HPL.out).trans HC2.out; clear hz; go_simp; try with_reducible rfl)
  (try simp only [Act.put, List.setIfInBounds_toArray, List.set_cons_zero, List.set_cons_succ])
  refine PlanT.take0 (v := ?vC3) (by kernel_rfl) ?yC3 ?rC3
  case yC3 => (intro wz hz; have k0 := (hz.cell (p := ⟨p, 0, none⟩) HPL.out).trans HC0.out; have k1 := (hz.cell (p := ⟨p, 1, none⟩) HPL.out).trans HC1.out; have k2 := (hz.cell (p := ⟨p, 2, none⟩) HPL.out).trans HC2.out; clear hz; go_simp; try with_reducible rfl)
  (try simp only [Act.put, List.setIfInBounds_toArray, List.set_cons_zero, List.set_cons_succ])
  refine PlanT.take0 (v := ?vC5) (by kernel_rfl) ?yC5 ?rC5
  case yC5 => (intro wz hz; have k0 := (hz.cell (p := ⟨p, 0, none⟩) HPL.out).trans HC0.out; have k1 := (hz.cell (p := ⟨p, 1, none⟩) HPL.out).trans HC1.out; have k2 := (hz.cell (p := ⟨p, 2, none⟩) HPL.out).trans HC2.out; clear hz; go_simp; try with_reducible rfl)
  (try simp only [Act.put, List.setIfInBounds_toArray, List.set_cons_zero, List.set_cons_succ])
  refine PlanT.take0 (v := ?vC6) (by kernel_rfl) ?yC6 ?rC6
  case yC6 => (intro wz hz; have k0 := (hz.cell (p := ⟨p, 0, none⟩) HPL.out).trans HC0.out; have k1 := (hz.cell (p := ⟨p, 1, none⟩) HPL.out).trans HC1.out; have k2 := (hz.cell (p := ⟨p, 2, none⟩) HPL.out).trans HC2.out; clear hz; go_simp; try with_reducible rfl)
  (try simp only [Act.put, List.setIfInBounds_toArray, List.set_cons_zero, List.set_cons_succ])
  refine PlanT.take0 (v := ?vC7) (by kernel_rfl) ?yC7 ?rC7
  case yC7 => (intro wz hz; have k0 := (hz.cell (p := ⟨p, 0, none⟩) HPL.out).trans HC0.out; have k1 := (hz.cell (p := ⟨p, 1, none⟩) HPL.out).trans HC1.out; have k2 := (hz.cell (p := ⟨p, 2, none⟩) HPL.out).trans HC2.out; clear hz; go_simp; try with_reducible rfl)
  (try simp only [Act.put, List.setIfInBounds_toArray, List.set_cons_zero, List.set_cons_succ])
  refine PlanT.take0 (v := ?vC8) (by kernel_rfl) ?yC8 ?rC8
  case yC8 => (intro wz hz; have k0 := (hz.cell (p := ⟨p, 0, none⟩) HPL.out).trans HC0.out; have k1 := (hz.cell (p := ⟨p, 1, none⟩) HPL.out).trans HC1.out; have k2 := (hz.cell (p := ⟨p, 2, none⟩) HPL.out).trans HC2.out; clear hz; go_simp; try with_reducible rfl)
  (try simp only [Act.put, List.setIfInBounds_toArray, List.set_cons_zero, List.set_cons_succ])
  refine PlanT.take0 (v := ?vC10) (by kernel_rfl) ?yC10 ?rC10
  case yC10 => (intro wz hz; have k0 := (hz.cell (p := ⟨p, 0, none⟩) HPL.out).trans HC0.out; have k1 := (hz.cell (p := ⟨p, 1, none⟩) HPL.out).trans HC1.out; have k2 := (hz.cell (p := ⟨p, 2, none⟩) HPL.out).trans HC2.out; clear hz; go_simp; try with_reducible rfl)
  (try simp only [Act.put, List.setIfInBounds_toArray, List.set_cons_zero, List.set_cons_succ])
  refine PlanT.take0 (v := ?vC11) (by kernel_rfl) ?yC11 ?rC11
  case yC11 => (intro wz hz; have k0 := (hz.cell (p := ⟨p, 0, none⟩) HPL.out).trans HC0.out; have k1 := (hz.cell (p := ⟨p, 1, none⟩) HPL.out).trans HC1.out; have k2 := (hz.cell (p := ⟨p, 2, none⟩) HPL.out).trans HC2.out; clear hz; go_simp; try with_reducible rfl)
  (try simp only [Act.put, List.setIfInBounds_toArray, List.set_cons_zero, List.set_cons_succ])
  refine PlanT.take0 (v := ?vC12) (by kernel_rfl) ?yC12 ?rC12
  case yC12 => (intro wz hz; have k0 := (hz.cell (p := ⟨p, 0, none⟩) HPL.out).trans HC0.out; have k1 := (hz.cell (p := ⟨p, 1, none⟩) HPL.out).trans HC1.out; have k2 := (hz.cell (p := ⟨p, 2, none⟩) HPL.out).trans HC2.out; clear hz; go_simp; try with_reducible rfl)
  (try simp only [Act.put, List.setIfInBounds_toArray, List.set_cons_zero, List.set_cons_succ])
  refine PlanT.take0 (v := ?vC13) (by kernel_rfl) ?yC13 ?rC13
  case yC13 => (intro wz hz; have k0 := (hz.cell (p := ⟨p, 0, none⟩) HPL.out).trans HC0.out; have k1 := (hz.cell (p := ⟨p, 1, none⟩) HPL.out).trans HC1.out; have k2 := (hz.cell (p := ⟨p, 2, none⟩) HPL.out).trans HC2.out; clear hz; go_simp; try with_reducible rfl)
  (try simp only [Act.put, List.setIfInBounds_toArray, List.set_cons_zero, List.set_cons_succ])
  refine PlanT.exec2 (fun K hK => ⟨by kernel_rfl, ?_⟩)
  go_simp
  refine HOC.out.mono ?_
  rintro e w3 ⟨mv3, rfl, ho3, hmb3, hb3⟩
  obtain ⟨mb3, hmv3⟩ := ho3.form
  subst hmv3
  refine hK.out _ _ hb3 hb3 ?_
  clear hK K
  (try simp only [Act.put, List.setIfInBounds_toArray, List.set_cons_zero, List.set_cons_succ])
  refine PlanT.exec2 (fun K hK => ⟨by kernel_rfl, ?_⟩)
  go_simp
  refine (iclone_any w3 (.slice la f.left.length lc) f.left (HLF.out.below hb3 (Nat.le_refl _)) HLL.out).mono ?_
  rintro e w4 ⟨lv4, rfl, hl4, hlb4, hb4⟩
  obtain ⟨la4, lc4, hlv4, _, _⟩ := hl4.form
  subst hlv4
  have hb24 : Below w2.heap.size w2 w4 := hb3.trans (hb4.mono hb3.size)
  refine hK.out _ _ hb24 hb24 ?_
  clear hK K
  (try simp only [Act.put, List.setIfInBounds_toArray, List.set_cons_zero, List.set_cons_succ])
  refine PlanT.take0 (v := ?vC14) (by kernel_rfl) ?yC14 ?rC14
  case yC14 => (intro wz hz; have k0 := (hz.cell (p := ⟨p, 0, none⟩) HPL.out).trans HC0.out; have k1 := (hz.cell (p := ⟨p, 1, none⟩) HPL.out).trans HC1.out; have k2 := (hz.cell (p := ⟨p, 2, none⟩) HPL.out).trans HC2.out; clear hz; go_simp; try with_reducible rfl)
  (try simp only [Act.put, List.setIfInBounds_toArray, List.set_cons_zero, List.set_cons_succ])
  refine PlanT.exec2 (fun K hK => ⟨by kernel_rfl, ?_⟩)
  go_simp
  have hb5 : Below w2.heap.size w2 (w4.alloc (.cells #[.map mb3, .slice la4 f.left.length lc4, .int .i64 (f.calls : Int)] 54)) := hb24.alloc hb24.size _
  refine hK.out _ _ hb5 hb5 ?_
  clear hK K
  (try simp only [Act.put, List.setIfInBounds_toArray, List.set_cons_zero, List.set_cons_succ])
  refine PlanT.take0 (v := ?vC16) (by kernel_rfl) ?yC16 ?rC16
  case yC16 => (intro wz hz; have k0 := (hz.cell (p := ⟨p, 0, none⟩) HPL.out).trans HC0.out; have k1 := (hz.cell (p := ⟨p, 1, none⟩) HPL.out).trans HC1.out; have k2 := (hz.cell (p := ⟨p, 2, none⟩) HPL.out).trans HC2.out; clear hz; go_simp; try with_reducible rfl)
  (try simp only [Act.put, List.setIfInBounds_toArray, List.set_cons_zero, List.set_cons_succ])
  refine PlanT.done (NoPanic.normal ?_)
  go_wp2
  go_ret
  have hs2 := HS2.out
  have hsz3 := hb3.size
  have hsz4 := hb4.size
  refine ⟨_, fun k => w.heap.size ≤ k ∧ k < (w4.alloc (.cells #[.map mb3, .slice la4 f.left.length lc4, .int .i64 (f.calls : Int)] 54)).heap.size, rfl, ⟨⟨.map mb3, .slice la4 f.left.length lc4, heap_alloc_new w4 _, ?_, ?_, fun k e => ?_, fun k e => ?_⟩, ?_, fun k hk => hk.2⟩, fun k hk => hk.1, HB2.out.trans (hb5.mono (by omega))⟩
  · have ho4 := ho3.kept (Kept.of hb4 (R := fun k => k < w3.heap.size) fun _ h => h) ho3.lt
    exact ho4.kept (Kept.of ((Below.refl _ w4).alloc (Nat.le_refl _) _) (R := fun k => k < w4.heap.size) fun _ h => h) ho4.lt
  · exact Rd.below hl4 ((Below.refl _ w4).alloc (Nat.le_refl _) _) (Nat.le_refl _)
  · have := hmb3 k e; simp; omega
  · have := hlb4 k e; simp; omega
  · simp; omega
end Go.Proofs.YtcgbpbpbbbfmhaaDoor
