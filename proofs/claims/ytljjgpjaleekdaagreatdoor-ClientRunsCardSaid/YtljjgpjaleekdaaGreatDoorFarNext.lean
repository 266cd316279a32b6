/-
  Next; the methods of nil.
-/
import Derived.Test.YtljjgpjaleekdaaGreatDoorFarGet
namespace Go.Proofs.YtljjgpjaleekdaaGreatDoor
open Go.RowKit

set_option maxRecDepth 100000 in
set_option maxHeartbeats 1000000 in
theorem farNext_at {G : Nat → Prop} {w : World} {p : Nat} {f : FR} (h : FarAt G w p f) (v : Value) (l : List Int) (hv : Rd w 1 v l.length (l.map (Value.int .i64))) (hl : l.length < 1000000000000) :
    Calls Tryz.prog 14 #[.pointer (some ⟨p, 0, none⟩), v] w fun e w' => e = .returned (.tuple #[]) ∧ FarTo G w w' p (f.next l) := by
  have H := Lib.hid h
  obtain ⟨⟨mv, lv, h1, h2, h3, h4, h5⟩, gp, glt⟩ := h
  have HP := Lib.hid h1
  have HOM := Lib.hid h2
  have HMV := Lib.hid h4
  have HI := Lib.hid (iclone_any w v l hv hl)
  obtain ⟨va, vc, rfl, _, _⟩ := Lf.form hv
  have hq : ∀ (w : World) (a : Addr), (binOp .neq 24 (.pointer (some a)) (.pointer none)).run Tryz.prog w = .ok (.bool true) w := fun w a => by kernel_rfl
  clear h1 h2 h3 h4 h5 hv
  go_enter Tryz.func14, Tryz.ntmps14
  go_wp2_with (go_at_call 31; refine HI.out.mono ?_; rintro e w1 ⟨lv', rfl, hl', hlb, hb1⟩; obtain ⟨la, lc, hlv, hlc, hlm⟩ := hl'.form; subst hlv; have hc1 : w1.cell? ⟨p, 1, none⟩ = some lv := blk_cell ((hb1.block p (blk_lt HP.out)).trans HP.out); have hf1 : w1.frozen? ⟨p, 1, none⟩ = false := blk_free ((hb1.block p (blk_lt HP.out)).trans HP.out); have HL' := Lib.hid hl'; have HLB := Lib.hid hlb; have HB1 := Lib.hid hb1; clear hl' hlb hb1)
  go_end0
  have hpw := blk_lt HP.out
  have hP1 := (HB1.out.block p hpw).trans HP.out
  have hk2 : Kept (fun k => k ≠ p) w1 (w1.setCell ⟨p, 1, none⟩ (.slice la l.length lc)) := (Kept.refl _ w1).setCell (fun h => h rfl) _
  have hs2 : (w1.setCell ⟨p, 1, none⟩ (.slice la l.length lc)).heap.size = w1.heap.size := by simp [World.setCell]
  refine ⟨rfl, fun k => G k ∨ (w.heap.size ≤ k ∧ k < w1.heap.size), ⟨⟨mv, .slice la l.length lc, (blk_set (i := 1) hP1 _).trans (by simp [FR.next]), ?_, ?_, fun k e => .inl (HMV.out k e), fun k e => ⟨.inr (HLB.out k e), ?_⟩⟩, .inl gp, ?_⟩, ?_, ?_⟩
  · have ho1 := HOM.out.kept (Kept.of HB1.out (R := fun k => k < w.heap.size) fun _ h => h) HOM.out.lt
    exact ho1.kept hk2 fun k e ep => by subst ep; exact ho1.ne hP1 e
  · exact Rd.kept HL'.out hk2 fun k e ep => by have := (HLB.out k e).1; omega
  · have := (HLB.out k e).1; omega
  · rintro k (hk | hk)
    · rw [hs2]; exact Nat.lt_of_lt_of_le (glt k hk) HB1.out.size
    · rw [hs2]; exact hk.2
  · exact (Kept.of HB1.out fun k hk => hk.1).trans (Kept.mono hk2 fun k hk ep => hk.2 (ep ▸ gp))
  · rintro k (hk | hk)
    · exact .inl hk
    · exact .inr ⟨hk.1, by rw [hs2]; exact hk.2⟩

theorem farNext_nil (w : World) (va : Option Addr) (vn vc : Nat) : Calls Tryz.prog 14 #[.pointer none, .slice va vn vc] w fun e w' => e = .returned (.tuple #[]) ∧ w = w' := by
  have hq : ∀ (w : World), (binOp .neq 24 (.pointer none) (.pointer none)).run Tryz.prog w = .ok (.bool false) w := fun w => by kernel_rfl
  go_enter Tryz.func14, Tryz.ntmps14
  go_wp2
  go_end0
  exact ⟨rfl, rfl⟩

theorem farCall_nil (w : World) (k : Nat) (fst caps : Array Value) : Calls Tryz.prog 44 #[.pointer none, .func (.func k) fst caps] w fun e w' => e = .returned (.int .i64 2) ∧ w = w' := by
  go_enter Tryz.func44, Tryz.ntmps44
  go_wp2
  go_step3
  go_wp2
  rw [Exit.noGoto_ret]
  go_ret
  exact ⟨rfl, rfl⟩

set_option maxRecDepth 100000 in
theorem farPut_nil (w : World) (s : ByteArray) (va : Option Addr) (vn vc : Nat) : Calls Tryz.prog 28 #[.pointer none, .string s, .slice va vn vc] w fun e w' => e = .returned (.int .i64 2) ∧ Below w.heap.size w w' := by
  go_enter Tryz.func28, Tryz.ntmps28
  go_wp2_with (go_at_call 44; (with_reducible refine (farCall_nil _ _ _ _).mono ?_); rintro e w2 ⟨rfl, rfl⟩)
  go_ret
  exact ⟨rfl, (((Below.refl _ _).alloc (Nat.le_refl _) _).alloc (by simp) _).alloc (by simp <;> omega) _⟩

set_option maxRecDepth 100000 in
theorem farDrop_nil (w : World) (s : ByteArray) : Calls Tryz.prog 42 #[.pointer none, .string s] w fun e w' => e = .returned (.int .i64 2) ∧ Below w.heap.size w w' := by
  go_enter Tryz.func42, Tryz.ntmps42
  go_wp2_with (go_at_call 44; (with_reducible refine (farCall_nil _ _ _ _).mono ?_); rintro e w2 ⟨rfl, rfl⟩)
  go_ret
  exact ⟨rfl, ((Below.refl _ _).alloc (Nat.le_refl _) _).alloc (by simp) _⟩

set_option maxRecDepth 100000 in
theorem farGet_nil (w : World) (s : ByteArray) (a n : Int) : Calls Tryz.prog 36 #[.pointer none, .string s, .int .i64 a, .int .i64 n] w fun e w' => e = .returned (.tuple #[.slice none 0 0, .int .i64 2]) ∧ Below w.heap.size w w' := by
  go_enter Tryz.func36, Tryz.ntmps36
  go_wp2_with (go_at_call 44; (with_reducible refine (farCall_nil _ _ _ _).mono ?_); rintro e w2 ⟨rfl, rfl⟩)
  go_ret2
  exact ⟨rfl, ((((Below.refl _ _).alloc (Nat.le_refl _) _).alloc (by simp) _).alloc (by simp <;> omega) _).alloc (by simp <;> omega) _⟩

theorem farList_nil (w : World) : Calls Tryz.prog 39 #[.pointer none] w fun e w' => e = .returned (.tuple #[.slice none 0 0, .int .i64 2]) ∧ Below w.heap.size w w' := by
  go_enter Tryz.func39, Tryz.ntmps39
  go_wp2_with (go_at_call 44; (with_reducible refine (farCall_nil _ _ _ _).mono ?_); rintro e w2 ⟨rfl, rfl⟩)
  go_ret2
  exact ⟨rfl, Below.refl _ _⟩

end Go.Proofs.YtljjgpjaleekdaaGreatDoor
