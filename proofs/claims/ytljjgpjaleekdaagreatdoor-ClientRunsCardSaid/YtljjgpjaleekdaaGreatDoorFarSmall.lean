/-
  The far store's small functions: New, take, Calls, Left.
-/
import Derived.Test.YtljjgpjaleekdaaGreatDoorFarHeap
import Derived.Test.YtljjgpjaleekdaaGreatDoorTwo
import Derived.Shelf.Abstract
namespace Go.Proofs.YtljjgpjaleekdaaGreatDoor
open Go.RowKit

theorem farCalls_any (w : World) (p : Nat) (n : Int) (h : w.cell? ⟨p, 2, none⟩ = some (.int .i64 n)) :
    Calls Tryz.prog 10 #[.pointer (some ⟨p, 0, none⟩)] w fun e w' => e = .returned (.int .i64 n) ∧ w = w' := by
  go_enter Tryz.func10, Tryz.ntmps10
  go_wp2
  go_ret
  exact ⟨rfl, rfl⟩

theorem farCalls_nil (w : World) :
    Calls Tryz.prog 10 #[.pointer none] w fun e w' => e = .returned (.int .i64 0) ∧ w = w' := by
  go_enter Tryz.func10, Tryz.ntmps10
  go_wp2
  go_ret
  exact ⟨rfl, rfl⟩

theorem farLeft_any (w : World) (p : Nat) (a : Option Addr) (n cap : Nat) (h : w.cell? ⟨p, 1, none⟩ = some (.slice a n cap)) :
    Calls Tryz.prog 12 #[.pointer (some ⟨p, 0, none⟩)] w fun e w' => e = .returned (.int .i64 (n : Int)) ∧ w = w' := by
  go_enter Tryz.func12, Tryz.ntmps12
  go_wp2
  go_ret
  exact ⟨rfl, rfl⟩

theorem farLeft_nil (w : World) :
    Calls Tryz.prog 12 #[.pointer none] w fun e w' => e = .returned (.int .i64 0) ∧ w = w' := by
  go_enter Tryz.func12, Tryz.ntmps12
  go_wp2
  go_ret
  exact ⟨rfl, rfl⟩

set_option maxRecDepth 100000 in
theorem farNew_any (w : World) :
    Calls Tryz.prog 5 #[] w fun e w' => ∃ p, e = .returned (.pointer (some ⟨p, 0, none⟩)) ∧ w.heap.size ≤ p ∧ FarAt (fun k => k = p) w' p FR.new ∧ Below w.heap.size w w' := by
  go_enter Tryz.func5, Tryz.ntmps5
  go_wp2
  go_ret
  have h1 := heap_alloc_new w (.cells #[.map none, .slice none 0 0, .int .i64 0] 45)
  refine ⟨_, rfl, Nat.le_refl _, ?_, (Below.refl _ _).alloc (Nat.le_refl _) _⟩
  exact ⟨⟨.map none, .slice none 0 0, h1, .inl ⟨rfl, rfl⟩, Rd.nil _ _, fun k e => (nomatch e), fun k e => (nomatch e)⟩, rfl, fun k e => by subst e; simp⟩

set_option maxRecDepth 100000 in
theorem take_none (w : World) (p : Nat) (a : Option Addr) (cap : Nat) (h : w.cell? ⟨p, 1, none⟩ = some (.slice a 0 cap)) :
    Calls Tryz.prog 58 #[.pointer (some ⟨p, 0, none⟩)] w fun e w' => e = .returned (.int .i64 0) ∧ w = w' := by
  go_enter Tryz.func58, Tryz.ntmps58
  go_wp2
  go_ret
  exact ⟨rfl, rfl⟩

set_option maxRecDepth 100000 in
theorem take_some (w : World) (p b off n cap : Nat) (x : Int) (hn : n + 1 ≤ cap) (hcap : cap ≤ maxLen) (h : w.cell? ⟨p, 1, none⟩ = some (.slice (some ⟨b, off, none⟩) (n + 1) cap)) (hf : w.frozen? ⟨p, 1, none⟩ = false) (hx : w.cell? ⟨b, off, none⟩ = some (.int .i64 x)) :
    Calls Tryz.prog 58 #[.pointer (some ⟨p, 0, none⟩)] w fun e w' => e = .returned (.int .i64 x) ∧ ∃ off' cap', w' = w.setCell ⟨p, 1, none⟩ (.slice (some ⟨b, off', none⟩) n cap') ∧ n ≤ cap' ∧ cap' ≤ maxLen ∧ (n = 0 ∨ off' = off + 1) := by
  go_enter Tryz.func58, Tryz.ntmps58
  go_wp2
  · go_ret
    exact ⟨rfl, off, 0, rfl, by omega, by omega, .inl (by omega)⟩
  · go_ret
    exact ⟨rfl, off + 1, cap - 1, rfl, by omega, by omega, .inr rfl⟩

/-- The numbers of a store are set anew. -/
theorem FarAt.scal {G : Nat → Prop} {w w' : World} {p : Nat} {f f' : FR} (h : FarAt G w p f) (hk : Kept (fun k => k < w.heap.size ∧ k ≠ p) w w') (ho : f'.objs = f.objs)
    (hex : ∀ mv lv, w.heap[p]? = some (.cells #[mv, lv, .int .i64 (f.calls : Int)] 45 (0, 0)) → Lf w lv f.left → (∀ k, lv.ownBlock = some k → G k ∧ k ≠ p) → ∃ lv', w'.heap[p]? = some (.cells #[mv, lv', .int .i64 (f'.calls : Int)] 45 (0, 0)) ∧ Lf w' lv' f'.left ∧ (∀ k, lv'.ownBlock = some k → G k ∧ k ≠ p)) : FarAt G w' p f' := by
  obtain ⟨⟨mv, lv, h1, h2, h3, h4, h5⟩, gp, lt⟩ := h
  obtain ⟨lv', k1, k2, k3⟩ := hex mv lv h1 h3 h5
  refine ⟨⟨mv, lv', k1, ?_, k2, h4, k3⟩, gp, fun k hk' => Nat.lt_of_lt_of_le (lt k hk') hk.size⟩
  rw [ho]
  exact h2.kept hk fun k e => ⟨lt k (h4 k e), fun ep => by subst ep; exact h2.ne h1 e⟩

/-- The next outcome is taken; a store that is the same but for its first outcome. -/
theorem take_at {G : Nat → Prop} {w : World} {p : Nat} {f : FR} (h : FarAt G w p f) :
    Calls Tryz.prog 58 #[.pointer (some ⟨p, 0, none⟩)] w fun e w' => e = .returned (.int .i64 f.out) ∧ FarAt G w' p ⟨f.objs, f.left.tail, f.calls⟩ ∧ Kept (fun k => k < w.heap.size ∧ k ≠ p) w w' ∧ w'.heap.size = w.heap.size := by
  have h0 := h
  obtain ⟨⟨mv, lv, h1, h2, h3, h4, h5⟩, gp, lt⟩ := h
  obtain ⟨a, cap, rfl, q1, q2, q3, q4⟩ := h3
  have c1 : w.cell? ⟨p, 1, none⟩ = some (.slice a f.left.length cap) := blk_cell h1
  cases hl : f.left with
  | nil =>
    rw [hl] at c1
    refine (take_none w p a cap c1).mono ?_
    rintro e w' ⟨rfl, rfl⟩
    refine ⟨by simp [FR.out, hl], ?_, Kept.refl _ _, rfl⟩
    have : (⟨f.objs, [].tail, f.calls⟩ : FR) = f := by
      cases f
      simp only at hl
      subst hl
      rfl
    rw [this]
    exact h0
  | cons x r =>
    rw [hl] at c1 q1
    rcases q4 with ⟨q4, _⟩ | ⟨b, off, rfl, q5, q6⟩
    · rw [hl] at q4; simp at q4
    · have cx : w.cell? ⟨b, off, none⟩ = some (.int .i64 x) := by
        have := q6 0 (.int .i64 x) (by rw [hl]; rfl)
        simpa using this
      refine (take_some w p b off r.length cap x (by simpa using q1) q2 c1 (blk_free h1) cx).mono ?_
      rintro e w' ⟨rfl, off', cap', rfl, r1, r2, r3⟩
      have hb := h5 b rfl
      refine ⟨by simp [FR.out, hl], h0.scal ((Kept.refl _ _).setCell (fun h => h.2 rfl) _) rfl ?_, (Kept.refl _ _).setCell (fun h => h.2 rfl) _, by simp [World.setCell]⟩
      intro mv' lv' k1 k2 k3
      rw [h1] at k1
      have e1 : mv = mv' := Option.some.inj (show some mv = some mv' from congrArg (fun o : Option Obj => match o with | some (.cells c _ _) => c[0]? | _ => none) k1)
      subst e1
      refine ⟨.slice (some ⟨b, off', none⟩) r.length cap', (blk_set (i := 1) h1 _).trans (by simp), ?_, fun k e => by cases e; exact hb⟩
      refine ⟨_, cap', rfl, r1, r2, by simp, ?_⟩
      rcases r3 with r3 | rfl
      · exact .inr ⟨b, off', rfl, by simpa [World.setCell] using q5, fun j u hj => by
          have : r = [] := List.eq_nil_of_length_eq_zero r3
          subst this
          simp at hj⟩
      · refine .inr ⟨b, off + 1, rfl, by simpa [World.setCell] using q5, fun j u hj => ?_⟩
        rw [World.cell?_setCell_far _ _ _ _ (by simpa using Ne.symm hb.2)]
        have := q6 (j + 1) u (by rw [hl]; simpa using hj)
        rw [show off + 1 + j = off + (j + 1) by omega]
        exact this

/-- A call is counted, has its outcome, and is done or not. -/
theorem call_at {G : Nat → Prop} {w : World} {p : Nat} {f : FR} (h : FarAt G w p f) (hcl : f.calls < 1000000000000) (k : Nat) (fst caps : Array Value) (hen : Enters Tryz.prog k) (d : Nat) (R : World → Prop)
    (hdo : f.out ≠ 1 → ∀ w1, FarAt G w1 p f.took → Kept (fun j => j < w.heap.size ∧ j ≠ p) w w1 → w1.heap.size = w.heap.size → Calls Tryz.prog k (fst ++ caps) w1 fun e w2 => e = .returned (.int .i64 (d : Int)) ∧ R w2)
    (hfail : f.out = 1 → ∀ w1, FarAt G w1 p f.took → Kept (fun j => j < w.heap.size ∧ j ≠ p) w w1 → w1.heap.size = w.heap.size → R w1) :
    Calls Tryz.prog 44 #[.pointer (some ⟨p, 0, none⟩), .func (.func k) fst caps] w fun e w' => e = .returned (.int .i64 (tells f.out d : Int)) ∧ R w' := by
  obtain ⟨w1, hw1⟩ : ∃ w1, w1 = w.setCell ⟨p, 2, none⟩ (.int .i64 ((f.calls : Int) + 1)) := ⟨_, rfl⟩
  have hk1 : Kept (fun j => j < w.heap.size ∧ j ≠ p) w w1 := by subst hw1; exact (Kept.refl _ w).setCell (fun h => h.2 rfl) _
  have hs1 : w1.heap.size = w.heap.size := by subst hw1; simp [World.setCell]
  have h1 : FarAt G w1 p ⟨f.objs, f.left, f.calls + 1⟩ := by
    refine h.scal hk1 rfl fun mv lv k1 k2 k3 => ⟨lv, ?_, ?_, k3⟩
    · subst hw1
      exact (blk_set (i := 2) k1 (.int .i64 ((f.calls : Int) + 1))).trans (by simp)
    · exact Rd.kept k2 hk1 fun k e => ⟨h.lt k (k3 k e).1, (k3 k e).2⟩
  obtain ⟨mv, lv, b1, _, _⟩ := h.ex
  have c2 : w.cell? ⟨p, 2, none⟩ = some (.int .i64 (f.calls : Int)) := blk_cell b1
  have f2 : w.frozen? ⟨p, 2, none⟩ = false := blk_free b1
  have ht : Calls Tryz.prog 58 #[.pointer (some ⟨p, 0, none⟩)] w1 fun e w' => e = .returned (.int .i64 f.out) ∧ FarAt G w' p f.took ∧ Kept (fun k => k < w1.heap.size ∧ k ≠ p) w1 w' ∧ w'.heap.size = w1.heap.size := take_at h1
  have HT := Lib.hid ht
  have Hw1 := Lib.hid hw1
  have HDO := Lib.hid hdo
  have HF := Lib.hid hfail
  have HK := Lib.hid hk1
  have HS := Lib.hid hs1
  unfold Enters at hen
  clear ht hdo hfail hk1 hs1 hw1 h1 b1 h
  obtain ⟨out, ho⟩ : ∃ out, out = f.out := ⟨_, rfl⟩
  rw [← ho] at HT HDO HF ⊢
  have HO := Lib.hid ho
  clear ho
  by_cases e1 : out = 1
  · subst e1
    go_enter Tryz.func44, Tryz.ntmps44
    go_wp2
    go_step3
    go_wp2
    go_step3
    go_wp2_with (go_at_call 58; rw [← Hw1.out]; refine HT.out.mono ?_; rintro e w2 ⟨rfl, h2, hk2, hs2⟩; have HKK := Lib.hid (HK.out.trans (Kept.mono hk2 fun j hj => ⟨by have := HS.out; omega, hj.2⟩)); have HSS := Lib.hid (hs2.trans HS.out); have H2 := Lib.hid h2; clear hk2 hs2 h2)
    rw [Exit.noGoto_ret]
    go_ret
    exact ⟨by simp [tells], HF.out trivial w2 H2.out HKK.out HSS.out⟩
  · have HDO' := Lib.hid (HDO.out e1)
    by_cases e2 : out = 2
    · subst e2
      go_enter Tryz.func44, Tryz.ntmps44
      go_wp2
      go_step3
      go_wp2
      go_step3
      go_wp2_with (first | (go_at_call 58; rw [← Hw1.out]; refine HT.out.mono ?_; rintro e w2 ⟨rfl, h2, hk2, hs2⟩; have HKK := Lib.hid (HK.out.trans (Kept.mono hk2 fun j hj => ⟨by have := HS.out; omega, hj.2⟩)); have HSS := Lib.hid (hs2.trans HS.out); have H2 := Lib.hid h2; clear hk2 hs2 h2) | (refine (HDO'.out w2 H2.out HKK.out HSS.out).mono ?_; rintro e w3 ⟨rfl, hr⟩))
      rw [Exit.noGoto_ret]
      go_ret
      exact ⟨by simp [tells], hr⟩
    · go_enter Tryz.func44, Tryz.ntmps44
      go_wp2
      go_step3
      go_wp2
      go_step3
      go_wp2_with (first | (go_at_call 58; rw [← Hw1.out]; refine HT.out.mono ?_; rintro e w2 ⟨rfl, h2, hk2, hs2⟩; have HKK := Lib.hid (HK.out.trans (Kept.mono hk2 fun j hj => ⟨by have := HS.out; omega, hj.2⟩)); have HSS := Lib.hid (hs2.trans HS.out); have H2 := Lib.hid h2; clear hk2 hs2 h2) | (refine (HDO'.out w2 H2.out HKK.out HSS.out).mono ?_; rintro e w3 ⟨rfl, hr⟩))
      rw [Exit.noGoto_ret]
      go_ret
      exact ⟨by simp [tells, e1, e2], hr⟩
end Go.Proofs.YtljjgpjaleekdaaGreatDoor
