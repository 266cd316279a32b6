/-
  The walks of the statements FarFails and FarKeeps.
-/
import Derived.Test.YtcgbpbpbbbfmhaaDoorFarOn
import Derived.Test.YtcgbpbpbbbfmhaaDoorLift
namespace Go.Proofs.YtcgbpbpbbbfmhaaDoor
open Go.RowKit

theorem FOnR.rd {W w : World} {p : Nat} {f : FR} {v : Value} {l : List UInt8} (h : FOnR W w p f v l) : RdB w v l := by
  obtain ⟨_, _, _, _, h, _⟩ := h
  exact h

theorem o_putE {f : FR} {b : List UInt8} (hb : b.length ≤ 300) : f.putE [111] b = if (nfind f.objs [111]).isSome then 3 else 0 := by
  unfold FR.putE
  rw [show (!nmOk [111]) = false from rfl, if_neg (by simp), if_neg (by omega)]
theorem o_have {l : List Int} {c : Nat} {a b : List UInt8} (hb : b.length ≤ 300) : (⟨[([111], a)], l, c⟩ : FR).putE [111] b = 3 := by
  rw [o_putE hb]; rfl
theorem o_none {l : List Int} {c : Nat} {b : List UInt8} (hb : b.length ≤ 300) : (⟨[], l, c⟩ : FR).putE [111] b = 0 := by
  rw [o_putE hb]; rfl
theorem o_put0 {c : Nat} {b : List UInt8} (hb : b.length ≤ 300) : (⟨[], [], c⟩ : FR).put [111] b = (0, ⟨[([111], b)], [], c + 1⟩) := by
  unfold FR.put FR.does FR.putD
  rw [show (⟨[], [], c⟩ : FR).took = ⟨[], [], c + 1⟩ from rfl, o_none hb]
  dsimp only
  rw [o_none hb]
  rfl
theorem o_put1 {c : Nat} {b : List UInt8} (hb : b.length ≤ 300) : (⟨[], [1], c⟩ : FR).put [111] b = (8, ⟨[], [], c + 1⟩) := by
  unfold FR.put FR.does FR.putD
  rw [o_none hb]
  rfl
theorem o_put2 {c : Nat} {b : List UInt8} (hb : b.length ≤ 300) : (⟨[], [2], c⟩ : FR).put [111] b = (8, ⟨[([111], b)], [], c + 1⟩) := by
  unfold FR.put FR.does FR.putD
  rw [show (⟨[], [2], c⟩ : FR).took = ⟨[], [], c + 1⟩ from rfl, o_none hb]
  dsimp only
  rw [o_none hb]
  rfl
/-- One that is taken stays. -/
theorem o_puth {l : List Int} {c : Nat} {a b : List UInt8} (hb : b.length ≤ 300) : (⟨[([111], a)], l, c⟩ : FR).put [111] b = (tells (l.headD 0) 3, ⟨[([111], a)], l.tail, c + 1⟩) := by
  unfold FR.put FR.does FR.putD
  rw [show (⟨[([111], a)], l, c⟩ : FR).took = ⟨[([111], a)], l.tail, c + 1⟩ from rfl, o_have hb]
  dsimp only
  rw [o_have hb]
  show (tells (l.headD 0) 3, _) = _
  congr 1
  split <;> rfl
theorem o_fsm {a : List UInt8} {l : List Int} {c : Nat} (hl : l.length < 1000000) (hc : c < 100000) : FSm ⟨[([111], a)], l, c⟩ := ⟨by simp, hc, fun x hx => by simp at hx; subst hx; simp, hl⟩
theorem e_fsm {l : List Int} {c : Nat} (hl : l.length < 1000000) (hc : c < 100000) : FSm ⟨[], l, c⟩ := ⟨by simp, hc, fun x hx => (nomatch hx), hl⟩
theorem o_drop1 {c : Nat} {a : List UInt8} : (⟨[([111], a)], [1], c⟩ : FR).drop [111] = (8, ⟨[([111], a)], [], c + 1⟩) := rfl
theorem o_drop2 {c : Nat} {a : List UInt8} : (⟨[([111], a)], [2], c⟩ : FR).drop [111] = (8, ⟨[], [], c + 1⟩) := rfl
theorem o_drop0 {c : Nat} {a : List UInt8} : (⟨[([111], a)], [], c⟩ : FR).drop [111] = (0, ⟨[], [], c + 1⟩) := rfl

theorem rd_one (w : World) (n : Int) : Rd (w.alloc (.cells #[.int .i64 n] 3)) 1 (.slice (some ⟨w.heap.size, 0, none⟩) 1 1) [n].length ([n].map (Value.int .i64)) :=
  ⟨_, 1, rfl, Nat.le_refl _, by unfold maxLen; omega, rfl, .inr ⟨w.heap.size, 0, rfl, by simp, fun j u hj => by rw [Nat.zero_add, blk_cell (heap_alloc_new w _)]; simpa using hj⟩⟩

theorem on_next1 {W w : World} {p : Nat} {f : FR} (h : FOn W w p f) (n : Int) : Calls Tryd.prog 19 #[.pointer (some ⟨p, 0, none⟩), .slice (some ⟨w.heap.size, 0, none⟩) 1 1] (w.alloc (.cells #[.int .i64 n] 3)) fun e w' => e = .returned (.tuple #[]) ∧ FOn W w' p (f.next [n]) :=
  fon_next h ((Below.refl _ _).alloc (Nat.le_refl _) _) _ [n] (rd_one w n) (by simp)

theorem on_put {W w : World} {p : Nat} {f : FR} (h : FOn W w p f) (hs : FSm f) (v : Value) (b : List UInt8) (hv : RdB W v b) (hbl : b.length ≤ 300) (r : Nat) (f' : FR) (he : f.put [111] b = (r, f')) :
    Calls Tryd.prog 18 #[.pointer (some ⟨p, 0, none⟩), .string ⟨#[111]⟩, v] w fun e w' => e = .returned (.int .i64 (r : Int)) ∧ FOn W w' p f' :=
  fon_put h (Below.refl _ _) hs ⟨#[111]⟩ (by decide) v b (hv.below h.below (Nat.le_refl _)) (by unfold maxLen; omega) (fun hne k e => .inl (hv.blk_lt hne k e)) r f' he

theorem long_case {N : Nat} (_ : N = N) : True := trivial

set_option maxRecDepth 100000 in
set_option maxHeartbeats 4000000 in
set_option linter.unusedSimpArgs false in
theorem fails_00 (va : Option Addr) (ca : Nat) (la : List UInt8) (W : World) (h1 : RdB W (.slice va la.length ca) la) (l1 : la.length ≤ 300) :
    Calls Tryd.prog 5 #[.slice va la.length ca, .bool false, .bool false] W fun e w' => e = .returned (.bool true) ∧ Below W.heap.size W w' := by
  have HN := Lib.hid (fon_new W W (Below.refl _ _))
  have hq : ∀ (w : World) (a : Addr), (binOp .eql 24 (.pointer (some a)) (.pointer none)).run Tryd.prog w = .ok (.bool false) w := fun w a => by kernel_rfl
  have HB := Lib.hid (fun (w : World) (p : Nat) (h : FOn W w p FR.new) => on_next1 h 1)
  have HC := Lib.hid (fun (w : World) (p : Nat) (h : FOn W w p ⟨[], [1], 0⟩) => on_put h (e_fsm (by decide) (by decide)) _ la h1 l1 8 _ (o_put1 (c := 0) l1))
  have HO := Lib.hid (fun (w : World) (p : Nat) (h : FOn W w p ⟨[], [], 1⟩) => fon_objs h (e_fsm (by decide) (by decide)) 0 rfl)
  have HL := Lib.hid (fun (w : World) (p : Nat) (h : FOn W w p ⟨[], [], 1⟩) => fon_left h 0 rfl)
  have g1 : ¬ (300 : Int) < (la.length : Int) := by omega
  clear h1
  go_enter Tryd.func5, Tryd.ntmps5
  go_wp2_with (first | (go_at_call 8; (with_reducible refine HN.out.mono ?_); rintro e w0 ⟨p, rfl, h0⟩; have H0 := Lib.hid h0; clear h0) | (go_at_call 19; (with_reducible refine (HB.out _ _ H0.out).mono ?_); rintro e w2 ⟨rfl, h2⟩; have H2 := Lib.hid h2; clear h2) | (go_at_call 18; (with_reducible refine (HC.out _ _ H2.out).mono ?_); rintro e w3 ⟨rfl, h3⟩; have H3 := Lib.hid h3; clear h3) | (go_at_call 12; (with_reducible refine (HO.out _ _ H3.out).mono ?_); rintro e w5 ⟨va, vc, rfl, h5⟩; have H5 := Lib.hid h5; clear h5) | (go_at_call 16; (with_reducible refine (HL.out _ _ H5.out).mono ?_); rintro e w6 ⟨rfl, rfl⟩) | (go_at_call 22; (with_reducible refine (num1_any _ _).mono ?_); rintro e w14 ⟨rfl, rfl⟩) | (go_at_call 7; (with_reducible refine (awake5_any _).mono ?_); rintro e w15 ⟨rfl, B15⟩))
  go_ret
  exact ⟨rfl, H5.out.below.trans (Kept.below (Kept.of B15 (R := fun k => k < w5.heap.size) fun _ h => h) fun k hk => Nat.lt_of_lt_of_le hk H5.out.below.size)⟩

set_option maxRecDepth 100000 in
set_option maxHeartbeats 4000000 in
set_option linter.unusedSimpArgs false in
theorem fails_01 (va : Option Addr) (ca : Nat) (la : List UInt8) (W : World) (h1 : RdB W (.slice va la.length ca) la) (l1 : la.length ≤ 300) :
    Calls Tryd.prog 5 #[.slice va la.length ca, .bool false, .bool true] W fun e w' => e = .returned (.bool true) ∧ Below W.heap.size W w' := by
  have HN := Lib.hid (fon_new W W (Below.refl _ _))
  have hq : ∀ (w : World) (a : Addr), (binOp .eql 24 (.pointer (some a)) (.pointer none)).run Tryd.prog w = .ok (.bool false) w := fun w a => by kernel_rfl
  have HA := Lib.hid (fun (w : World) (p : Nat) (h : FOn W w p FR.new) => on_put h (e_fsm (by decide) (by decide)) _ la h1 l1 0 _ (o_put0 (c := 0) l1))
  have HB := Lib.hid (fun (w : World) (p : Nat) (h : FOn W w p ⟨[([111], la)], [], 1⟩) => on_next1 h 1)
  have HC := Lib.hid (fun (w : World) (p : Nat) (h : FOn W w p ⟨[([111], la)], [1], 1⟩) => fon_drop h (o_fsm (by decide) (by decide)) ⟨#[111]⟩ (by decide) 8 _ (o_drop1 (c := 1) (a := la)))
  have HO := Lib.hid (fun (w : World) (p : Nat) (h : FOn W w p ⟨[([111], la)], [], 2⟩) => fon_objs h (o_fsm (by decide) (by decide)) 1 rfl)
  have HL := Lib.hid (fun (w : World) (p : Nat) (h : FOn W w p ⟨[([111], la)], [], 2⟩) => fon_left h 0 rfl)
  have g1 : ¬ (300 : Int) < (la.length : Int) := by omega
  clear h1
  go_enter Tryd.func5, Tryd.ntmps5
  go_wp2_with (first | (go_at_call 8; (with_reducible refine HN.out.mono ?_); rintro e w0 ⟨p, rfl, h0⟩; have H0 := Lib.hid h0; clear h0) | (go_at_call 18; (with_reducible refine (HA.out _ _ H0.out).mono ?_); rintro e w1 ⟨rfl, h1⟩; have H1 := Lib.hid h1; clear h1) | (go_at_call 19; (with_reducible refine (HB.out _ _ H1.out).mono ?_); rintro e w2 ⟨rfl, h2⟩; have H2 := Lib.hid h2; clear h2) | (go_at_call 21; (with_reducible refine (HC.out _ _ H2.out).mono ?_); rintro e w3 ⟨rfl, h3⟩; have H3 := Lib.hid h3; clear h3) | (go_at_call 12; (with_reducible refine (HO.out _ _ H3.out).mono ?_); rintro e w5 ⟨va, vc, rfl, h5⟩; have H5 := Lib.hid h5; clear h5) | (go_at_call 16; (with_reducible refine (HL.out _ _ H5.out).mono ?_); rintro e w6 ⟨rfl, rfl⟩) | (go_at_call 22; (with_reducible refine (num1_any _ _).mono ?_); rintro e w14 ⟨rfl, rfl⟩) | (go_at_call 7; (with_reducible refine (awake5_any _).mono ?_); rintro e w15 ⟨rfl, B15⟩))
  go_ret
  exact ⟨rfl, H5.out.below.trans (Kept.below (Kept.of B15 (R := fun k => k < w5.heap.size) fun _ h => h) fun k hk => Nat.lt_of_lt_of_le hk H5.out.below.size)⟩

set_option maxRecDepth 100000 in
set_option maxHeartbeats 4000000 in
set_option linter.unusedSimpArgs false in
theorem fails_10 (va : Option Addr) (ca : Nat) (la : List UInt8) (W : World) (h1 : RdB W (.slice va la.length ca) la) (l1 : la.length ≤ 300) :
    Calls Tryd.prog 5 #[.slice va la.length ca, .bool true, .bool false] W fun e w' => e = .returned (.bool true) ∧ Below W.heap.size W w' := by
  have HN := Lib.hid (fon_new W W (Below.refl _ _))
  have hq : ∀ (w : World) (a : Addr), (binOp .eql 24 (.pointer (some a)) (.pointer none)).run Tryd.prog w = .ok (.bool false) w := fun w a => by kernel_rfl
  have HB := Lib.hid (fun (w : World) (p : Nat) (h : FOn W w p FR.new) => on_next1 h 2)
  have HC := Lib.hid (fun (w : World) (p : Nat) (h : FOn W w p ⟨[], [2], 0⟩) => on_put h (e_fsm (by decide) (by decide)) _ la h1 l1 8 _ (o_put2 (c := 0) l1))
  have HO := Lib.hid (fun (w : World) (p : Nat) (h : FOn W w p ⟨[([111], la)], [], 1⟩) => fon_objs h (o_fsm (by decide) (by decide)) 1 rfl)
  have HL := Lib.hid (fun (w : World) (p : Nat) (h : FOn W w p ⟨[([111], la)], [], 1⟩) => fon_left h 0 rfl)
  have g1 : ¬ (300 : Int) < (la.length : Int) := by omega
  clear h1
  go_enter Tryd.func5, Tryd.ntmps5
  go_wp2_with (first | (go_at_call 8; (with_reducible refine HN.out.mono ?_); rintro e w0 ⟨p, rfl, h0⟩; have H0 := Lib.hid h0; clear h0) | (go_at_call 19; (with_reducible refine (HB.out _ _ H0.out).mono ?_); rintro e w2 ⟨rfl, h2⟩; have H2 := Lib.hid h2; clear h2) | (go_at_call 18; (with_reducible refine (HC.out _ _ H2.out).mono ?_); rintro e w3 ⟨rfl, h3⟩; have H3 := Lib.hid h3; clear h3) | (go_at_call 12; (with_reducible refine (HO.out _ _ H3.out).mono ?_); rintro e w5 ⟨va, vc, rfl, h5⟩; have H5 := Lib.hid h5; clear h5) | (go_at_call 16; (with_reducible refine (HL.out _ _ H5.out).mono ?_); rintro e w6 ⟨rfl, rfl⟩) | (go_at_call 22; (with_reducible refine (num1_any _ _).mono ?_); rintro e w14 ⟨rfl, rfl⟩) | (go_at_call 7; (with_reducible refine (awake5_any _).mono ?_); rintro e w15 ⟨rfl, B15⟩))
  go_ret
  exact ⟨rfl, H5.out.below.trans (Kept.below (Kept.of B15 (R := fun k => k < w5.heap.size) fun _ h => h) fun k hk => Nat.lt_of_lt_of_le hk H5.out.below.size)⟩

set_option maxRecDepth 100000 in
set_option maxHeartbeats 4000000 in
set_option linter.unusedSimpArgs false in
theorem fails_11 (va : Option Addr) (ca : Nat) (la : List UInt8) (W : World) (h1 : RdB W (.slice va la.length ca) la) (l1 : la.length ≤ 300) :
    Calls Tryd.prog 5 #[.slice va la.length ca, .bool true, .bool true] W fun e w' => e = .returned (.bool true) ∧ Below W.heap.size W w' := by
  have HN := Lib.hid (fon_new W W (Below.refl _ _))
  have hq : ∀ (w : World) (a : Addr), (binOp .eql 24 (.pointer (some a)) (.pointer none)).run Tryd.prog w = .ok (.bool false) w := fun w a => by kernel_rfl
  have HA := Lib.hid (fun (w : World) (p : Nat) (h : FOn W w p FR.new) => on_put h (e_fsm (by decide) (by decide)) _ la h1 l1 0 _ (o_put0 (c := 0) l1))
  have HB := Lib.hid (fun (w : World) (p : Nat) (h : FOn W w p ⟨[([111], la)], [], 1⟩) => on_next1 h 2)
  have HC := Lib.hid (fun (w : World) (p : Nat) (h : FOn W w p ⟨[([111], la)], [2], 1⟩) => fon_drop h (o_fsm (by decide) (by decide)) ⟨#[111]⟩ (by decide) 8 _ (o_drop2 (c := 1) (a := la)))
  have HO := Lib.hid (fun (w : World) (p : Nat) (h : FOn W w p ⟨[], [], 2⟩) => fon_objs h (e_fsm (by decide) (by decide)) 0 rfl)
  have HL := Lib.hid (fun (w : World) (p : Nat) (h : FOn W w p ⟨[], [], 2⟩) => fon_left h 0 rfl)
  have g1 : ¬ (300 : Int) < (la.length : Int) := by omega
  clear h1
  go_enter Tryd.func5, Tryd.ntmps5
  go_wp2_with (first | (go_at_call 8; (with_reducible refine HN.out.mono ?_); rintro e w0 ⟨p, rfl, h0⟩; have H0 := Lib.hid h0; clear h0) | (go_at_call 18; (with_reducible refine (HA.out _ _ H0.out).mono ?_); rintro e w1 ⟨rfl, h1⟩; have H1 := Lib.hid h1; clear h1) | (go_at_call 19; (with_reducible refine (HB.out _ _ H1.out).mono ?_); rintro e w2 ⟨rfl, h2⟩; have H2 := Lib.hid h2; clear h2) | (go_at_call 21; (with_reducible refine (HC.out _ _ H2.out).mono ?_); rintro e w3 ⟨rfl, h3⟩; have H3 := Lib.hid h3; clear h3) | (go_at_call 12; (with_reducible refine (HO.out _ _ H3.out).mono ?_); rintro e w5 ⟨va, vc, rfl, h5⟩; have H5 := Lib.hid h5; clear h5) | (go_at_call 16; (with_reducible refine (HL.out _ _ H5.out).mono ?_); rintro e w6 ⟨rfl, rfl⟩) | (go_at_call 22; (with_reducible refine (num1_any _ _).mono ?_); rintro e w14 ⟨rfl, rfl⟩) | (go_at_call 7; (with_reducible refine (awake5_any _).mono ?_); rintro e w15 ⟨rfl, B15⟩))
  go_ret
  exact ⟨rfl, H5.out.below.trans (Kept.below (Kept.of B15 (R := fun k => k < w5.heap.size) fun _ h => h) fun k hk => Nat.lt_of_lt_of_le hk H5.out.below.size)⟩

set_option maxRecDepth 100000 in
set_option maxHeartbeats 4000000 in
theorem farFails_walk (v : Value) (l : List UInt8) (lies drop : Bool) (W : World) (hv : RdB W v l) :
    Calls Tryd.prog 5 #[v, .bool lies, .bool drop] W fun e w' => e = .returned (.bool true) ∧ Below W.heap.size W w' := by
  have hv0 := hv
  obtain ⟨va, vc, rfl, _, _⟩ := RdB.form hv
  by_cases hl : l.length ≤ 300
  · cases lies <;> cases drop
    · exact fails_00 va vc l W hv0 hl
    · exact fails_01 va vc l W hv0 hl
    · exact fails_10 va vc l W hv0 hl
    · exact fails_11 va vc l W hv0 hl
  · clear hv hv0
    go_enter Tryd.func5, Tryd.ntmps5
    go_wp2_with (go_at_call 7; (with_reducible refine (awake5_any _).mono ?_); rintro e w15 ⟨rfl, B15⟩)
    go_ret
    exact ⟨rfl, B15⟩

theorem o_get {l : List Int} {c : Nat} {a : List UInt8} (hl : l = []) (ha : a.length ≤ 300) : (⟨[([111], a)], l, c⟩ : FR).get [111] 0 1000 = (a, 0) := by
  subst hl
  unfold FR.get
  have e1 : (⟨[([111], a)], [], c⟩ : FR).getE [111] 0 1000 = 0 := by
    unfold FR.getE
    show (if (0 : Int) < 0 ∨ (a.length : Int) < 0 ∨ (1000 : Int) < 0 then 1 else 0) = 0
    rw [if_neg (by omega)]
  have e2 : (⟨[([111], a)], [], c⟩ : FR).getB [111] 0 1000 = a := by
    unfold FR.getB
    show (a.drop 0).take 1000 = a
    rw [List.drop_zero, List.take_of_length_le (by omega)]
  rw [e1, e2]
  rfl
theorem e_get {c : Nat} : (⟨[], [], c⟩ : FR).get [111] 0 1000 = ([], 2) := rfl

/-- The object is there, as it was put. -/
def Kp (la : List UInt8) (f : FR) (n : Nat) : Prop := f.objs = [([111], la)] ∧ f.calls = n ∧ f.left.length ≤ 20

theorem kp_form {la : List UInt8} {f : FR} {n : Nat} (h : Kp la f n) : f = ⟨[([111], la)], f.left, n⟩ := by
  obtain ⟨h1, h2, _⟩ := h
  cases f
  simp only at h1 h2
  subst h1; subst h2
  rfl

set_option maxRecDepth 100000 in
set_option maxHeartbeats 4000000 in
set_option linter.unusedSimpArgs false in
theorem keeps_main (va vb vo : Option Addr) (ca cb co : Nat) (la lb : List UInt8) (lo : List Int) (W : World) (h1 : RdB W (.slice va la.length ca) la) (h2 : RdB W (.slice vb lb.length cb) lb) (ho : Rd W 1 (.slice vo lo.length co) lo.length (lo.map (Value.int .i64))) (l1 : la.length ≤ 300) (l2 : lb.length ≤ 300) (l3 : lo.length ≤ 20) :
    Calls Tryd.prog 4 #[.slice va la.length ca, .slice vb lb.length cb, .slice vo lo.length co] W fun e w' => e = .returned (.bool true) ∧ Below W.heap.size W w' := by
  have HN := Lib.hid (fon_new W W (Below.refl _ _))
  have hq : ∀ (w : World) (a : Addr), (binOp .eql 24 (.pointer (some a)) (.pointer none)).run Tryd.prog w = .ok (.bool false) w := fun w a => by kernel_rfl
  have HA := Lib.hid (fun (w : World) (p : Nat) (h : FOn W w p FR.new) => on_put h (e_fsm (by decide) (by decide)) _ la h1 l1 0 _ (o_put0 (c := 0) l1))
  have HB := Lib.hid (fun (w : World) (p : Nat) (h : FOn W w p ⟨[([111], la)], [], 1⟩) => fon_next h (Below.refl _ _) _ lo (Rd.below ho h.below (Nat.le_refl _)) (by omega))
  have HC := Lib.hid (fun (w : World) (p : Nat) (l : List Int) (c : Nat) (h : FOn W w p ⟨[([111], la)], l, c⟩ ∧ l.length ≤ 20 ∧ c ≤ 11) => on_put h.1 (o_fsm (by omega) (by omega)) _ lb h2 l2 _ _ (o_puth (l := l) (c := c) (a := la) l2))
  have HD := Lib.hid (fun (w : World) (p : Nat) (l : List Int) (c : Nat) (h : FOn W w p ⟨[([111], la)], l, c⟩ ∧ l.length ≤ 20 ∧ c ≤ 11) => fon_next h.1 (Below.refl _ _) (.slice none 0 0) [] (Rd.nil _ _) (by decide))
  have HE := Lib.hid (fun (w : World) (p : Nat) (c : Nat) (h : FOn W w p ⟨[([111], la)], [], c⟩ ∧ c ≤ 11) => on_put h.1 (o_fsm (by decide) (by omega)) _ lb h2 l2 3 _ (o_puth (l := []) (c := c) (a := la) l2))
  have HF := Lib.hid (fun (w : World) (p : Nat) (c : Nat) (h : FOn W w p ⟨[([111], la)], [], c + 1⟩ ∧ c ≤ 11) => fon_get h.1 (o_fsm (by decide) (by omega)) ⟨#[111]⟩ (by decide) 0 1000 0 la (o_get (c := c + 1) rfl l1))
  have HG := Lib.hid (fun (w : World) (p : Nat) (c : Nat) (v : Value) (h : FOnR W w p ⟨[([111], la)], [], c + 1 + 1⟩ v la ∧ c ≤ 11) => fonr_drop h.1 (o_fsm (by decide) (by omega)) ⟨#[111]⟩ (by decide) 0 _ (o_drop0 (c := c + 1 + 1) (a := la)))
  have HI := Lib.hid (fun (w : World) (p : Nat) (c : Nat) (v : Value) (h : FOnR W w p ⟨[], [], c + 1 + 1 + 1⟩ v la ∧ c ≤ 11) => fonr_get h.1 (e_fsm (by decide) (by omega)) ⟨#[111]⟩ (by decide) 0 1000 2 [] e_get)
  have HR1 := Lib.hid h1
  have g1 : ¬ (300 : Int) < (la.length : Int) := by omega
  have g2 : ¬ (300 : Int) < (lb.length : Int) := by omega
  have g3 : ¬ (20 : Int) < (lo.length : Int) := by omega
  clear h1 h2 ho
  go_enter Tryd.func4, Tryd.ntmps4
  go_wp2_with (first | (go_at_call 8; (with_reducible refine HN.out.mono ?_); rintro e w0 ⟨p, rfl, h0⟩; have H0 := Lib.hid h0; clear h0) | (go_at_call 18; (with_reducible refine (HA.out _ _ H0.out).mono ?_); rintro e w1 ⟨rfl, h1⟩; have H1 := Lib.hid h1; clear h1) | (go_at_call 19; (with_reducible refine (HB.out _ _ H1.out).mono ?_); rintro e w2 ⟨rfl, h2⟩; have H2 := Lib.hid h2; clear h2))
  obtain ⟨wa, hwa⟩ : ∃ wa, wa = w2 := ⟨_, rfl⟩
  subst hwa
  go_loopw [9] (fun i wr => ∃ (k : Nat) (l : List Int), i = .int .i64 k ∧ k ≤ 10 ∧ FOn W wr p ⟨[([111], la)], l, k + 1⟩ ∧ l.length ≤ 20 ∧ k + 1 ≤ 11) (fun i _ => 10 - (intOf i).toNat)
  case atStart => exact ⟨0, lo, rfl, by omega, H2.out, l3, by omega⟩
  case round =>
    obtain ⟨k, l, rfl, hk, hw⟩ := hrel
    have HW := Lib.hid hw
    clear hw
    by_cases hlt : k < 10
    · go_wp2_with (first | (go_at_call 18; (with_reducible refine (HC.out _ _ _ _ HW.out).mono ?_); rintro e w3 ⟨rfl, h3⟩; have H3 := Lib.hid h3; clear h3))
      go_roundw
      case rel => exact ⟨k + 1, l.tail, by go_num, by omega, H3.out, by have := HW.out.2.1; rw [List.length_tail]; omega, by omega⟩
      case measure => simp [intOf]; omega
    · have hcvA := fun (w : World) (h : RdB w (.slice va la.length ca) la) => rdB_convert (P := Tryd.prog) h 31 5 9 Tryd.underlying31 Tryd.underlying5 Tryd.underlying9
      go_wp2_with (first | (go_at_call 19; (with_reducible refine (HD.out _ _ _ _ HW.out).mono ?_); rintro e w4 ⟨rfl, h4⟩; have H4 := Lib.hid (And.intro h4 HW.out.2.2); clear h4) | (go_at_call 18; (with_reducible refine (HE.out _ _ _ H4.out).mono ?_); rintro e w5 ⟨rfl, h5⟩; have H5 := Lib.hid (And.intro h5 HW.out.2.2); clear h5) | (go_at_call 20; (with_reducible refine (HF.out _ _ _ H5.out).mono ?_); rintro e w6 ⟨xa, xc, rfl, h6⟩; have H6 := Lib.hid (And.intro h6 HW.out.2.2); clear h6) | (go_at_call 21; (with_reducible refine (HG.out _ _ _ _ H6.out).mono ?_); rintro e w7 ⟨rfl, h7⟩; have H7 := Lib.hid (And.intro h7 HW.out.2.2); clear h7) | (go_at_call 20; (with_reducible refine (HI.out _ _ _ _ H7.out).mono ?_); rintro e w8 ⟨ya, yc, rfl, h8⟩; have H8 := Lib.hid (And.intro h8 HW.out.2.2); have hc1 := hcvA _ (HR1.out.below h8.on.below (Nat.le_refl _)); have hc2 := rdB_convert (P := Tryd.prog) (FOnR.rd h8) 31 5 9 Tryd.underlying31 Tryd.underlying5 Tryd.underlying9; clear h8) | (go_at_call 22; (with_reducible refine (num1_any _ _).mono ?_); rintro e w14 ⟨rfl, rfl⟩) | (go_at_call 7; (with_reducible refine (awake5_any _).mono ?_); rintro e w15 ⟨rfl, B15⟩))
      go_ret
      exact ⟨rfl, H8.out.1.on.below.trans (Kept.below (Kept.of B15 (R := fun k => k < w8.heap.size) fun _ h => h) fun k hk => Nat.lt_of_lt_of_le hk H8.out.1.on.below.size)⟩

theorem rd_of_rdI {w : World} {v : Value} {zs : List Int} (h : RdI .i64 w v zs) : Rd w 1 v zs.length (zs.map (Value.int .i64)) := by
  obtain ⟨a, cap, rfl, h1, h2, _, h4⟩ := h
  refine ⟨a, cap, rfl, h1, h2, by simp, ?_⟩
  rcases h4 with ⟨rfl, h5⟩ | ⟨b, off, rfl, h5, h6⟩
  · exact .inl ⟨rfl, h5⟩
  · refine .inr ⟨b, off, rfl, h5, fun j u hj => ?_⟩
    have hjl : j < zs.length := by
      rcases Nat.lt_or_ge j zs.length with h | h
      · exact h
      · simp [List.getElem?_eq_none h] at hj
    rw [h6 j hjl]
    simp only [List.getElem?_map, List.getElem?_eq_getElem hjl, Option.map_some, Option.some.injEq] at hj
    rw [← hj]
    simp [List.getD, hjl]

set_option maxRecDepth 100000 in
set_option maxHeartbeats 4000000 in
theorem farKeeps_walk (v0 : Value) (l0 : List UInt8) (v1 : Value) (l1 : List UInt8) (v2 : Value) (l2 : List Int) (W : World) (h0 : RdB W v0 l0) (h1 : RdB W v1 l1) (h2 : RdI .i64 W v2 l2) :
    Calls Tryd.prog 4 #[v0, v1, v2] W fun e w' => e = .returned (.bool true) ∧ Below W.heap.size W w' := by
  have k0 := h0
  have k1 := h1
  have k2 := rd_of_rdI h2
  obtain ⟨a0, c0, rfl, _, _⟩ := RdB.form h0
  obtain ⟨a1, c1, rfl, _, _⟩ := RdB.form h1
  obtain ⟨a2, c2, rfl, _, _⟩ := Lf.form k2
  by_cases q0 : l0.length ≤ 300
  · by_cases q1 : l1.length ≤ 300
    · by_cases q2 : l2.length ≤ 20
      · exact keeps_main a0 a1 a2 c0 c1 c2 l0 l1 l2 W k0 k1 k2 q0 q1 q2
      · clear h0 h1 h2 k0 k1 k2
        go_enter Tryd.func4, Tryd.ntmps4
        go_wp2_with (go_at_call 7; (with_reducible refine (awake5_any _).mono ?_); rintro e w15 ⟨rfl, B15⟩)
        go_ret
        exact ⟨rfl, B15⟩
    · clear h0 h1 h2 k0 k1 k2
      go_enter Tryd.func4, Tryd.ntmps4
      go_wp2_with (go_at_call 7; (with_reducible refine (awake5_any _).mono ?_); rintro e w15 ⟨rfl, B15⟩)
      go_ret
      exact ⟨rfl, B15⟩
  · clear h0 h1 h2 k0 k1 k2
    go_enter Tryd.func4, Tryd.ntmps4
    go_wp2_with (go_at_call 7; (with_reducible refine (awake5_any _).mono ?_); rintro e w15 ⟨rfl, B15⟩)
    go_ret
    exact ⟨rfl, B15⟩
end Go.Proofs.YtcgbpbpbbbfmhaaDoor
