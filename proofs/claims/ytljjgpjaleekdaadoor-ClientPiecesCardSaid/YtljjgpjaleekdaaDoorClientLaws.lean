/-
  The walks of the statements ClientOther and ClientGives.
-/
import Derived.Test.YtljjgpjaleekdaaDoorClientPlain
namespace Go.Proofs.YtljjgpjaleekdaaDoor
open Go.RowKit

theorem fz_one {a : List UInt8} {l : List Int} {c m : Nat} (hm : 1 ≤ m) (hc : c ≤ m) : Fz ⟨[([111], a)], l, c⟩ m := ⟨by simpa using hm, hc⟩
theorem fz_none {l : List Int} {c m : Nat} (hc : c ≤ m) : Fz ⟨[], l, c⟩ m := ⟨by simp, hc⟩

/-- Up of an argument of the statement's. -/
theorem fh_up_arg {W w : World} {p : Nat} {f : FR} {P : World → Prop} {m : Nat} (h : FOnH W w p f P) (hz : Fz f m) (hm : m ≤ 10000) (v : Value) (b : List UInt8) (hv : RdB W v b) (hbl : b.length ≤ 1000) (r : Nat) (f' : FR) (he : f.up [111] b = (r, f')) :
    Calls Tryd.prog 11 #[.pointer (some ⟨p, 0, none⟩), .string ⟨#[111]⟩, v] w fun e w' => e = .returned (.int .i64 (r : Int)) ∧ FOnH W w' p f' P :=
  fh_up h (Below.refl _ _) hz hm ⟨#[111]⟩ (by decide) v b (hv.below h.be (Nat.le_refl _)) (by unfold maxLen; omega) (fun hne k e => .inl (hv.blk_lt hne k e)) r f' he

set_option maxRecDepth 100000 in
set_option maxHeartbeats 4000000 in
set_option linter.unusedSimpArgs false in
theorem other_same (va vb : Option Addr) (ca cb : Nat) (la : List UInt8) (W : World) (h1 : RdB W (.slice va la.length ca) la) (h2 : RdB W (.slice vb la.length cb) la) (l1 : la.length ≤ 300) :
    Calls Tryd.prog 5 #[.slice va la.length ca, .slice vb la.length cb] W fun e w' => e = .returned (.bool true) ∧ Below W.heap.size W w' := by
  have HN := Lib.hid (fon_new W W (Below.refl _ _))
  have hq : ∀ (w : World) (a : Addr), (binOp .eql 24 (.pointer (some a)) (.pointer none)).run Tryd.prog w = .ok (.bool false) w := fun w a => by kernel_rfl
  obtain ⟨d, hd, he⟩ := up_none (b := la) (l := []) (c := 0) (by omega) (by decide) bad_nil
  have hu2 : (⟨[([111], la)], [], d⟩ : FR).up [111] la = (0, ⟨[([111], la)], [], d + 2⟩) := by rw [up_have (by omega) (by omega) (by decide) bad_nil, if_pos rfl]; rfl
  have HA := Lib.hid (fun (w : World) (p : Nat) (h : FOnH W w p FR.new (fun _ => True)) => fh_up_arg h (m := 100) ⟨by simp [FR.new], by simp [FR.new]⟩ (by omega) _ la h1 (by omega) 0 _ he)
  have HB := Lib.hid (fun (w : World) (p : Nat) (h : FOnH W w p ⟨[([111], la)], [], d⟩ (fun _ => True)) => fh_up_arg h (m := 100) (fz_one (by omega) (by omega)) (by omega) _ la h2 (by omega) 0 _ hu2)
  have HC := Lib.hid (fun (w : World) (p : Nat) (h : FOnH W w p ⟨[([111], la)], [], d + 2⟩ (fun _ => True)) => fh_down h (m := 100) (fz_one (by omega) (by omega)) (by omega) ⟨#[111]⟩ (by decide) la 0 _ (gets_whole (by omega) (by decide) bad_nil))
  have HR1 := Lib.hid h1
  have HR2 := Lib.hid h2
  have g1 : ¬ (300 : Int) < (la.length : Int) := by omega
  clear h1 h2 he hu2
  go_enter Tryd.func5, Tryd.ntmps5
  go_wp2_with (first | (go_at_call 9; (with_reducible refine (HN.out).mono ?_); rintro e w0 ⟨p, rfl, h0⟩; have H0 := Lib.hid h0.h; clear h0) | (go_at_call 11; (with_reducible refine (HA.out _ _ H0.out).mono ?_); rintro e w1 ⟨rfl, h1⟩; have H1 := Lib.hid h1; clear h1) | (go_at_call 11; (with_reducible refine (HB.out _ _ H1.out).mono ?_); rintro e w2 ⟨rfl, h2⟩; have H2 := Lib.hid h2; clear h2) | (go_at_call 12; (with_reducible refine (HC.out _ _ H2.out).mono ?_); rintro e w3 ⟨xa, xc, rfl, h3⟩; have hc1 := rdB_convert (P := Tryd.prog) (HR1.out.below h3.be (Nat.le_refl _)) 22 5 9 Tryd.underlying22 Tryd.underlying5 Tryd.underlying9; have hc2 := rdB_convert (P := Tryd.prog) (HR2.out.below h3.be (Nat.le_refl _)) 22 5 9 Tryd.underlying22 Tryd.underlying5 Tryd.underlying9; have hc3 := rdB_convert (P := Tryd.prog) (h3.held.2) 22 5 9 Tryd.underlying22 Tryd.underlying5 Tryd.underlying9; have H3 := Lib.hid h3; clear h3) | (go_at_call 15; (with_reducible refine (num1_any _ _).mono ?_); rintro e w14 ⟨rfl, rfl⟩) | (go_at_call 8; (with_reducible refine (awake6_any _).mono ?_); rintro e w15 ⟨rfl, B15⟩))
  go_ret
  exact ⟨rfl, H3.out.be.trans (B15.mono H3.out.be.size)⟩

set_option maxRecDepth 100000 in
set_option maxHeartbeats 4000000 in
set_option linter.unusedSimpArgs false in
theorem other_not (va vb : Option Addr) (ca cb : Nat) (la lb : List UInt8) (W : World) (h1 : RdB W (.slice va la.length ca) la) (h2 : RdB W (.slice vb lb.length cb) lb) (l1 : la.length ≤ 300) (l2 : lb.length ≤ 300) (hne : la ≠ lb) :
    Calls Tryd.prog 5 #[.slice va la.length ca, .slice vb lb.length cb] W fun e w' => e = .returned (.bool true) ∧ Below W.heap.size W w' := by
  have HN := Lib.hid (fon_new W W (Below.refl _ _))
  have hq : ∀ (w : World) (a : Addr), (binOp .eql 24 (.pointer (some a)) (.pointer none)).run Tryd.prog w = .ok (.bool false) w := fun w a => by kernel_rfl
  obtain ⟨d, hd, he⟩ := up_none (b := la) (l := []) (c := 0) (by omega) (by decide) bad_nil
  have hu2 : (⟨[([111], la)], [], d⟩ : FR).up [111] lb = (3, ⟨[([111], la)], [], d + 2⟩) := by rw [up_have (by omega) (by omega) (by decide) bad_nil, if_neg hne]; rfl
  have HA := Lib.hid (fun (w : World) (p : Nat) (h : FOnH W w p FR.new (fun _ => True)) => fh_up_arg h (m := 100) ⟨by simp [FR.new], by simp [FR.new]⟩ (by omega) _ la h1 (by omega) 0 _ he)
  have HB := Lib.hid (fun (w : World) (p : Nat) (h : FOnH W w p ⟨[([111], la)], [], d⟩ (fun _ => True)) => fh_up_arg h (m := 100) (fz_one (by omega) (by omega)) (by omega) _ lb h2 (by omega) 3 _ hu2)
  have HC := Lib.hid (fun (w : World) (p : Nat) (h : FOnH W w p ⟨[([111], la)], [], d + 2⟩ (fun _ => True)) => fh_down h (m := 100) (fz_one (by omega) (by omega)) (by omega) ⟨#[111]⟩ (by decide) la 0 _ (gets_whole (by omega) (by decide) bad_nil))
  have HR1 := Lib.hid h1
  have HR2 := Lib.hid h2
  have g1 : ¬ (300 : Int) < (la.length : Int) := by omega
  have g2 : ¬ (300 : Int) < (lb.length : Int) := by omega
  have hn1 : (la == lb) = false := by simpa using hne
  clear h1 h2 he hu2
  go_enter Tryd.func5, Tryd.ntmps5
  go_wp2_with (first | (go_at_call 9; (with_reducible refine (HN.out).mono ?_); rintro e w0 ⟨p, rfl, h0⟩; have H0 := Lib.hid h0.h; clear h0) | (go_at_call 11; (with_reducible refine (HA.out _ _ H0.out).mono ?_); rintro e w1 ⟨rfl, h1⟩; have H1 := Lib.hid h1; clear h1) | (go_at_call 11; (with_reducible refine (HB.out _ _ H1.out).mono ?_); rintro e w2 ⟨rfl, h2⟩; have H2 := Lib.hid h2; clear h2) | (go_at_call 12; (with_reducible refine (HC.out _ _ H2.out).mono ?_); rintro e w3 ⟨xa, xc, rfl, h3⟩; have hc1 := rdB_convert (P := Tryd.prog) (HR1.out.below h3.be (Nat.le_refl _)) 22 5 9 Tryd.underlying22 Tryd.underlying5 Tryd.underlying9; have hc2 := rdB_convert (P := Tryd.prog) (HR2.out.below h3.be (Nat.le_refl _)) 22 5 9 Tryd.underlying22 Tryd.underlying5 Tryd.underlying9; have hc3 := rdB_convert (P := Tryd.prog) (h3.held.2) 22 5 9 Tryd.underlying22 Tryd.underlying5 Tryd.underlying9; have H3 := Lib.hid h3; clear h3) | (go_at_call 15; (with_reducible refine (num1_any _ _).mono ?_); rintro e w14 ⟨rfl, rfl⟩) | (go_at_call 8; (with_reducible refine (awake6_any _).mono ?_); rintro e w15 ⟨rfl, B15⟩))
  go_ret
  exact ⟨rfl, H3.out.be.trans (B15.mono H3.out.be.size)⟩

set_option maxRecDepth 100000 in
set_option maxHeartbeats 4000000 in
set_option linter.unusedSimpArgs false in
theorem clientOther_walk (v0 : Value) (l0 : List UInt8) (v1 : Value) (l1 : List UInt8) (W : World) (h0 : RdB W v0 l0) (h1 : RdB W v1 l1) :
    Calls Tryd.prog 5 #[v0, v1] W fun e w' => e = .returned (.bool true) ∧ Below W.heap.size W w' := by
  have k0 := h0
  have k1 := h1
  obtain ⟨a0, c0, rfl, _, _⟩ := RdB.form h0
  obtain ⟨a1, c1, rfl, _, _⟩ := RdB.form h1
  by_cases q0 : l0.length ≤ 300
  · by_cases q1 : l1.length ≤ 300
    · by_cases e : l0 = l1
      · subst e
        exact other_same a0 a1 c0 c1 l0 W k0 k1 q0
      · exact other_not a0 a1 c0 c1 l0 l1 W k0 k1 q0 q1 e
    · clear h0 h1 k0 k1
      go_enter Tryd.func5, Tryd.ntmps5
      go_wp2_with (go_at_call 8; (with_reducible refine (awake6_any _).mono ?_); rintro e w15 ⟨rfl, B15⟩)
      go_ret
      exact ⟨rfl, B15⟩
  · clear h0 h1 k0 k1
    go_enter Tryd.func5, Tryd.ntmps5
    go_wp2_with (go_at_call 8; (with_reducible refine (awake6_any _).mono ?_); rintro e w15 ⟨rfl, B15⟩)
    go_ret
    exact ⟨rfl, B15⟩

set_option maxRecDepth 100000 in
set_option maxHeartbeats 4000000 in
set_option linter.unusedSimpArgs false in
theorem gives_2 (va : Option Addr) (ca : Nat) (la : List UInt8) (W : World) (h1 : RdB W (.slice va la.length ca) la) (l1 : la.length ≤ 300) :
    Calls Tryd.prog 4 #[.slice va la.length ca, .bool true] W fun e w' => e = .returned (.bool true) ∧ Below W.heap.size W w' := by
  have HN := Lib.hid (fon_new W W (Below.refl _ _))
  have hq : ∀ (w : World) (a : Addr), (binOp .eql 24 (.pointer (some a)) (.pointer none)).run Tryd.prog w = .ok (.bool false) w := fun w a => by kernel_rfl
  have HA := Lib.hid (fun (w : World) (p : Nat) (h : FOnH W w p FR.new (fun _ => True)) => (fh_next (h.below (w' := w.alloc (.cells #[.int .i64 2, .int .i64 2, .int .i64 2, .int .i64 2] 3)) ((Below.refl _ _).alloc (Nat.le_refl _) _)) (.slice (some ⟨w.heap.size, 0, none⟩) 4 4) [2, 2, 2, 2] (rd_row w [2, 2, 2, 2] (by decide)) (by decide)))
  have HB := Lib.hid (fun (w : World) (p : Nat) (h : FOnH W w p (FR.new.next [2, 2, 2, 2]) (fun _ => True)) => fh_up_arg h (m := 100) ⟨by simp [FR.next, FR.new], by simp [FR.next, FR.new]⟩ (by omega) _ la h1 (by omega) 8 _ (up_lies (by omega)))
  have HC := Lib.hid (fun (w : World) (p : Nat) (h : FOnH W w p ⟨[([111], la)], [], 4⟩ (fun _ => True)) => fh_calls h 4 rfl)
  have HD := Lib.hid (fun (w : World) (p : Nat) (h : FOnH W w p ⟨[([111], la)], [], 4⟩ (fun _ => True)) => fh_objs h (by simp) (fun x hx => by simp at hx; subst hx; simp) 1 rfl)
  have HE := Lib.hid (fun (w : World) (p : Nat) (h : FOnH W w p ⟨[([111], la)], [], 4⟩ (fun _ => True)) => (fh_next (h.below (w' := w.alloc (.cells #[.int .i64 2, .int .i64 2, .int .i64 2, .int .i64 2, .int .i64 0] 3)) ((Below.refl _ _).alloc (Nat.le_refl _) _)) (.slice (some ⟨w.heap.size, 0, none⟩) 5 5) [2, 2, 2, 2, 0] (rd_row w [2, 2, 2, 2, 0] (by decide)) (by decide)))
  have HF := Lib.hid (fun (w : World) (p : Nat) (h : FOnH W w p (FR.next ⟨[([111], la)], [], 4⟩ [2, 2, 2, 2, 0]) (fun _ => True)) => fh_down h (m := 100) ⟨by simp [FR.next], by simp [FR.next]⟩ (by omega) ⟨#[111]⟩ (by decide) [] 8 ⟨[([111], la)], [0], 8⟩ (gets_given (x := 2) rfl (by decide)))
  have HG := Lib.hid (fun (w : World) (p : Nat) (P : World → Prop) (h : FOnH W w p ⟨[([111], la)], [0], 8⟩ P) => fh_left h 1 rfl)
  have HR1 := Lib.hid h1
  have g1 : ¬ (300 : Int) < (la.length : Int) := by omega
  clear h1
  go_enter Tryd.func4, Tryd.ntmps4
  go_wp2_with (first | (go_at_call 9; (with_reducible refine (HN.out).mono ?_); rintro e w0 ⟨p, rfl, h0⟩; have H0 := Lib.hid h0.h; clear h0) | (go_at_call 10; (with_reducible refine (HA.out _ _ H0.out).mono ?_); rintro e w1 ⟨rfl, h1⟩; have H1 := Lib.hid h1; clear h1) | (go_at_call 11; (with_reducible refine (HB.out _ _ H1.out).mono ?_); rintro e w2 ⟨rfl, h2⟩; have H2 := Lib.hid h2; clear h2) | (go_at_call 17; (with_reducible refine (HC.out _ _ H2.out).mono ?_); rintro e w3 ⟨rfl, rfl⟩) | (go_at_call 16; (with_reducible refine (HD.out _ _ H2.out).mono ?_); rintro e w4 ⟨xa, xc, rfl, k4, h4⟩; have K4 := Lib.hid k4; have H4 := Lib.hid h4; clear h4; clear k4))
  obtain ⟨wd, hwd⟩ : ∃ wd, wd = w4.drew := ⟨_, rfl⟩
  have HBD := Lib.hid (show Below w4.heap.size w4 wd by rw [hwd]; exact (Below.refl _ _).drew)
  have Hwd := Lib.hid hwd
  clear hwd
  have H4D := Lib.hid (H4.out.below HBD.out)
  obtain ⟨bo, oo, hxo, hbo, hxb, hxc⟩ : ∃ b o, xa = some ⟨b, o, none⟩ ∧ b < wd.heap.size ∧ wd.cell? ⟨b, o, none⟩ = some (.string (strB [111])) ∧ wd.cell? ⟨b, o + 1, none⟩ = some (.string (strB la)) := by
    have k4 := K4.out
    obtain ⟨_, _, hq1, _, _, _, q4⟩ := k4
    cases hq1
    rcases q4 with ⟨h0, _⟩ | ⟨b, o, rfl, q5, q6⟩
    · exact absurd h0 (by decide)
    · exact ⟨b, o, rfl, Nat.lt_of_lt_of_le q5 HBD.out.size, (HBD.out.cell (p := ⟨b, o, none⟩) q5).trans (q6 0 _ rfl), (HBD.out.cell (p := ⟨b, o + 1, none⟩) q5).trans (q6 1 _ rfl)⟩
  subst hxo
  have HXB := Lib.hid hxb
  have HXC := Lib.hid hxc
  have HBO := Lib.hid hbo
  clear hxb hxc hbo
  refine wp_region_two (fun wz => Below wd.heap.size wd wz) (fun wz => Below wd.heap.size wd wz) [(0, 0), (2, 1), (0, 2), (0, 3), (0, 4), (0, 5), (0, 6), (0, 7), (0, 8), (0, 9), (0, 10), (0, 11), (0, 12), (0, 13), (0, 14), (0, 15), (0, 16), (0, 17), (0, 18), (0, 19), (0, 20), (0, 21), (0, 22), (0, 23), (0, 24), (0, 25), (0, 26), (0, 27), (0, 28), (0, 29), (0, 30), (0, 31), (0, 32)] [] (by kernel_rfl) (by kernel_rfl) (by kernel_rfl) (by kernel_rfl) (by kernel_rfl) (by rw [← Hwd.out]; exact Below.refl _ _) (by rw [← Hwd.out]; exact Below.refl _ _) ?_
  simp only [planT, List.drop_succ_cons, List.drop_zero]
  rw [← Hwd.out]
  refine PlanT.take0 (v := ?vG20) (by kernel_rfl) ?yG20 ?rG20
  case yG20 => (intro wz hz; have hc1 := rdB_convert (P := Tryd.prog) (HR1.out.below (H4D.out.below hz).be (Nat.le_refl _)) 22 5 9 Tryd.underlying22 Tryd.underlying5 Tryd.underlying9; have d1 := (hz.cell (p := ⟨bo, oo, none⟩) HBO.out).trans HXB.out; have d2 := (hz.cell (p := ⟨bo, oo + 1, none⟩) HBO.out).trans HXC.out; clear hz; go_simp; try with_reducible rfl)
  (try simp only [Act.put, List.setIfInBounds_toArray, List.set_cons_zero, List.set_cons_succ])
  refine PlanT.exec2 (fun K hK => ⟨by kernel_rfl, ?_⟩)
  go_simp
  refine (num1_any _ _).mono ?_
  rintro e w3 ⟨rfl, rfl⟩
  refine hK.out _ _ (Below.refl _ _) (Below.refl _ _) ?_
  clear hK K
  (try simp only [Act.put, List.setIfInBounds_toArray, List.set_cons_zero, List.set_cons_succ])
  refine PlanT.take0 (v := ?vG22) (by kernel_rfl) ?yG22 ?rG22
  case yG22 => (intro wz hz; have hc1 := rdB_convert (P := Tryd.prog) (HR1.out.below (H4D.out.below hz).be (Nat.le_refl _)) 22 5 9 Tryd.underlying22 Tryd.underlying5 Tryd.underlying9; have d1 := (hz.cell (p := ⟨bo, oo, none⟩) HBO.out).trans HXB.out; have d2 := (hz.cell (p := ⟨bo, oo + 1, none⟩) HBO.out).trans HXC.out; clear hz; go_simp; try with_reducible rfl)
  (try simp only [Act.put, List.setIfInBounds_toArray, List.set_cons_zero, List.set_cons_succ])
  refine PlanT.take0 (v := ?vG23) (by kernel_rfl) ?yG23 ?rG23
  case yG23 => (intro wz hz; have hc1 := rdB_convert (P := Tryd.prog) (HR1.out.below (H4D.out.below hz).be (Nat.le_refl _)) 22 5 9 Tryd.underlying22 Tryd.underlying5 Tryd.underlying9; have d1 := (hz.cell (p := ⟨bo, oo, none⟩) HBO.out).trans HXB.out; have d2 := (hz.cell (p := ⟨bo, oo + 1, none⟩) HBO.out).trans HXC.out; clear hz; go_simp; try with_reducible rfl)
  (try simp only [Act.put, List.setIfInBounds_toArray, List.set_cons_zero, List.set_cons_succ])
  refine PlanT.take0 (v := ?vG24) (by kernel_rfl) ?yG24 ?rG24
  case yG24 => (intro wz hz; have hc1 := rdB_convert (P := Tryd.prog) (HR1.out.below (H4D.out.below hz).be (Nat.le_refl _)) 22 5 9 Tryd.underlying22 Tryd.underlying5 Tryd.underlying9; have d1 := (hz.cell (p := ⟨bo, oo, none⟩) HBO.out).trans HXB.out; have d2 := (hz.cell (p := ⟨bo, oo + 1, none⟩) HBO.out).trans HXC.out; clear hz; go_simp; try with_reducible rfl)
  (try simp only [Act.put, List.setIfInBounds_toArray, List.set_cons_zero, List.set_cons_succ])
  refine PlanT.take0 (v := ?vG25) (by kernel_rfl) ?yG25 ?rG25
  case yG25 => (intro wz hz; have hc1 := rdB_convert (P := Tryd.prog) (HR1.out.below (H4D.out.below hz).be (Nat.le_refl _)) 22 5 9 Tryd.underlying22 Tryd.underlying5 Tryd.underlying9; have d1 := (hz.cell (p := ⟨bo, oo, none⟩) HBO.out).trans HXB.out; have d2 := (hz.cell (p := ⟨bo, oo + 1, none⟩) HBO.out).trans HXC.out; clear hz; go_simp; try with_reducible rfl)
  (try simp only [Act.put, List.setIfInBounds_toArray, List.set_cons_zero, List.set_cons_succ])
  refine PlanT.take0 (v := ?vG26) (by kernel_rfl) ?yG26 ?rG26
  case yG26 => (intro wz hz; have hc1 := rdB_convert (P := Tryd.prog) (HR1.out.below (H4D.out.below hz).be (Nat.le_refl _)) 22 5 9 Tryd.underlying22 Tryd.underlying5 Tryd.underlying9; have d1 := (hz.cell (p := ⟨bo, oo, none⟩) HBO.out).trans HXB.out; have d2 := (hz.cell (p := ⟨bo, oo + 1, none⟩) HBO.out).trans HXC.out; clear hz; go_simp; try with_reducible rfl)
  (try simp only [Act.put, List.setIfInBounds_toArray, List.set_cons_zero, List.set_cons_succ])
  refine PlanT.take0 (v := ?vG27) (by kernel_rfl) ?yG27 ?rG27
  case yG27 => (intro wz hz; have hc1 := rdB_convert (P := Tryd.prog) (HR1.out.below (H4D.out.below hz).be (Nat.le_refl _)) 22 5 9 Tryd.underlying22 Tryd.underlying5 Tryd.underlying9; have d1 := (hz.cell (p := ⟨bo, oo, none⟩) HBO.out).trans HXB.out; have d2 := (hz.cell (p := ⟨bo, oo + 1, none⟩) HBO.out).trans HXC.out; clear hz; go_simp; try with_reducible rfl)
  (try simp only [Act.put, List.setIfInBounds_toArray, List.set_cons_zero, List.set_cons_succ])
  refine PlanT.take0 (v := ?vG28) (by kernel_rfl) ?yG28 ?rG28
  case yG28 => (intro wz hz; have hc1 := rdB_convert (P := Tryd.prog) (HR1.out.below (H4D.out.below hz).be (Nat.le_refl _)) 22 5 9 Tryd.underlying22 Tryd.underlying5 Tryd.underlying9; have d1 := (hz.cell (p := ⟨bo, oo, none⟩) HBO.out).trans HXB.out; have d2 := (hz.cell (p := ⟨bo, oo + 1, none⟩) HBO.out).trans HXC.out; clear hz; go_simp; try with_reducible rfl)
  (try simp only [Act.put, List.setIfInBounds_toArray, List.set_cons_zero, List.set_cons_succ])
  refine PlanT.take0 (v := ?vG29) (by kernel_rfl) ?yG29 ?rG29
  case yG29 => (intro wz hz; have hc1 := rdB_convert (P := Tryd.prog) (HR1.out.below (H4D.out.below hz).be (Nat.le_refl _)) 22 5 9 Tryd.underlying22 Tryd.underlying5 Tryd.underlying9; have d1 := (hz.cell (p := ⟨bo, oo, none⟩) HBO.out).trans HXB.out; have d2 := (hz.cell (p := ⟨bo, oo + 1, none⟩) HBO.out).trans HXC.out; clear hz; go_simp; try with_reducible rfl)
  (try simp only [Act.put, List.setIfInBounds_toArray, List.set_cons_zero, List.set_cons_succ])
  refine PlanT.take0 (v := ?vG210) (by kernel_rfl) ?yG210 ?rG210
  case yG210 => (intro wz hz; have hc1 := rdB_convert (P := Tryd.prog) (HR1.out.below (H4D.out.below hz).be (Nat.le_refl _)) 22 5 9 Tryd.underlying22 Tryd.underlying5 Tryd.underlying9; have d1 := (hz.cell (p := ⟨bo, oo, none⟩) HBO.out).trans HXB.out; have d2 := (hz.cell (p := ⟨bo, oo + 1, none⟩) HBO.out).trans HXC.out; clear hz; go_simp; try with_reducible rfl)
  (try simp only [Act.put, List.setIfInBounds_toArray, List.set_cons_zero, List.set_cons_succ])
  refine PlanT.take0 (v := ?vG211) (by kernel_rfl) ?yG211 ?rG211
  case yG211 => (intro wz hz; have hc1 := rdB_convert (P := Tryd.prog) (HR1.out.below (H4D.out.below hz).be (Nat.le_refl _)) 22 5 9 Tryd.underlying22 Tryd.underlying5 Tryd.underlying9; have d1 := (hz.cell (p := ⟨bo, oo, none⟩) HBO.out).trans HXB.out; have d2 := (hz.cell (p := ⟨bo, oo + 1, none⟩) HBO.out).trans HXC.out; clear hz; go_simp; try with_reducible rfl)
  (try simp only [Act.put, List.setIfInBounds_toArray, List.set_cons_zero, List.set_cons_succ])
  refine PlanT.take0 (v := ?vG212) (by kernel_rfl) ?yG212 ?rG212
  case yG212 => (intro wz hz; have hc1 := rdB_convert (P := Tryd.prog) (HR1.out.below (H4D.out.below hz).be (Nat.le_refl _)) 22 5 9 Tryd.underlying22 Tryd.underlying5 Tryd.underlying9; have d1 := (hz.cell (p := ⟨bo, oo, none⟩) HBO.out).trans HXB.out; have d2 := (hz.cell (p := ⟨bo, oo + 1, none⟩) HBO.out).trans HXC.out; clear hz; go_simp; try with_reducible rfl)
  (try simp only [Act.put, List.setIfInBounds_toArray, List.set_cons_zero, List.set_cons_succ])
  refine PlanT.take0 (v := ?vG213) (by kernel_rfl) ?yG213 ?rG213
  case yG213 => (intro wz hz; have hc1 := rdB_convert (P := Tryd.prog) (HR1.out.below (H4D.out.below hz).be (Nat.le_refl _)) 22 5 9 Tryd.underlying22 Tryd.underlying5 Tryd.underlying9; have d1 := (hz.cell (p := ⟨bo, oo, none⟩) HBO.out).trans HXB.out; have d2 := (hz.cell (p := ⟨bo, oo + 1, none⟩) HBO.out).trans HXC.out; clear hz; go_simp; try with_reducible rfl)
  (try simp only [Act.put, List.setIfInBounds_toArray, List.set_cons_zero, List.set_cons_succ])
  refine PlanT.take0 (v := ?vG214) (by kernel_rfl) ?yG214 ?rG214
  case yG214 => (intro wz hz; have hc1 := rdB_convert (P := Tryd.prog) (HR1.out.below (H4D.out.below hz).be (Nat.le_refl _)) 22 5 9 Tryd.underlying22 Tryd.underlying5 Tryd.underlying9; have d1 := (hz.cell (p := ⟨bo, oo, none⟩) HBO.out).trans HXB.out; have d2 := (hz.cell (p := ⟨bo, oo + 1, none⟩) HBO.out).trans HXC.out; clear hz; go_simp; try with_reducible rfl)
  (try simp only [Act.put, List.setIfInBounds_toArray, List.set_cons_zero, List.set_cons_succ])
  refine PlanT.take0 (v := ?vG215) (by kernel_rfl) ?yG215 ?rG215
  case yG215 => (intro wz hz; have hc1 := rdB_convert (P := Tryd.prog) (HR1.out.below (H4D.out.below hz).be (Nat.le_refl _)) 22 5 9 Tryd.underlying22 Tryd.underlying5 Tryd.underlying9; have d1 := (hz.cell (p := ⟨bo, oo, none⟩) HBO.out).trans HXB.out; have d2 := (hz.cell (p := ⟨bo, oo + 1, none⟩) HBO.out).trans HXC.out; clear hz; go_simp; try with_reducible rfl)
  (try simp only [Act.put, List.setIfInBounds_toArray, List.set_cons_zero, List.set_cons_succ])
  refine PlanT.take0 (v := ?vG216) (by kernel_rfl) ?yG216 ?rG216
  case yG216 => (intro wz hz; have hc1 := rdB_convert (P := Tryd.prog) (HR1.out.below (H4D.out.below hz).be (Nat.le_refl _)) 22 5 9 Tryd.underlying22 Tryd.underlying5 Tryd.underlying9; have d1 := (hz.cell (p := ⟨bo, oo, none⟩) HBO.out).trans HXB.out; have d2 := (hz.cell (p := ⟨bo, oo + 1, none⟩) HBO.out).trans HXC.out; clear hz; go_simp; try with_reducible rfl)
  (try simp only [Act.put, List.setIfInBounds_toArray, List.set_cons_zero, List.set_cons_succ])
  refine PlanT.take0 (v := ?vG217) (by kernel_rfl) ?yG217 ?rG217
  case yG217 => (intro wz hz; have hc1 := rdB_convert (P := Tryd.prog) (HR1.out.below (H4D.out.below hz).be (Nat.le_refl _)) 22 5 9 Tryd.underlying22 Tryd.underlying5 Tryd.underlying9; have d1 := (hz.cell (p := ⟨bo, oo, none⟩) HBO.out).trans HXB.out; have d2 := (hz.cell (p := ⟨bo, oo + 1, none⟩) HBO.out).trans HXC.out; clear hz; go_simp; try with_reducible rfl)
  (try simp only [Act.put, List.setIfInBounds_toArray, List.set_cons_zero, List.set_cons_succ])
  refine PlanT.take0 (v := ?vG218) (by kernel_rfl) ?yG218 ?rG218
  case yG218 => (intro wz hz; have hc1 := rdB_convert (P := Tryd.prog) (HR1.out.below (H4D.out.below hz).be (Nat.le_refl _)) 22 5 9 Tryd.underlying22 Tryd.underlying5 Tryd.underlying9; have d1 := (hz.cell (p := ⟨bo, oo, none⟩) HBO.out).trans HXB.out; have d2 := (hz.cell (p := ⟨bo, oo + 1, none⟩) HBO.out).trans HXC.out; clear hz; go_simp; try with_reducible rfl)
  (try simp only [Act.put, List.setIfInBounds_toArray, List.set_cons_zero, List.set_cons_succ])
  refine PlanT.take0 (v := ?vG219) (by kernel_rfl) ?yG219 ?rG219
  case yG219 => (intro wz hz; have hc1 := rdB_convert (P := Tryd.prog) (HR1.out.below (H4D.out.below hz).be (Nat.le_refl _)) 22 5 9 Tryd.underlying22 Tryd.underlying5 Tryd.underlying9; have d1 := (hz.cell (p := ⟨bo, oo, none⟩) HBO.out).trans HXB.out; have d2 := (hz.cell (p := ⟨bo, oo + 1, none⟩) HBO.out).trans HXC.out; clear hz; go_simp; try with_reducible rfl)
  (try simp only [Act.put, List.setIfInBounds_toArray, List.set_cons_zero, List.set_cons_succ])
  refine PlanT.take0 (v := ?vG220) (by kernel_rfl) ?yG220 ?rG220
  case yG220 => (intro wz hz; have hc1 := rdB_convert (P := Tryd.prog) (HR1.out.below (H4D.out.below hz).be (Nat.le_refl _)) 22 5 9 Tryd.underlying22 Tryd.underlying5 Tryd.underlying9; have d1 := (hz.cell (p := ⟨bo, oo, none⟩) HBO.out).trans HXB.out; have d2 := (hz.cell (p := ⟨bo, oo + 1, none⟩) HBO.out).trans HXC.out; clear hz; go_simp; try with_reducible rfl)
  (try simp only [Act.put, List.setIfInBounds_toArray, List.set_cons_zero, List.set_cons_succ])
  refine PlanT.take0 (v := ?vG221) (by kernel_rfl) ?yG221 ?rG221
  case yG221 => (intro wz hz; have hc1 := rdB_convert (P := Tryd.prog) (HR1.out.below (H4D.out.below hz).be (Nat.le_refl _)) 22 5 9 Tryd.underlying22 Tryd.underlying5 Tryd.underlying9; have d1 := (hz.cell (p := ⟨bo, oo, none⟩) HBO.out).trans HXB.out; have d2 := (hz.cell (p := ⟨bo, oo + 1, none⟩) HBO.out).trans HXC.out; clear hz; go_simp; try with_reducible rfl)
  (try simp only [Act.put, List.setIfInBounds_toArray, List.set_cons_zero, List.set_cons_succ])
  refine PlanT.take0 (v := ?vG222) (by kernel_rfl) ?yG222 ?rG222
  case yG222 => (intro wz hz; have hc1 := rdB_convert (P := Tryd.prog) (HR1.out.below (H4D.out.below hz).be (Nat.le_refl _)) 22 5 9 Tryd.underlying22 Tryd.underlying5 Tryd.underlying9; have d1 := (hz.cell (p := ⟨bo, oo, none⟩) HBO.out).trans HXB.out; have d2 := (hz.cell (p := ⟨bo, oo + 1, none⟩) HBO.out).trans HXC.out; clear hz; go_simp; try with_reducible rfl)
  (try simp only [Act.put, List.setIfInBounds_toArray, List.set_cons_zero, List.set_cons_succ])
  refine PlanT.take0 (v := ?vG223) (by kernel_rfl) ?yG223 ?rG223
  case yG223 => (intro wz hz; have hc1 := rdB_convert (P := Tryd.prog) (HR1.out.below (H4D.out.below hz).be (Nat.le_refl _)) 22 5 9 Tryd.underlying22 Tryd.underlying5 Tryd.underlying9; have d1 := (hz.cell (p := ⟨bo, oo, none⟩) HBO.out).trans HXB.out; have d2 := (hz.cell (p := ⟨bo, oo + 1, none⟩) HBO.out).trans HXC.out; clear hz; go_simp; try with_reducible rfl)
  (try simp only [Act.put, List.setIfInBounds_toArray, List.set_cons_zero, List.set_cons_succ])
  refine PlanT.take0 (v := ?vG224) (by kernel_rfl) ?yG224 ?rG224
  case yG224 => (intro wz hz; have hc1 := rdB_convert (P := Tryd.prog) (HR1.out.below (H4D.out.below hz).be (Nat.le_refl _)) 22 5 9 Tryd.underlying22 Tryd.underlying5 Tryd.underlying9; have d1 := (hz.cell (p := ⟨bo, oo, none⟩) HBO.out).trans HXB.out; have d2 := (hz.cell (p := ⟨bo, oo + 1, none⟩) HBO.out).trans HXC.out; clear hz; go_simp; try with_reducible rfl)
  (try simp only [Act.put, List.setIfInBounds_toArray, List.set_cons_zero, List.set_cons_succ])
  refine PlanT.take0 (v := ?vG225) (by kernel_rfl) ?yG225 ?rG225
  case yG225 => (intro wz hz; have hc1 := rdB_convert (P := Tryd.prog) (HR1.out.below (H4D.out.below hz).be (Nat.le_refl _)) 22 5 9 Tryd.underlying22 Tryd.underlying5 Tryd.underlying9; have d1 := (hz.cell (p := ⟨bo, oo, none⟩) HBO.out).trans HXB.out; have d2 := (hz.cell (p := ⟨bo, oo + 1, none⟩) HBO.out).trans HXC.out; clear hz; go_simp; try with_reducible rfl)
  (try simp only [Act.put, List.setIfInBounds_toArray, List.set_cons_zero, List.set_cons_succ])
  refine PlanT.take0 (v := ?vG226) (by kernel_rfl) ?yG226 ?rG226
  case yG226 => (intro wz hz; have hc1 := rdB_convert (P := Tryd.prog) (HR1.out.below (H4D.out.below hz).be (Nat.le_refl _)) 22 5 9 Tryd.underlying22 Tryd.underlying5 Tryd.underlying9; have d1 := (hz.cell (p := ⟨bo, oo, none⟩) HBO.out).trans HXB.out; have d2 := (hz.cell (p := ⟨bo, oo + 1, none⟩) HBO.out).trans HXC.out; clear hz; go_simp; try with_reducible rfl)
  (try simp only [Act.put, List.setIfInBounds_toArray, List.set_cons_zero, List.set_cons_succ])
  refine PlanT.take0 (v := ?vG227) (by kernel_rfl) ?yG227 ?rG227
  case yG227 => (intro wz hz; have hc1 := rdB_convert (P := Tryd.prog) (HR1.out.below (H4D.out.below hz).be (Nat.le_refl _)) 22 5 9 Tryd.underlying22 Tryd.underlying5 Tryd.underlying9; have d1 := (hz.cell (p := ⟨bo, oo, none⟩) HBO.out).trans HXB.out; have d2 := (hz.cell (p := ⟨bo, oo + 1, none⟩) HBO.out).trans HXC.out; clear hz; go_simp; try with_reducible rfl)
  (try simp only [Act.put, List.setIfInBounds_toArray, List.set_cons_zero, List.set_cons_succ])
  refine PlanT.take0 (v := ?vG228) (by kernel_rfl) ?yG228 ?rG228
  case yG228 => (intro wz hz; have hc1 := rdB_convert (P := Tryd.prog) (HR1.out.below (H4D.out.below hz).be (Nat.le_refl _)) 22 5 9 Tryd.underlying22 Tryd.underlying5 Tryd.underlying9; have d1 := (hz.cell (p := ⟨bo, oo, none⟩) HBO.out).trans HXB.out; have d2 := (hz.cell (p := ⟨bo, oo + 1, none⟩) HBO.out).trans HXC.out; clear hz; go_simp; try with_reducible rfl)
  (try simp only [Act.put, List.setIfInBounds_toArray, List.set_cons_zero, List.set_cons_succ])
  refine PlanT.take0 (v := ?vG229) (by kernel_rfl) ?yG229 ?rG229
  case yG229 => (intro wz hz; have hc1 := rdB_convert (P := Tryd.prog) (HR1.out.below (H4D.out.below hz).be (Nat.le_refl _)) 22 5 9 Tryd.underlying22 Tryd.underlying5 Tryd.underlying9; have d1 := (hz.cell (p := ⟨bo, oo, none⟩) HBO.out).trans HXB.out; have d2 := (hz.cell (p := ⟨bo, oo + 1, none⟩) HBO.out).trans HXC.out; clear hz; go_simp; try with_reducible rfl)
  (try simp only [Act.put, List.setIfInBounds_toArray, List.set_cons_zero, List.set_cons_succ])
  refine PlanT.take0 (v := ?vG230) (by kernel_rfl) ?yG230 ?rG230
  case yG230 => (intro wz hz; have hc1 := rdB_convert (P := Tryd.prog) (HR1.out.below (H4D.out.below hz).be (Nat.le_refl _)) 22 5 9 Tryd.underlying22 Tryd.underlying5 Tryd.underlying9; have d1 := (hz.cell (p := ⟨bo, oo, none⟩) HBO.out).trans HXB.out; have d2 := (hz.cell (p := ⟨bo, oo + 1, none⟩) HBO.out).trans HXC.out; clear hz; go_simp; try with_reducible rfl)
  (try simp only [Act.put, List.setIfInBounds_toArray, List.set_cons_zero, List.set_cons_succ])
  refine PlanT.take0 (v := ?vG231) (by kernel_rfl) ?yG231 ?rG231
  case yG231 => (intro wz hz; have hc1 := rdB_convert (P := Tryd.prog) (HR1.out.below (H4D.out.below hz).be (Nat.le_refl _)) 22 5 9 Tryd.underlying22 Tryd.underlying5 Tryd.underlying9; have d1 := (hz.cell (p := ⟨bo, oo, none⟩) HBO.out).trans HXB.out; have d2 := (hz.cell (p := ⟨bo, oo + 1, none⟩) HBO.out).trans HXC.out; clear hz; go_simp; try with_reducible rfl)
  (try simp only [Act.put, List.setIfInBounds_toArray, List.set_cons_zero, List.set_cons_succ])
  refine PlanT.take0 (v := ?vG232) (by kernel_rfl) ?yG232 ?rG232
  case yG232 => (intro wz hz; have hc1 := rdB_convert (P := Tryd.prog) (HR1.out.below (H4D.out.below hz).be (Nat.le_refl _)) 22 5 9 Tryd.underlying22 Tryd.underlying5 Tryd.underlying9; have d1 := (hz.cell (p := ⟨bo, oo, none⟩) HBO.out).trans HXB.out; have d2 := (hz.cell (p := ⟨bo, oo + 1, none⟩) HBO.out).trans HXC.out; clear hz; go_simp; try with_reducible rfl)
  (try simp only [Act.put, List.setIfInBounds_toArray, List.set_cons_zero, List.set_cons_succ])
  refine PlanT.done (NoPanic.normal ?_)
  go_wp2_with (first | (go_at_call 10; (with_reducible refine (HE.out _ _ H4D.out).mono ?_); rintro e w5 ⟨rfl, h5⟩; have H5 := Lib.hid h5; clear h5) | (go_at_call 12; (with_reducible refine (HF.out _ _ H5.out).mono ?_); rintro e w6 ⟨ya, yc, rfl, h6⟩; have H6 := Lib.hid h6; clear h6) | (go_at_call 18; (with_reducible refine (HG.out _ _ _ H6.out).mono ?_); rintro e w7 ⟨rfl, rfl⟩) | (go_at_call 15; (with_reducible refine (num1_any _ _).mono ?_); rintro e w14 ⟨rfl, rfl⟩) | (go_at_call 8; (with_reducible refine (awake6_any _).mono ?_); rintro e w15 ⟨rfl, B15⟩))
  go_ret
  exact ⟨rfl, H6.out.be.trans (B15.mono H6.out.be.size)⟩

set_option maxRecDepth 100000 in
set_option maxHeartbeats 4000000 in
set_option linter.unusedSimpArgs false in
theorem gives_1 (va : Option Addr) (ca : Nat) (la : List UInt8) (W : World) (h1 : RdB W (.slice va la.length ca) la) (l1 : la.length ≤ 300) :
    Calls Tryd.prog 4 #[.slice va la.length ca, .bool false] W fun e w' => e = .returned (.bool true) ∧ Below W.heap.size W w' := by
  have HN := Lib.hid (fon_new W W (Below.refl _ _))
  have hq : ∀ (w : World) (a : Addr), (binOp .eql 24 (.pointer (some a)) (.pointer none)).run Tryd.prog w = .ok (.bool false) w := fun w a => by kernel_rfl
  have HA := Lib.hid (fun (w : World) (p : Nat) (h : FOnH W w p FR.new (fun _ => True)) => (fh_next (h.below (w' := w.alloc (.cells #[.int .i64 1, .int .i64 1, .int .i64 1, .int .i64 1] 3)) ((Below.refl _ _).alloc (Nat.le_refl _) _)) (.slice (some ⟨w.heap.size, 0, none⟩) 4 4) [1, 1, 1, 1] (rd_row w [1, 1, 1, 1] (by decide)) (by decide)))
  have HB := Lib.hid (fun (w : World) (p : Nat) (h : FOnH W w p (FR.new.next [1, 1, 1, 1]) (fun _ => True)) => fh_up_arg h (m := 100) ⟨by simp [FR.next, FR.new], by simp [FR.next, FR.new]⟩ (by omega) _ la h1 (by omega) 8 _ (up_fails (by omega)))
  have HC := Lib.hid (fun (w : World) (p : Nat) (h : FOnH W w p ⟨[], [], 4⟩ (fun _ => True)) => fh_calls h 4 rfl)
  have HD := Lib.hid (fun (w : World) (p : Nat) (h : FOnH W w p ⟨[], [], 4⟩ (fun _ => True)) => fh_objs h (by simp) (fun x hx => by simp at hx) 0 rfl)
  have HE := Lib.hid (fun (w : World) (p : Nat) (h : FOnH W w p ⟨[], [], 4⟩ (fun _ => True)) => (fh_next (h.below (w' := w.alloc (.cells #[.int .i64 1, .int .i64 1, .int .i64 1, .int .i64 1, .int .i64 0] 3)) ((Below.refl _ _).alloc (Nat.le_refl _) _)) (.slice (some ⟨w.heap.size, 0, none⟩) 5 5) [1, 1, 1, 1, 0] (rd_row w [1, 1, 1, 1, 0] (by decide)) (by decide)))
  have HF := Lib.hid (fun (w : World) (p : Nat) (h : FOnH W w p (FR.next ⟨[], [], 4⟩ [1, 1, 1, 1, 0]) (fun _ => True)) => fh_down h (m := 100) ⟨by simp [FR.next], by simp [FR.next]⟩ (by omega) ⟨#[111]⟩ (by decide) [] 8 ⟨[], [0], 8⟩ (gets_given (x := 1) rfl (by decide)))
  have HG := Lib.hid (fun (w : World) (p : Nat) (P : World → Prop) (h : FOnH W w p ⟨[], [0], 8⟩ P) => fh_left h 1 rfl)
  have HR1 := Lib.hid h1
  have g1 : ¬ (300 : Int) < (la.length : Int) := by omega
  clear h1
  go_enter Tryd.func4, Tryd.ntmps4
  go_wp2_with (first | (go_at_call 9; (with_reducible refine (HN.out).mono ?_); rintro e w0 ⟨p, rfl, h0⟩; have H0 := Lib.hid h0.h; clear h0) | (go_at_call 10; (with_reducible refine (HA.out _ _ H0.out).mono ?_); rintro e w1 ⟨rfl, h1⟩; have H1 := Lib.hid h1; clear h1) | (go_at_call 11; (with_reducible refine (HB.out _ _ H1.out).mono ?_); rintro e w2 ⟨rfl, h2⟩; have H2 := Lib.hid h2; clear h2) | (go_at_call 17; (with_reducible refine (HC.out _ _ H2.out).mono ?_); rintro e w3 ⟨rfl, rfl⟩) | (go_at_call 16; (with_reducible refine (HD.out _ _ H2.out).mono ?_); rintro e w4 ⟨xa, xc, rfl, k4, h4⟩; have K4 := Lib.hid k4; have H4 := Lib.hid h4; clear h4; clear k4))
  obtain ⟨wd, hwd⟩ : ∃ wd, wd = w4.drew := ⟨_, rfl⟩
  have HBD := Lib.hid (show Below w4.heap.size w4 wd by rw [hwd]; exact (Below.refl _ _).drew)
  have Hwd := Lib.hid hwd
  clear hwd
  have H4D := Lib.hid (H4.out.below HBD.out)
  refine wp_region_two (fun wz => Below wd.heap.size wd wz) (fun wz => Below wd.heap.size wd wz) [(0, 0), (2, 1), (0, 2), (0, 3), (0, 4), (0, 5), (0, 6), (0, 7), (0, 8), (0, 9), (0, 10), (0, 11), (0, 12), (0, 13), (0, 14), (0, 15), (0, 16), (0, 17), (0, 18), (0, 19), (0, 20), (0, 21), (0, 22), (0, 23), (0, 24), (0, 25), (0, 26), (0, 27), (0, 28), (0, 29), (0, 30), (0, 31), (0, 32)] [] (by kernel_rfl) (by kernel_rfl) (by kernel_rfl) (by kernel_rfl) (by kernel_rfl) (by rw [← Hwd.out]; exact Below.refl _ _) (by rw [← Hwd.out]; exact Below.refl _ _) ?_
  simp only [planT, List.drop_succ_cons, List.drop_zero]
  rw [← Hwd.out]
  refine PlanT.take0 (v := ?vG10) (by kernel_rfl) ?yG10 ?rG10
  case yG10 => (intro wz hz; have hc1 := rdB_convert (P := Tryd.prog) (HR1.out.below (H4D.out.below hz).be (Nat.le_refl _)) 22 5 9 Tryd.underlying22 Tryd.underlying5 Tryd.underlying9; clear hz; go_simp; try with_reducible rfl)
  (try simp only [Act.put, List.setIfInBounds_toArray, List.set_cons_zero, List.set_cons_succ])
  refine PlanT.exec2 (fun K hK => ⟨by kernel_rfl, ?_⟩)
  go_simp
  refine (num1_any _ _).mono ?_
  rintro e w3 ⟨rfl, rfl⟩
  refine hK.out _ _ (Below.refl _ _) (Below.refl _ _) ?_
  clear hK K
  (try simp only [Act.put, List.setIfInBounds_toArray, List.set_cons_zero, List.set_cons_succ])
  refine PlanT.take0 (v := ?vG12) (by kernel_rfl) ?yG12 ?rG12
  case yG12 => (intro wz hz; have hc1 := rdB_convert (P := Tryd.prog) (HR1.out.below (H4D.out.below hz).be (Nat.le_refl _)) 22 5 9 Tryd.underlying22 Tryd.underlying5 Tryd.underlying9; clear hz; go_simp; try with_reducible rfl)
  (try simp only [Act.put, List.setIfInBounds_toArray, List.set_cons_zero, List.set_cons_succ])
  refine PlanT.take0 (v := ?vG13) (by kernel_rfl) ?yG13 ?rG13
  case yG13 => (intro wz hz; have hc1 := rdB_convert (P := Tryd.prog) (HR1.out.below (H4D.out.below hz).be (Nat.le_refl _)) 22 5 9 Tryd.underlying22 Tryd.underlying5 Tryd.underlying9; clear hz; go_simp; try with_reducible rfl)
  (try simp only [Act.put, List.setIfInBounds_toArray, List.set_cons_zero, List.set_cons_succ])
  refine PlanT.take0 (v := ?vG14) (by kernel_rfl) ?yG14 ?rG14
  case yG14 => (intro wz hz; have hc1 := rdB_convert (P := Tryd.prog) (HR1.out.below (H4D.out.below hz).be (Nat.le_refl _)) 22 5 9 Tryd.underlying22 Tryd.underlying5 Tryd.underlying9; clear hz; go_simp; try with_reducible rfl)
  (try simp only [Act.put, List.setIfInBounds_toArray, List.set_cons_zero, List.set_cons_succ])
  refine PlanT.take0 (v := ?vG15) (by kernel_rfl) ?yG15 ?rG15
  case yG15 => (intro wz hz; have hc1 := rdB_convert (P := Tryd.prog) (HR1.out.below (H4D.out.below hz).be (Nat.le_refl _)) 22 5 9 Tryd.underlying22 Tryd.underlying5 Tryd.underlying9; clear hz; go_simp; try with_reducible rfl)
  (try simp only [Act.put, List.setIfInBounds_toArray, List.set_cons_zero, List.set_cons_succ])
  refine PlanT.take0 (v := ?vG16) (by kernel_rfl) ?yG16 ?rG16
  case yG16 => (intro wz hz; have hc1 := rdB_convert (P := Tryd.prog) (HR1.out.below (H4D.out.below hz).be (Nat.le_refl _)) 22 5 9 Tryd.underlying22 Tryd.underlying5 Tryd.underlying9; clear hz; go_simp; try with_reducible rfl)
  (try simp only [Act.put, List.setIfInBounds_toArray, List.set_cons_zero, List.set_cons_succ])
  refine PlanT.take0 (v := ?vG17) (by kernel_rfl) ?yG17 ?rG17
  case yG17 => (intro wz hz; have hc1 := rdB_convert (P := Tryd.prog) (HR1.out.below (H4D.out.below hz).be (Nat.le_refl _)) 22 5 9 Tryd.underlying22 Tryd.underlying5 Tryd.underlying9; clear hz; go_simp; try with_reducible rfl)
  (try simp only [Act.put, List.setIfInBounds_toArray, List.set_cons_zero, List.set_cons_succ])
  refine PlanT.take0 (v := ?vG18) (by kernel_rfl) ?yG18 ?rG18
  case yG18 => (intro wz hz; have hc1 := rdB_convert (P := Tryd.prog) (HR1.out.below (H4D.out.below hz).be (Nat.le_refl _)) 22 5 9 Tryd.underlying22 Tryd.underlying5 Tryd.underlying9; clear hz; go_simp; try with_reducible rfl)
  (try simp only [Act.put, List.setIfInBounds_toArray, List.set_cons_zero, List.set_cons_succ])
  refine PlanT.take0 (v := ?vG19) (by kernel_rfl) ?yG19 ?rG19
  case yG19 => (intro wz hz; have hc1 := rdB_convert (P := Tryd.prog) (HR1.out.below (H4D.out.below hz).be (Nat.le_refl _)) 22 5 9 Tryd.underlying22 Tryd.underlying5 Tryd.underlying9; clear hz; go_simp; try with_reducible rfl)
  (try simp only [Act.put, List.setIfInBounds_toArray, List.set_cons_zero, List.set_cons_succ])
  refine PlanT.take0 (v := ?vG110) (by kernel_rfl) ?yG110 ?rG110
  case yG110 => (intro wz hz; have hc1 := rdB_convert (P := Tryd.prog) (HR1.out.below (H4D.out.below hz).be (Nat.le_refl _)) 22 5 9 Tryd.underlying22 Tryd.underlying5 Tryd.underlying9; clear hz; go_simp; try with_reducible rfl)
  (try simp only [Act.put, List.setIfInBounds_toArray, List.set_cons_zero, List.set_cons_succ])
  refine PlanT.take0 (v := ?vG111) (by kernel_rfl) ?yG111 ?rG111
  case yG111 => (intro wz hz; have hc1 := rdB_convert (P := Tryd.prog) (HR1.out.below (H4D.out.below hz).be (Nat.le_refl _)) 22 5 9 Tryd.underlying22 Tryd.underlying5 Tryd.underlying9; clear hz; go_simp; try with_reducible rfl)
  (try simp only [Act.put, List.setIfInBounds_toArray, List.set_cons_zero, List.set_cons_succ])
  refine PlanT.take0 (v := ?vG112) (by kernel_rfl) ?yG112 ?rG112
  case yG112 => (intro wz hz; have hc1 := rdB_convert (P := Tryd.prog) (HR1.out.below (H4D.out.below hz).be (Nat.le_refl _)) 22 5 9 Tryd.underlying22 Tryd.underlying5 Tryd.underlying9; clear hz; go_simp; try with_reducible rfl)
  (try simp only [Act.put, List.setIfInBounds_toArray, List.set_cons_zero, List.set_cons_succ])
  refine PlanT.take0 (v := ?vG113) (by kernel_rfl) ?yG113 ?rG113
  case yG113 => (intro wz hz; have hc1 := rdB_convert (P := Tryd.prog) (HR1.out.below (H4D.out.below hz).be (Nat.le_refl _)) 22 5 9 Tryd.underlying22 Tryd.underlying5 Tryd.underlying9; clear hz; go_simp; try with_reducible rfl)
  (try simp only [Act.put, List.setIfInBounds_toArray, List.set_cons_zero, List.set_cons_succ])
  refine PlanT.take0 (v := ?vG114) (by kernel_rfl) ?yG114 ?rG114
  case yG114 => (intro wz hz; have hc1 := rdB_convert (P := Tryd.prog) (HR1.out.below (H4D.out.below hz).be (Nat.le_refl _)) 22 5 9 Tryd.underlying22 Tryd.underlying5 Tryd.underlying9; clear hz; go_simp; try with_reducible rfl)
  (try simp only [Act.put, List.setIfInBounds_toArray, List.set_cons_zero, List.set_cons_succ])
  refine PlanT.take0 (v := ?vG115) (by kernel_rfl) ?yG115 ?rG115
  case yG115 => (intro wz hz; have hc1 := rdB_convert (P := Tryd.prog) (HR1.out.below (H4D.out.below hz).be (Nat.le_refl _)) 22 5 9 Tryd.underlying22 Tryd.underlying5 Tryd.underlying9; clear hz; go_simp; try with_reducible rfl)
  (try simp only [Act.put, List.setIfInBounds_toArray, List.set_cons_zero, List.set_cons_succ])
  refine PlanT.take0 (v := ?vG116) (by kernel_rfl) ?yG116 ?rG116
  case yG116 => (intro wz hz; have hc1 := rdB_convert (P := Tryd.prog) (HR1.out.below (H4D.out.below hz).be (Nat.le_refl _)) 22 5 9 Tryd.underlying22 Tryd.underlying5 Tryd.underlying9; clear hz; go_simp; try with_reducible rfl)
  (try simp only [Act.put, List.setIfInBounds_toArray, List.set_cons_zero, List.set_cons_succ])
  refine PlanT.skip (by kernel_rfl) ?_
  (try simp only [Act.put, List.setIfInBounds_toArray, List.set_cons_zero, List.set_cons_succ])
  refine PlanT.skip (by kernel_rfl) ?_
  (try simp only [Act.put, List.setIfInBounds_toArray, List.set_cons_zero, List.set_cons_succ])
  refine PlanT.skip (by kernel_rfl) ?_
  (try simp only [Act.put, List.setIfInBounds_toArray, List.set_cons_zero, List.set_cons_succ])
  refine PlanT.skip (by kernel_rfl) ?_
  (try simp only [Act.put, List.setIfInBounds_toArray, List.set_cons_zero, List.set_cons_succ])
  refine PlanT.skip (by kernel_rfl) ?_
  (try simp only [Act.put, List.setIfInBounds_toArray, List.set_cons_zero, List.set_cons_succ])
  refine PlanT.skip (by kernel_rfl) ?_
  (try simp only [Act.put, List.setIfInBounds_toArray, List.set_cons_zero, List.set_cons_succ])
  refine PlanT.skip (by kernel_rfl) ?_
  (try simp only [Act.put, List.setIfInBounds_toArray, List.set_cons_zero, List.set_cons_succ])
  refine PlanT.skip (by kernel_rfl) ?_
  (try simp only [Act.put, List.setIfInBounds_toArray, List.set_cons_zero, List.set_cons_succ])
  refine PlanT.skip (by kernel_rfl) ?_
  (try simp only [Act.put, List.setIfInBounds_toArray, List.set_cons_zero, List.set_cons_succ])
  refine PlanT.skip (by kernel_rfl) ?_
  (try simp only [Act.put, List.setIfInBounds_toArray, List.set_cons_zero, List.set_cons_succ])
  refine PlanT.skip (by kernel_rfl) ?_
  (try simp only [Act.put, List.setIfInBounds_toArray, List.set_cons_zero, List.set_cons_succ])
  refine PlanT.skip (by kernel_rfl) ?_
  (try simp only [Act.put, List.setIfInBounds_toArray, List.set_cons_zero, List.set_cons_succ])
  refine PlanT.skip (by kernel_rfl) ?_
  (try simp only [Act.put, List.setIfInBounds_toArray, List.set_cons_zero, List.set_cons_succ])
  refine PlanT.skip (by kernel_rfl) ?_
  (try simp only [Act.put, List.setIfInBounds_toArray, List.set_cons_zero, List.set_cons_succ])
  refine PlanT.take0 (v := ?vG131) (by kernel_rfl) ?yG131 ?rG131
  case yG131 => (intro wz hz; have hc1 := rdB_convert (P := Tryd.prog) (HR1.out.below (H4D.out.below hz).be (Nat.le_refl _)) 22 5 9 Tryd.underlying22 Tryd.underlying5 Tryd.underlying9; clear hz; go_simp; try with_reducible rfl)
  (try simp only [Act.put, List.setIfInBounds_toArray, List.set_cons_zero, List.set_cons_succ])
  refine PlanT.take0 (v := ?vG132) (by kernel_rfl) ?yG132 ?rG132
  case yG132 => (intro wz hz; have hc1 := rdB_convert (P := Tryd.prog) (HR1.out.below (H4D.out.below hz).be (Nat.le_refl _)) 22 5 9 Tryd.underlying22 Tryd.underlying5 Tryd.underlying9; clear hz; go_simp; try with_reducible rfl)
  (try simp only [Act.put, List.setIfInBounds_toArray, List.set_cons_zero, List.set_cons_succ])
  refine PlanT.done (NoPanic.normal ?_)
  go_wp2_with (first | (go_at_call 10; (with_reducible refine (HE.out _ _ H4D.out).mono ?_); rintro e w5 ⟨rfl, h5⟩; have H5 := Lib.hid h5; clear h5) | (go_at_call 12; (with_reducible refine (HF.out _ _ H5.out).mono ?_); rintro e w6 ⟨ya, yc, rfl, h6⟩; have H6 := Lib.hid h6; clear h6) | (go_at_call 18; (with_reducible refine (HG.out _ _ _ H6.out).mono ?_); rintro e w7 ⟨rfl, rfl⟩) | (go_at_call 15; (with_reducible refine (num1_any _ _).mono ?_); rintro e w14 ⟨rfl, rfl⟩) | (go_at_call 8; (with_reducible refine (awake6_any _).mono ?_); rintro e w15 ⟨rfl, B15⟩))
  go_ret
  exact ⟨rfl, H6.out.be.trans (B15.mono H6.out.be.size)⟩

set_option maxRecDepth 100000 in
set_option maxHeartbeats 4000000 in
set_option linter.unusedSimpArgs false in
theorem clientGives_walk (v : Value) (l : List UInt8) (lies : Bool) (W : World) (hv : RdB W v l) :
    Calls Tryd.prog 4 #[v, .bool lies] W fun e w' => e = .returned (.bool true) ∧ Below W.heap.size W w' := by
  have hv0 := hv
  obtain ⟨va, vc, rfl, _, _⟩ := RdB.form hv
  by_cases hl : l.length ≤ 300
  · cases lies
    · exact gives_1 va vc l W hv0 hl
    · exact gives_2 va vc l W hv0 hl
  · clear hv hv0
    go_enter Tryd.func4, Tryd.ntmps4
    go_wp2_with (go_at_call 8; (with_reducible refine (awake6_any _).mono ?_); rintro e w15 ⟨rfl, B15⟩)
    go_ret
    exact ⟨rfl, B15⟩
end Go.Proofs.YtljjgpjaleekdaaDoor
