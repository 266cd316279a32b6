/-
  The walk of the statement ClientOnce.
-/
import Derived.Test.YtljjgpjaleekdaaDoorClientLaws
import Derived.OpenShut
namespace Go.Proofs.YtljjgpjaleekdaaDoor
open Go.RowKit

/-- A new block is held. -/
theorem FOnH.alloc {W w : World} {p : Nat} {f : FR} {P : World → Prop} (h : FOnH W w p f P) (o : Obj) (ho : (w.alloc o).heap[w.heap.size]? = some o) : FOnH W (w.alloc o) p f fun w' => P w' ∧ w'.heap[w.heap.size]? = some o := by
  obtain ⟨G, S, h1, h2, h3, h4, h5⟩ := h
  have hb : Below w.heap.size w (w.alloc o) := (Below.refl _ _).alloc (Nat.le_refl _) _
  refine ⟨G, fun k => S k ∨ k = w.heap.size, h1.below hb, h2.trans (hb.mono h2.size), h3, ?_, fun w' hk => ⟨h5 w' ((Kept.of hb fun k hk => (h4 k hk).1).trans (Kept.mono hk fun k h => .inl h)), (hk.block _ (.inr rfl)).trans ho⟩⟩
  rintro k (hk | rfl)
  · exact ⟨Nat.lt_of_lt_of_le (h4 k hk).1 hb.size, (h4 k hk).2⟩
  · exact ⟨by simp, fun hg => Nat.lt_irrefl _ (h1.lt _ hg)⟩

theorem rd_part {w : World} {k : Nat} {l : List Int} {m : Nat} (h : w.heap[k]? = some (.cells (l.map (Value.int .i64)).toArray 3 (0, 0))) (hl : l.length ≤ maxLen) (hm : m ≤ l.length) : Rd w 1 (.slice (some ⟨k, 0, none⟩) m l.length) (l.take m).length ((l.take m).map (Value.int .i64)) := by
  have e : (l.take m).length = m := by rw [List.length_take]; omega
  rw [e]
  refine ⟨_, _, rfl, hm, hl, by simp; omega, .inr ⟨k, 0, rfl, blk_lt h, fun j u hj => ?_⟩⟩
  rw [Nat.zero_add, blk_cell h]
  simp only [List.getElem?_map, List.getElem?_take] at hj
  split at hj
  · simpa using hj
  · simp at hj

theorem tmod_nat {a : Int} (h : 0 ≤ a) (n : Nat) (hn : 0 < n) : ∃ m : Nat, a.tmod (n : Int) = (m : Int) ∧ m < n := by
  obtain ⟨k, rfl⟩ := Int.eq_ofNat_of_zero_le h
  exact ⟨k % n, (Int.ofNat_tmod k n).symm, Nat.mod_lt _ hn⟩

theorem bad_take {x y z : Nat} (hx : x < 2) (hy : y < 2) (hz : z < 2) (m : Nat) : Bad ([1 + (x : Int), 1 + (y : Int), 1 + (z : Int)].take m) := fun v hv => by
  have := List.mem_of_mem_take hv
  simp at this
  omega

theorem row_first {w : World} {va : Option Addr} {vc : Nat} (h : RdN w (.slice va 1 vc) [[111]]) : ∃ b o, va = some ⟨b, o, none⟩ ∧ w.cell? ⟨b, o, none⟩ = some (.string (strB [111])) := by
  obtain ⟨_, _, hq1, _, _, _, q4⟩ := h
  cases hq1
  rcases q4 with ⟨h0, _⟩ | ⟨b, o, rfl, _, q5⟩
  · exact absurd h0 (by decide)
  · exact ⟨b, o, rfl, q5 0 _ rfl⟩

set_option maxRecDepth 100000 in
set_option maxHeartbeats 4000000 in
set_option linter.unusedSimpArgs false in
theorem once_main (va : Option Addr) (ca : Nat) (la : List UInt8) (a b c n : Int) (x y z m : Nat) (W : World) (h1 : RdB W (.slice va la.length ca) la) (l1 : la.length ≤ 300) (ba : 0 ≤ a ∧ a ≤ 255) (bb : 0 ≤ b ∧ b ≤ 255) (bc : 0 ≤ c ∧ c ≤ 255) (bn : 0 ≤ n ∧ n ≤ 255) (ea : a.tmod 2 = (x : Int)) (eb : b.tmod 2 = (y : Int)) (ec : c.tmod 2 = (z : Int)) (en : n.tmod 4 = (m : Int)) (hx : x < 2) (hy : y < 2) (hz : z < 2) (hm : m < 4) :
    Calls Tryd.prog 3 #[.slice va la.length ca, .int .u8 a, .int .u8 b, .int .u8 c, .int .u8 n] W fun e w' => e = .returned (.bool true) ∧ Below W.heap.size W w' := by
  have HN := Lib.hid (fon_new W W (Below.refl _ _))
  have hq : ∀ (w : World) (a : Addr), (binOp .eql 24 (.pointer (some a)) (.pointer none)).run Tryd.prog w = .ok (.bool false) w := fun w a => by kernel_rfl
  obtain ⟨lo, hlo⟩ : ∃ lo, lo = [1 + (x : Int), 1 + (y : Int), 1 + (z : Int)].take m := ⟨_, rfl⟩
  have hll : lo.length = m := by rw [hlo, List.length_take]; simp; omega
  have hbd : Bad lo := by rw [hlo]; exact bad_take hx hy hz m
  obtain ⟨d, hd, he⟩ := up_none (b := la) (l := lo) (c := 0) (by omega) (by omega) hbd
  have HX := Lib.hid (fun (w : World) (k : Nat) (p : Nat) (f : FR) (P : World → Prop) (h : FOnH W w p f P) (hP : P w → w.heap[k]? = some (.cells #[.int .i64 (1 + (x : Int)), .int .i64 (1 + (y : Int)), .int .i64 (1 + (z : Int))] 3 (0, 0))) => (show Calls Tryd.prog 10 #[.pointer (some ⟨p, 0, none⟩), .slice (some ⟨k, 0, none⟩) m 3] w fun e w' => e = .returned (.tuple #[]) ∧ FOnH W w' p (f.next lo) P from fh_next h _ lo (by rw [hlo]; exact rd_part (l := [1 + (x : Int), 1 + (y : Int), 1 + (z : Int)]) (hP h.held) (show 3 ≤ maxLen by decide) (show m ≤ 3 by omega)) (by omega)))
  have HU := Lib.hid (fun (w : World) (p : Nat) (P : World → Prop) (h : FOnH W w p (FR.new.next lo) P) => fh_up_arg h (m := 1000) ⟨by simp [FR.new, FR.next], by simp [FR.new, FR.next]⟩ (by omega) _ la h1 (by omega) 0 _ he)
  have HDN := Lib.hid (fun (w : World) (p : Nat) (P : World → Prop) (h : FOnH W w p (FR.next ⟨[([111], la)], [], d⟩ lo) P) => fh_down h (m := 1000) (fz_one (l := lo) (c := d) (by omega) (by omega)) (by omega) ⟨#[111]⟩ (by decide) la 0 _ (gets_whole (by omega) (by omega) hbd))
  have HU2 := Lib.hid (fun (w : World) (p : Nat) (P : World → Prop) (h : FOnH W w p (FR.next ⟨[([111], la)], [], d + lo.length + 1⟩ lo) P) => fh_up_arg h (m := 1000) (fz_one (l := lo) (c := d + lo.length + 1) (by omega) (by omega)) (by omega) _ la h1 (by omega) 0 _ ((up_have (by omega) (by omega) (by omega) hbd).trans (by rw [if_pos rfl])))
  have HNM := Lib.hid (fun (w : World) (p : Nat) (P : World → Prop) (h : FOnH W w p (FR.next ⟨[([111], la)], [], d + lo.length + 1 + lo.length + 2⟩ lo) P) => fh_names h (m := 1000) (fz_one (l := lo) (c := d + lo.length + 1 + lo.length + 2) (by omega) (by omega)) (by omega) [[111]] 0 _ (tl_all 4 lo _ (by omega) hbd))
  have HDR := Lib.hid (fun (w : World) (p : Nat) (P : World → Prop) (h : FOnH W w p (FR.next ⟨[([111], la)], [], d + lo.length + 1 + lo.length + 2 + lo.length + 1⟩ lo) P) => fh_cdrop h (m := 1000) (fz_one (l := lo) (c := d + lo.length + 1 + lo.length + 2 + lo.length + 1) (by omega) (by omega)) (by omega) ⟨#[111]⟩ (by decide) 0 _ (cdrop_have (by omega) hbd))
  have HO := Lib.hid (fun (w : World) (p c : Nat) (P : World → Prop) (h : FOnH W w p ⟨[], [], c⟩ P) => fh_objs h (by simp) (fun x hx => (nomatch hx)) 0 rfl)
  have HR1 := Lib.hid h1
  have g1 : ¬ (300 : Int) < (la.length : Int) := by omega
  have m3 : m ≤ 3 := by omega
  clear h1 he hlo hll hbd
  go_enter Tryd.func3, Tryd.ntmps3
  go_wp2_with (first | (go_at_call 9; (with_reducible refine (HN.out).mono ?_); rintro e w0 ⟨p, rfl, h0⟩; have H0 := Lib.hid (h0.h.alloc (.cells #[.int .i64 (1 + (x : Int)), .int .i64 (1 + (y : Int)), .int .i64 (1 + (z : Int))] 3) (heap_alloc_new w0 _)); clear h0) | (go_at_call 10; (with_reducible refine (HX.out _ w0.heap.size _ _ _ H0.out (fun h => h.2)).mono ?_); rintro e w1 ⟨rfl, h1⟩; have H1 := Lib.hid h1; clear h1) | (go_at_call 11; (with_reducible refine (HU.out _ _ _ H1.out).mono ?_); rintro e w2 ⟨rfl, h2⟩; have H2 := Lib.hid h2; clear h2) | (go_at_call 10; (with_reducible refine (HX.out _ w0.heap.size _ _ _ H2.out (fun h => h.2)).mono ?_); rintro e w3 ⟨rfl, h3⟩; have H3 := Lib.hid h3; clear h3) | (go_at_call 12; (with_reducible refine (HDN.out _ _ _ H3.out).mono ?_); rintro e w4 ⟨xa, xc, rfl, h4⟩; have H4 := Lib.hid h4; clear h4) | (go_at_call 10; (with_reducible refine (HX.out _ w0.heap.size _ _ _ H4.out (fun h => h.1.2)).mono ?_); rintro e w5 ⟨rfl, h5⟩; have H5 := Lib.hid h5; clear h5) | (go_at_call 11; (with_reducible refine (HU2.out _ _ _ H5.out).mono ?_); rintro e w6 ⟨rfl, h6⟩; have H6 := Lib.hid h6; clear h6) | (go_at_call 10; (with_reducible refine (HX.out _ w0.heap.size _ _ _ H6.out (fun h => h.1.2)).mono ?_); rintro e w7 ⟨rfl, h7⟩; have H7 := Lib.hid h7; clear h7) | (go_at_call 13; (with_reducible refine (HNM.out _ _ _ H7.out).mono ?_); rintro e w8 ⟨ya, yc, rfl, h8⟩; have H8 := Lib.hid h8; clear h8) | (go_at_call 10; (with_reducible refine (HX.out _ w0.heap.size _ _ _ H8.out (fun h => h.1.1.2)).mono ?_); rintro e w9 ⟨rfl, h9⟩; have H9 := Lib.hid h9; clear h9) | (go_at_call 14; (with_reducible refine (HDR.out _ _ _ H9.out).mono ?_); rintro e w10 ⟨rfl, h10⟩; have hc1 := rdB_convert (P := Tryd.prog) (HR1.out.below h10.be (Nat.le_refl _)) 22 5 9 Tryd.underlying22 Tryd.underlying5 Tryd.underlying9; have hc2 := rdB_convert (P := Tryd.prog) (h10.held.1.2) 22 5 9 Tryd.underlying22 Tryd.underlying5 Tryd.underlying9; obtain ⟨bo, oo, hxo, hxb⟩ : ∃ b o, ya = some ⟨b, o, none⟩ ∧ w10.cell? ⟨b, o, none⟩ = some (.string (strB [111])) := row_first h10.held.2; subst hxo; have H10 := Lib.hid h10; clear h10) | (go_at_call 16; (with_reducible refine (HO.out _ _ _ _ H10.out).mono ?_); rintro e w11 ⟨za, zc, rfl, _, h11⟩; have H11 := Lib.hid h11; clear h11) | (go_at_call 15; (with_reducible refine (num1_any _ _).mono ?_); rintro e w14 ⟨rfl, rfl⟩) | (go_at_call 8; (with_reducible refine (awake6_any _).mono ?_); rintro e w15 ⟨rfl, B15⟩))
  go_ret
  exact ⟨rfl, H11.out.be.trans (B15.mono H11.out.be.size)⟩

set_option maxRecDepth 100000 in
set_option maxHeartbeats 4000000 in
set_option linter.unusedSimpArgs false in
theorem clientOnce_walk (v : Value) (l : List UInt8) (a b c n : Int) (W : World) (hv : RdB W v l) (wa : (Lit.int .u8 a).wf = true) (wb : (Lit.int .u8 b).wf = true) (wc : (Lit.int .u8 c).wf = true) (wn : (Lit.int .u8 n).wf = true) :
    Calls Tryd.prog 3 #[v, .int .u8 a, .int .u8 b, .int .u8 c, .int .u8 n] W fun e w' => e = .returned (.bool true) ∧ Below W.heap.size W w' := by
  have hv0 := hv
  have ba := bounds_u8 wa
  have bb := bounds_u8 wb
  have bc := bounds_u8 wc
  have bn := bounds_u8 wn
  obtain ⟨va, vc, rfl, _, _⟩ := RdB.form hv
  by_cases hl : l.length ≤ 300
  · obtain ⟨x, ex, hx⟩ := tmod_nat ba.1 2 (by decide)
    obtain ⟨y, ey, hy⟩ := tmod_nat bb.1 2 (by decide)
    obtain ⟨z, ez, hz⟩ := tmod_nat bc.1 2 (by decide)
    obtain ⟨m, em, hm⟩ := tmod_nat bn.1 4 (by decide)
    exact once_main va vc l a b c n x y z m W hv0 hl ba bb bc bn ex ey ez em hx hy hz hm
  · clear hv hv0
    go_enter Tryd.func3, Tryd.ntmps3
    go_wp2_with (go_at_call 8; (with_reducible refine (awake6_any _).mono ?_); rintro e w15 ⟨rfl, B15⟩)
    go_ret
    exact ⟨rfl, B15⟩
end Go.Proofs.YtljjgpjaleekdaaDoor
