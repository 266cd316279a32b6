/-
  The walk of the statement ClientRuns.
-/
import Derived.Test.YtljjgpjaleekdaaGreatDoorClientStep
namespace Go.Proofs.YtljjgpjaleekdaaGreatDoor
open Go.RowKit

/-- An act, as it lies in memory. -/
structure Act5 where
  d : Int
  name : ByteArray
  a : Int
  c : Int
  dv : Value
  data : List UInt8
  nv : Value
  next : List Int

def Act5.cells (x : Act5) : List Value := [.int .i64 x.d, .string x.name, .int .i64 x.a, .int .i64 x.c, x.dv, x.nv]

structure Act5.Fits (W : World) (x : Act5) : Prop where
  size : x.name.size ≤ maxLen
  data : RdB W x.dv x.data
  next : RdI .i64 W x.nv x.next

def RdA (W : World) (v : Value) (xs : List Act5) : Prop := Rd W 6 v xs.length (xs.flatMap Act5.cells) ∧ ∀ x ∈ xs, x.Fits W

theorem act_cells_at : ∀ {xs : List Act5} {k : Nat} {x : Act5} (j : Nat) (u : Value), xs[k]? = some x → x.cells[j]? = some u → j < 6 → (xs.flatMap Act5.cells)[k * 6 + j]? = some u
  | [], k, x, j, u, h, _, _ => by simp at h
  | y :: r, 0, x, j, u, h, hu, hj => by
    simp at h
    subst h
    rw [List.flatMap_cons, List.getElem?_append_left (by simpa [Act5.cells] using hj)]
    simpa using hu
  | y :: r, k + 1, x, j, u, h, hu, hj => by
    have ih := act_cells_at (xs := r) (k := k) j u (by simpa using h) hu hj
    have hl : y.cells.length = 6 := rfl
    rw [List.flatMap_cons, List.getElem?_append_right (by rw [hl]; omega), hl]
    rw [show (k + 1) * 6 + j - 6 = k * 6 + j by omega]
    exact ih

theorem rda_cells {W : World} {a : Option Addr} {cap : Nat} {xs : List Act5} (h : Rd W 6 (.slice a xs.length cap) xs.length (xs.flatMap Act5.cells)) {k : Nat} {x : Act5} (hx : xs[k]? = some x) : ∃ b o, a = some ⟨b, o, none⟩ ∧ b < W.heap.size ∧ W.cell? ⟨b, o + k * 6, none⟩ = some (.int .i64 x.d) ∧ W.cell? ⟨b, o + k * 6 + 1, none⟩ = some (.string x.name) ∧ W.cell? ⟨b, o + k * 6 + 2, none⟩ = some (.int .i64 x.a) ∧ W.cell? ⟨b, o + k * 6 + 3, none⟩ = some (.int .i64 x.c) ∧ W.cell? ⟨b, o + k * 6 + 4, none⟩ = some x.dv ∧ W.cell? ⟨b, o + k * 6 + 5, none⟩ = some x.nv := by
  obtain ⟨a', cap', hv, _, _, _, h3⟩ := h
  cases hv
  have hil := (List.getElem?_eq_some_iff.1 hx).1
  rcases h3 with ⟨h0, _⟩ | ⟨b, off, rfl, hb, hc⟩
  · omega
  · refine ⟨b, off, rfl, hb, hc (k * 6) _ (act_cells_at 0 _ hx rfl (by decide)), ?_, ?_, ?_, ?_, ?_⟩
    all_goals rw [Nat.add_assoc]
    · exact hc _ _ (act_cells_at 1 _ hx rfl (by decide))
    · exact hc _ _ (act_cells_at 2 _ hx rfl (by decide))
    · exact hc _ _ (act_cells_at 3 _ hx rfl (by decide))
    · exact hc _ _ (act_cells_at 4 _ hx rfl (by decide))
    · exact hc _ _ (act_cells_at 5 _ hx rfl (by decide))

def FR.act (f : FR) (x : Act5) : FR :=
  if x.d = 0 then f.next x.next else if x.d = 1 ∨ x.d = 2 then (f.up x.name.data.toList x.data).2 else if x.d = 3 then (f.gets x.name.data.toList 0 1048576).2 else if x.d = 4 then (f.gets x.name.data.toList x.a x.c).2 else if x.d = 5 then f.lists.2 else if x.d = 6 then (f.cdrop x.name.data.toList).2 else if x.d = 7 then (f.put x.name.data.toList x.data).2 else f

theorem RSm.act {f : FR} {k : Nat} (h : RSm f k) (x : Act5) (l1 : x.data.length ≤ 300) (l2 : x.next.length ≤ 100) : RSm (f.act x) (k + 8) := by
  unfold FR.act
  split
  · exact (h.next _ l2).mono (by omega)
  split
  · exact h.up _ _ l1
  split
  · exact (h.gets _ _ _).mono (by omega)
  split
  · exact (h.gets _ _ _).mono (by omega)
  split
  · exact h.lists.mono (by omega)
  split
  · exact (h.cdrop _).mono (by omega)
  split
  · exact (h.put _ _ l1).mono (by omega)
  · exact h.mono (by omega)

theorem step_any {W w : World} {p q : Nat} {f : FR} {k : Nat} (h : Bo W w p q f f) (hs : RSm f k) (hk : k ≤ 1000) (x : Act5) (hx : x.Fits W) (l1 : x.data.length ≤ 300) (l2 : x.next.length ≤ 100) :
    Calls Tryz.prog 6 #[.pointer (some ⟨p, 0, none⟩), .pointer (some ⟨q, 0, none⟩), .agg #[.int .i64 x.d, .string x.name, .int .i64 x.a, .int .i64 x.c, x.dv, x.nv]] w fun e w' => e = .returned (.bool true) ∧ Bo W w' p q (f.act x) (f.act x) := by
  obtain ⟨d, s, a, c, dv, b, nv, nx⟩ := x
  obtain ⟨x1, x2, x3⟩ := hx
  dsimp only at x1 x2 x3 l1 l2 ⊢
  have y2 := x2
  have y3 := rd_of_rdI x3
  have z3 := rd_of_rdI x3
  obtain ⟨va, vc, rfl, _, _⟩ := RdB.form x2
  obtain ⟨na, nc, rfl, _, _⟩ := Lf.form z3
  by_cases h0 : d = 0
  · subst h0
    exact step_next h hs hk s x1 a c va vc b y2 l1 na nc nx y3 l2
  by_cases h1 : d = 1
  · subst h1
    exact step_up1 h hs hk s x1 a c va vc b y2 l1 na nc nx y3 l2
  by_cases h2 : d = 2
  · subst h2
    exact step_up2 h hs hk s x1 a c va vc b y2 l1 na nc nx y3 l2
  by_cases h3 : d = 3
  · subst h3
    exact step_down h hs hk s x1 a c va vc b y2 l1 na nc nx y3 l2
  by_cases h4 : d = 4
  · subst h4
    exact step_piece h hs hk s x1 a c va vc b y2 l1 na nc nx y3 l2
  by_cases h5 : d = 5
  · subst h5
    exact step_names h hs hk s x1 a c va vc b y2 l1 na nc nx y3 l2
  by_cases h6 : d = 6
  · subst h6
    exact step_drop h hs hk s x1 a c va vc b y2 l1 na nc nx y3 l2
  by_cases h7 : d = 7
  · subst h7
    exact step_put h hs hk s x1 a c va vc b y2 l1 na nc nx y3 l2
  · rw [show FR.act f ⟨d, s, a, c, .slice va b.length vc, b, .slice na nx.length nc, nx⟩ = f by unfold FR.act; simp [h0, h1, h2, h3, h4, h5, h6, h7]]
    exact step_else h hs hk d h0 h1 h2 h3 h4 h5 h6 h7 s x1 a c va vc b y2 l1 na nc nx y3 l2

theorem bo_start {W w : World} {p : Nat} (h : FOn W w p FR.new) : Bo W (w.alloc (.cells #[.slice none 0 0, .slice none 0 0, .int .i64 0] 30)) p w.heap.size FR.new FR.new := by
  obtain ⟨G, h1, h2, h3⟩ := h
  have hb : Below w.heap.size w (w.alloc (.cells #[.slice none 0 0, .slice none 0 0, .int .i64 0] 30)) := (Below.refl _ _).alloc (Nat.le_refl _) _
  refine ⟨G, fun k => k = w.heap.size, h1.below hb, ⟨⟨.slice none 0 0, .slice none 0 0, heap_alloc_new w _, Rd.nil _ _, Rd.nil _ _, fun k e => (nomatch e), fun k e => (nomatch e)⟩, rfl, ?_⟩, ?_, h3, ?_, h2.trans (hb.mono h2.size)⟩
  · intro k hk
    subst hk
    simp
  · intro k hG hH
    have := h1.lt k hG
    omega
  · intro k hk
    subst hk
    exact h2.size

theorem rsm_new : RSm FR.new 0 := ⟨by simp [FR.new], by simp [FR.new], fun x hx => (nomatch hx), by simp [FR.new], fun x hx => (nomatch hx)⟩

set_option maxRecDepth 100000 in
set_option maxHeartbeats 8000000 in
set_option linter.unusedSimpArgs false in
set_option linter.unusedVariables false in
theorem clientRuns_walk (v : Value) (xs : List Act5) (W : World) (h : RdA W v xs) :
    Calls Tryz.prog 3 #[v] W fun e w' => e = .returned (.bool true) ∧ Below W.heap.size W w' := by
  obtain ⟨hr, hf⟩ := h
  have HR0 := hr
  obtain ⟨va, vc, rfl, _, _, _, _⟩ := hr
  have HR := Lib.hid HR0
  have HFT := Lib.hid hf
  have hq : ∀ (w : World) (a : Addr), (binOp .eql 24 (.pointer (some a)) (.pointer none)).run Tryz.prog w = .ok (.bool false) w := fun w a => by kernel_rfl
  clear HR0 hf
  by_cases hn : xs.length ≤ 80
  · have HN := Lib.hid (fon_new W W (Below.refl _ _))
    go_enter Tryz.func3, Tryz.ntmps3
    go_wp2_with (go_at_call 5; (with_reducible refine HN.out.mono ?_); rintro e w0 ⟨p0, rfl, h0⟩; have H0 := Lib.hid (bo_start h0); have hq0 : w0.heap.size = w0.heap.size := rfl; clear h0)
    go_loopw [5] (fun i wr => ∃ (k : Nat) (f : FR), k ≤ xs.length ∧ i = .int .i64 k ∧ Bo W wr p0 w0.heap.size f f ∧ RSm f (8 * k)) (fun i _ => xs.length - (intOf i).toNat)
    case atStart => exact ⟨0, FR.new, Nat.zero_le _, rfl, H0.out, rsm_new⟩
    case round =>
      obtain ⟨k, f, hk, rfl, hb, hs⟩ := hrel
      have HB := Lib.hid hb
      have HS := Lib.hid hs
      clear hb hs
      by_cases hlt : k < xs.length
      · obtain ⟨x, hx⟩ : ∃ x, xs[k]? = some x := ⟨_, List.getElem?_eq_getElem hlt⟩
        have HF := Lib.hid (HFT.out x (List.mem_of_getElem? hx))
        obtain ⟨b, o, rfl, hbl, e0, e1, e2, e3, e4, e5⟩ := rda_cells HR.out hx
        have y3 := rd_of_rdI HF.out.next
        obtain ⟨da, dc, hdv, _, _⟩ := RdB.form HF.out.data
        obtain ⟨na, nc, hnv, _, _⟩ := Lf.form y3
        have HDV := Lib.hid hdv
        have HNV := Lib.hid hnv
        rw [hdv] at e4
        rw [hnv] at e5
        have HC := Lib.hid (show ∀ w', Below W.heap.size W w' → w'.cell? ⟨b, o + k * 6, none⟩ = some (.int .i64 x.d) ∧ w'.cell? ⟨b, o + k * 6 + 1, none⟩ = some (.string x.name) ∧ w'.cell? ⟨b, o + k * 6 + 2, none⟩ = some (.int .i64 x.a) ∧ w'.cell? ⟨b, o + k * 6 + 3, none⟩ = some (.int .i64 x.c) ∧ w'.cell? ⟨b, o + k * 6 + 4, none⟩ = some (.slice da x.data.length dc) ∧ w'.cell? ⟨b, o + k * 6 + 5, none⟩ = some (.slice na x.next.length nc) from fun w' hw => ⟨(hw.cell (p := ⟨b, o + k * 6, none⟩) hbl).trans e0, (hw.cell (p := ⟨b, o + k * 6 + 1, none⟩) hbl).trans e1, (hw.cell (p := ⟨b, o + k * 6 + 2, none⟩) hbl).trans e2, (hw.cell (p := ⟨b, o + k * 6 + 3, none⟩) hbl).trans e3, (hw.cell (p := ⟨b, o + k * 6 + 4, none⟩) hbl).trans e4, (hw.cell (p := ⟨b, o + k * 6 + 5, none⟩) hbl).trans e5⟩)
        clear e0 e1 e2 e3 e4 e5 hdv hnv y3 hx
        obtain ⟨c0, c1, c2, c3, c4, c5⟩ := HC.out _ HB.out.be
        by_cases l1 : x.data.length ≤ 300
        · by_cases l2 : x.next.length ≤ 100
          · have hk1 : 8 * k ≤ 1000 := by omega
            have hk2 : 8 * k + 8 ≤ 1000 := by omega
            have HS2 := Lib.hid (HS.out.act x l1 l2)
            have hol : (f.act x).objs.length < 1000000 := by have := HS2.out.objs; omega
            have HSTEP := Lib.hid (show ∀ (w : World) (p : Nat), Bo W w p w0.heap.size f f → Calls Tryz.prog 6 #[.pointer (some ⟨p, 0, none⟩), .pointer (some ⟨w0.heap.size, 0, none⟩), .agg #[.int .i64 x.d, .string x.name, .int .i64 x.a, .int .i64 x.c, .slice da x.data.length dc, .slice na x.next.length nc]] w fun e w' => e = .returned (.bool true) ∧ Bo W w' p w0.heap.size (f.act x) (f.act x) from fun w p hb => by
              have := step_any hb HS.out hk1 x HF.out l1 l2
              rw [HDV.out, HNV.out] at this
              exact this)
            go_wp2_with (first | (go_at_call 6; refine (HSTEP.out _ _ HB.out).mono ?_; rintro e w2 ⟨rfl, h2⟩; have H2 := Lib.hid h2; clear h2) | (go_at_call 8; refine (bo_objs1 H2.out HS2.out hk2).mono ?_; rintro e w3 ⟨v1, rfl, rd1, h3⟩; have RD1 := Lib.hid rd1; have H3 := Lib.hid h3; clear rd1 h3) | (go_at_call 9; refine (bo_objs2 H3.out HS2.out hk2 _ _ _ RD1.out).mono ?_; rintro e w4 ⟨v2, rfl, rd2, rd3, h4⟩; have RD2 := Lib.hid rd2; have RD3 := Lib.hid rd3; have H4 := Lib.hid h4; clear rd2 rd3 h4) | (go_at_call 7; refine (same_any _ _ _ _ hol RD3.out RD2.out).mono ?_; rintro e w5 ⟨rfl, B5⟩; have H5 := Lib.hid (H4.out.below B5); clear B5) | (go_at_call 10; refine (bo_calls1 H5.out).mono ?_; rintro e w6 ⟨rfl, rfl⟩) | (go_at_call 11; refine (bo_calls2 H5.out).mono ?_; rintro e w7 ⟨rfl, rfl⟩) | (go_at_call 12; refine (bo_left1 H5.out).mono ?_; rintro e w8 ⟨rfl, rfl⟩) | (go_at_call 13; refine (bo_left2 H5.out).mono ?_; rintro e w9 ⟨rfl, rfl⟩))
            go_roundw
            case rel => exact ⟨k + 1, f.act x, by omega, by go_num, H5.out, HS2.out.mono (by omega)⟩
            case measure => simp [intOf]; omega
          · go_wp2_with (go_at_call 4; (with_reducible refine (awake6_any _).mono ?_); rintro e w15 ⟨rfl, B15⟩)
            go_ret
            exact ⟨rfl, HB.out.be.trans (B15.mono HB.out.be.size)⟩
        · go_wp2_with (go_at_call 4; (with_reducible refine (awake6_any _).mono ?_); rintro e w15 ⟨rfl, B15⟩)
          go_ret
          exact ⟨rfl, HB.out.be.trans (B15.mono HB.out.be.size)⟩
      · go_wp2_with (go_at_call 4; (with_reducible refine (awake6_any _).mono ?_); rintro e w15 ⟨rfl, B15⟩)
        go_ret
        exact ⟨rfl, HB.out.be.trans (B15.mono HB.out.be.size)⟩
  · go_enter Tryz.func3, Tryz.ntmps3
    go_wp2_with (go_at_call 4; (with_reducible refine (awake6_any _).mono ?_); rintro e w15 ⟨rfl, B15⟩)
    go_ret
    exact ⟨rfl, B15⟩
end Go.Proofs.YtljjgpjaleekdaaGreatDoor
