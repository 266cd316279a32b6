import Derived.Test.YtfeogoihkpclcaaMg27
import Derived.Test.YtfeogoihkpclcaaMg28
import Derived.Test.YtfeogoihkpclcaaMg30
import Derived.Lib.SmallJoins
import Derived.Deep.Slices

/-
  The walk of the statement DiskRuns.
-/
namespace Go.Proofs.Ytfeogoihkpclcaa
open Go.RowKit

theorem step_any {W w : World} {p q : Nat} {pd : PD} {m : DM} {k : Nat} (h : Bb W w p q pd m) (hal : Al pd m k) (hk : k ≤ 200) (x : Act7) (hx : x.Fits W) (hok : x.Ok) :
    Calls Try.prog 9 #[.pointer (some ⟨p, 0, none⟩), .pointer (some ⟨q, 0, none⟩), .agg #[.int .i64 x.d, .string x.name, .string x.dest, .int .i64 x.a, .int .i64 x.c, x.dv, .int .i64 x.room, .int .i64 x.crash, .bool x.done, x.kv, .int .i64 x.names]] w fun e w' => e = .returned (.bool true) ∧ ∃ pd' m', Bb W w' p q pd' m' ∧ Al pd' m' (k + 1) := by
  obtain ⟨d, s, t, a, c, dv, b, room, crash, done, kv, keep, names⟩ := x
  obtain ⟨x1, x2, x3, x4, x5, x6, x7⟩ := hx
  obtain ⟨l1, l2⟩ := hok
  dsimp only at x1 x2 x3 x4 x5 x6 x7 l1 l2 ⊢
  have y5 := x5
  have y6 := rd_of_rdI x6
  have hw := x6
  obtain ⟨va, vc, rfl, _, _⟩ := RdB.form x5
  obtain ⟨ka, kc, rfl, _, _⟩ := rd_form y6
  have hkn : ∀ y ∈ keep, -9223372036854775808 ≤ y ∧ y ≤ 9223372036854775807 := by
    obtain ⟨_, _, _, _, _, h3, _⟩ := hw
    exact fun y hy => bounds_i64 (h3 y hy)
  have go : ∀ {D : PD} {M : DM}, (Calls Try.prog 9 #[.pointer (some ⟨p, 0, none⟩), .pointer (some ⟨q, 0, none⟩), .agg #[.int .i64 d, .string s, .string t, .int .i64 a, .int .i64 c, .slice va b.length vc, .int .i64 room, .int .i64 crash, .bool done, .slice ka keep.length kc, .int .i64 names]] w fun e w' => e = .returned (.bool true) ∧ Bb W w' p q D M ∧ Al D M (k + 1)) → Calls Try.prog 9 #[.pointer (some ⟨p, 0, none⟩), .pointer (some ⟨q, 0, none⟩), .agg #[.int .i64 d, .string s, .string t, .int .i64 a, .int .i64 c, .slice va b.length vc, .int .i64 room, .int .i64 crash, .bool done, .slice ka keep.length kc, .int .i64 names]] w fun e w' => e = .returned (.bool true) ∧ ∃ pd' m', Bb W w' p q pd' m' ∧ Al pd' m' (k + 1) := by
    intro D M hc
    refine hc.mono ?_
    rintro e w' ⟨h1, h2, h3⟩
    exact ⟨h1, D, M, h2, h3⟩
  by_cases h0 : d = 0
  · subst h0
    exact go (step_make h hal hk s x1 t x2 a c x3 x4 va vc b y5 l1 ⟨room, crash, done, keep, names⟩ l2 x7 hkn ka kc y6)
  by_cases h1 : d = 1
  · subst h1
    exact go (step_write1 h hal hk s x1 t x2 a c x3 x4 va vc b y5 l1 ⟨room, crash, done, keep, names⟩ l2 x7 hkn ka kc y6)
  by_cases h2 : d = 2
  · subst h2
    exact go (step_write2 h hal hk s x1 t x2 a c x3 x4 va vc b y5 l1 ⟨room, crash, done, keep, names⟩ l2 x7 hkn ka kc y6)
  by_cases h3 : d = 3
  · subst h3
    exact go (step_safe h hal hk s x1 t x2 a c x3 x4 va vc b y5 l1 ⟨room, crash, done, keep, names⟩ l2 x7 hkn ka kc y6)
  by_cases h4 : d = 4
  · subst h4
    exact go (step_move h hal hk s x1 t x2 a c x3 x4 va vc b y5 l1 ⟨room, crash, done, keep, names⟩ l2 x7 hkn ka kc y6)
  by_cases h5 : d = 5
  · subst h5
    exact go (step_gone h hal hk s x1 t x2 a c x3 x4 va vc b y5 l1 ⟨room, crash, done, keep, names⟩ l2 x7 hkn ka kc y6)
  by_cases h6 : d = 6
  · subst h6
    exact go (step_names h hal hk s x1 t x2 a c x3 x4 va vc b y5 l1 ⟨room, crash, done, keep, names⟩ l2 x7 hkn ka kc y6)
  by_cases h7 : d = 7
  · subst h7
    exact go (step_read h hal hk s x1 t x2 a c x3 x4 va vc b y5 l1 ⟨room, crash, done, keep, names⟩ l2 x7 hkn ka kc y6)
  by_cases h8 : d = 8
  · subst h8
    exact go (step_size h hal hk s x1 t x2 a c x3 x4 va vc b y5 l1 ⟨room, crash, done, keep, names⟩ l2 x7 hkn ka kc y6)
  by_cases h9 : d = 9
  · subst h9
    exact go (step_fall h hal hk s x1 t x2 a c x3 x4 va vc b y5 l1 ⟨room, crash, done, keep, names⟩ l2 x7 hkn ka kc y6)
  exact go (step_else h hal hk d h0 h1 h2 h3 h4 h5 h6 h7 h8 h9 s x1 t x2 a c x3 x4 va vc b y5 l1 ⟨room, crash, done, keep, names⟩ l2 x7 hkn ka kc y6)

section
variable {W w : World} {p q : Nat} {d : PD} {m : DM} {k : Nat}
theorem bb_ddown2 (h : Bb W w p q d m) (ha : Al d m k) : Calls Try.prog 14 #[.pointer (some ⟨q, 0, none⟩)] w fun e w' => e = .returned (.bool d.down) ∧ w = w' := by
  have := bb_ddown h
  rw [al_down ha] at this
  exact this
theorem bb_dcalls2 (h : Bb W w p q d m) (ha : Al d m k) : Calls Try.prog 16 #[.pointer (some ⟨q, 0, none⟩)] w fun e w' => e = .returned (.int .i64 (d.calls : Int)) ∧ w = w' := by
  have := bb_dcalls h
  rw [al_calls ha] at this
  exact this
theorem bb_dfiles2 (h : Bb W w p q d m) (ha : Al d m k) (hk : k ≤ 200) {u : Value} {c : Nat} {cs : List Value} (hu : Rd w 3 u c cs) :
    Calls Try.prog 12 #[.pointer (some ⟨q, 0, none⟩)] w fun e w' => ∃ v, e = .returned v ∧ Bb W w' p q d m ∧ Rd w' 3 v d.list.length (fiCells d.list) ∧ Rd w' 3 u c cs := by
  have := bb_dfiles h ha hk hu
  rw [al_list ha] at this
  exact this
theorem list_len (ha : Al d m k) (hk : k ≤ 200) : d.list.length < 1000000 := by
  have := names_len ha.inv
  unfold PD.list
  rw [List.length_map]
  omega
end

theorem dq_down (d : PD) : (d.down != d.down) = false := by simp

set_option maxRecDepth 100000 in
set_option maxHeartbeats 8000000 in
set_option linter.unusedSimpArgs false in
set_option linter.unusedVariables false in
theorem diskRuns_walk (z : DP) (kv v : Value) (xs : List Act7) (W : World) (hz : RdI .i64 W kv z.keep) (hzn : -9223372036854775808 ≤ z.names ∧ z.names ≤ 9223372036854775807) (h : RdA W v xs) :
    Calls Try.prog 3 #[.agg #[.int .i64 z.room, .int .i64 z.crash, .bool z.done, kv, .int .i64 z.names], v] W fun e w' => e = .returned (.bool true) ∧ Below W.heap.size W w' := by
  have y3 := rd_of_rdI hz
  obtain ⟨ka, kc, rfl, _, _⟩ := rd_form y3
  obtain ⟨w0, hw0⟩ : ∃ w0, w0 = W.alloc (.cells #[.int .i64 z.room, .int .i64 z.crash, .bool z.done, .slice ka z.keep.length kc, .int .i64 z.names] 24) := ⟨_, rfl⟩
  have hb0 : Below W.heap.size W w0 := by subst hw0; exact (Below.refl _ _).alloc (Nat.le_refl _) _
  have hx0 : w0.heap[W.heap.size]? = some (.cells #[.int .i64 z.room, .int .i64 z.crash, .bool z.done, .slice ka z.keep.length kc, .int .i64 z.names] 24 (0, 0)) := by subst hw0; exact heap_alloc_new W _
  have hs0 : W.heap.size ≤ w0.heap.size := hb0.size
  have HRA := h
  have hra0 : RdA w0 v xs := ⟨h.1.below hb0 (Nat.le_refl _), fun x hx => (h.2 x hx).below hb0⟩
  obtain ⟨hr, hf⟩ := h
  have HR0 := hr
  obtain ⟨va, vc, rfl, _, _, _, _⟩ := hr
  have HR := Lib.hid HR0
  have HFT := Lib.hid hf
  have HHV := Lib.hid (heavy_any w0 _ xs hra0)
  have HB0 := Lib.hid hb0
  have HX0 := Lib.hid hx0
  have HW0 := Lib.hid hw0
  have hq : ∀ (w : World) (a : Addr), (binOp .eql 28 (.pointer (some a)) (.pointer none)).run Try.prog w = .ok (.bool false) w := fun w a => by kernel_rfl
  clear HR0 hf hra0 HRA hb0 hx0 hw0 y3 hz
  by_cases hn : xs.length ≤ 80 ∧ ∀ x ∈ xs, x.Ok
  · have HOK := Lib.hid hn.2
    have hn80 := hn.1
    have HH := Lib.hid (HHV.out false (by simp [hn.1]; exact hn.2))
    clear hn
    go_enter Try.func3, Try.ntmps3
    by_cases hkl : z.keep.length ≤ 50
    · go_wp2_with (go_at_call 4; rw [← HW0.out]; (with_reducible refine HH.out.mono ?_); rintro e wh ⟨rfl, hbh⟩; have hxh := (hbh.block _ (heap_lt HX0.out)).trans HX0.out; have ck : wh.cell? ⟨W.heap.size, 3, none⟩ = some (.slice ka z.keep.length kc) := blk_cell hxh; have HXH := Lib.hid hxh; have HBH := Lib.hid (HB0.out.trans (hbh.mono HB0.out.size)); clear hbh hxh)
      obtain ⟨w1, hw1⟩ : ∃ w1, w1 = wh.drew := ⟨_, rfl⟩
      have hb1 : Below W.heap.size W w1 := by subst hw1; exact HBH.out.drew
      have hx1 : w1.heap[W.heap.size]? = some (.cells #[.int .i64 z.room, .int .i64 z.crash, .bool z.done, .slice ka z.keep.length kc, .int .i64 z.names] 24 (0, 0)) := by subst hw1; exact HXH.out
      have HB1 := Lib.hid hb1
      have HX1 := Lib.hid hx1
      have Hw1 := Lib.hid hw1
      clear hw1 hb1 hx1 ck
      refine wp_region_two (fun wz => wz.heap[W.heap.size]? = some (.cells #[.int .i64 z.room, .int .i64 z.crash, .bool z.done, .slice ka z.keep.length kc, .int .i64 z.names] 24 (0, 0))) (fun wz => wz.heap[W.heap.size]? = some (.cells #[.int .i64 z.room, .int .i64 z.crash, .bool z.done, .slice ka z.keep.length kc, .int .i64 z.names] 24 (0, 0))) [(0, 0), (0, 2), (2, 1), (2, 3), (0, 4), (0, 5)] [] (by kernel_rfl) (by kernel_rfl) (by kernel_rfl) (by kernel_rfl) (by kernel_rfl) (by rw [← Hw1.out]; exact HX1.out) (by rw [← Hw1.out]; exact HX1.out) ?_
      simp only [planT, List.drop_succ_cons, List.drop_zero]
      rw [← Hw1.out]
      refine PlanT.take0 (v := ?vR0) (by kernel_rfl) ?yR0 ?rR0
      case yR0 => (intro wz hz; have c0 : wz.cell? ⟨W.heap.size, 0, none⟩ = some (.int .i64 z.room) := blk_cell hz; have c1 : wz.cell? ⟨W.heap.size, 1, none⟩ = some (.int .i64 z.crash) := blk_cell hz; have c2 : wz.cell? ⟨W.heap.size, 2, none⟩ = some (.bool z.done) := blk_cell hz; have c3 : wz.cell? ⟨W.heap.size, 3, none⟩ = some (.slice ka z.keep.length kc) := blk_cell hz; have c4 : wz.cell? ⟨W.heap.size, 4, none⟩ = some (.int .i64 z.names) := blk_cell hz; clear hz; go_simp; try with_reducible rfl)
      (try simp only [Act.put, List.setIfInBounds_toArray, List.set_cons_zero, List.set_cons_succ])
      refine PlanT.take0 (v := ?vR2) (by kernel_rfl) ?yR2 ?rR2
      case yR2 => (intro wz hz; have c0 : wz.cell? ⟨W.heap.size, 0, none⟩ = some (.int .i64 z.room) := blk_cell hz; have c1 : wz.cell? ⟨W.heap.size, 1, none⟩ = some (.int .i64 z.crash) := blk_cell hz; have c2 : wz.cell? ⟨W.heap.size, 2, none⟩ = some (.bool z.done) := blk_cell hz; have c3 : wz.cell? ⟨W.heap.size, 3, none⟩ = some (.slice ka z.keep.length kc) := blk_cell hz; have c4 : wz.cell? ⟨W.heap.size, 4, none⟩ = some (.int .i64 z.names) := blk_cell hz; clear hz; go_simp; try with_reducible rfl)
      (try simp only [Act.put, List.setIfInBounds_toArray, List.set_cons_zero, List.set_cons_succ])
      refine PlanT.exec2 (fun K hK => ⟨by kernel_rfl, ?_⟩)
      go_simp
      go_at_call 6
      (with_reducible refine (bb_new _ _ HB1.out z _).mono ?_)
      rintro e w2 ⟨p0, rfl, h2, hb2⟩
      have hx2 := (hb2.block _ (heap_lt HX1.out)).trans HX1.out
      have H2 := Lib.hid h2
      have HX2 := Lib.hid hx2
      clear h2 hb2 hx2
      refine hK.out _ _ HX2.out HX2.out ?_
      clear hK K
      (try simp only [Act.put, List.setIfInBounds_toArray, List.set_cons_zero, List.set_cons_succ])
      refine PlanT.exec2 (fun K hK => ⟨by kernel_rfl, ?_⟩)
      go_simp
      go_at_call 7
      (with_reducible refine (bb_make H2.out z _ _ _).mono ?_)
      rintro e w3 ⟨q0, rfl, h3, hb3⟩
      have hx3 := (hb3.block _ (heap_lt HX2.out)).trans HX2.out
      have H3 := Lib.hid h3
      have HX3 := Lib.hid hx3
      clear h3 hb3 hx3
      refine hK.out _ _ HX3.out HX3.out ?_
      clear hK K
      (try simp only [Act.put, List.setIfInBounds_toArray, List.set_cons_zero, List.set_cons_succ])
      refine PlanT.take0 (v := ?vR4) (by kernel_rfl) ?yR4 ?rR4
      case yR4 => (intro wz hz; have c0 : wz.cell? ⟨W.heap.size, 0, none⟩ = some (.int .i64 z.room) := blk_cell hz; have c1 : wz.cell? ⟨W.heap.size, 1, none⟩ = some (.int .i64 z.crash) := blk_cell hz; have c2 : wz.cell? ⟨W.heap.size, 2, none⟩ = some (.bool z.done) := blk_cell hz; have c3 : wz.cell? ⟨W.heap.size, 3, none⟩ = some (.slice ka z.keep.length kc) := blk_cell hz; have c4 : wz.cell? ⟨W.heap.size, 4, none⟩ = some (.int .i64 z.names) := blk_cell hz; clear hz; go_simp; try with_reducible rfl)
      (try simp only [Act.put, List.setIfInBounds_toArray, List.set_cons_zero, List.set_cons_succ])
      refine PlanT.take0 (v := ?vR5) (by kernel_rfl) ?yR5 ?rR5
      case yR5 => (intro wz hz; have c0 : wz.cell? ⟨W.heap.size, 0, none⟩ = some (.int .i64 z.room) := blk_cell hz; have c1 : wz.cell? ⟨W.heap.size, 1, none⟩ = some (.int .i64 z.crash) := blk_cell hz; have c2 : wz.cell? ⟨W.heap.size, 2, none⟩ = some (.bool z.done) := blk_cell hz; have c3 : wz.cell? ⟨W.heap.size, 3, none⟩ = some (.slice ka z.keep.length kc) := blk_cell hz; have c4 : wz.cell? ⟨W.heap.size, 4, none⟩ = some (.int .i64 z.names) := blk_cell hz; clear hz; go_simp; try with_reducible rfl)
      (try simp only [Act.put, List.setIfInBounds_toArray, List.set_cons_zero, List.set_cons_succ])
      refine PlanT.done (NoPanic.normal ?_)
      go_wp2
      go_loopw [5, 7] (fun dvv i wr => ∃ (k p : Nat) (d : PD) (m : DM), k ≤ xs.length ∧ i = .int .i64 k ∧ dvv = .pointer (some ⟨p, 0, none⟩) ∧ Hid (Bb W wr p q0 d m) ∧ Hid (Al d m k)) (fun _ i _ => xs.length - (intOf i).toNat)
      case atStart => exact ⟨0, p0, _, _, Nat.zero_le _, rfl, rfl, H3, Lib.hid (al_new z)⟩
      case round =>
        obtain ⟨k, p, d, m, hk, rfl, rfl, HB, HS⟩ := hrel
        by_cases hlt : k < xs.length
        · obtain ⟨x, hx⟩ : ∃ x, xs[k]? = some x := ⟨_, List.getElem?_eq_getElem hlt⟩
          have HF := Lib.hid (HFT.out x (List.mem_of_getElem? hx))
          have hok := HOK.out x (List.mem_of_getElem? hx)
          obtain ⟨b, o, rfl, hbl, e0, e1, e2, e3, e4, e5, e6, e7, e8, e9, e10⟩ := rda_cells HR.out hx
          have y3 := rd_of_rdI HF.out.keep
          obtain ⟨da, dc, hdv, _, _⟩ := RdB.form HF.out.data
          obtain ⟨na, nc, hnv, _, _⟩ := rd_form y3
          have HDV := Lib.hid hdv
          have HNV := Lib.hid hnv
          rw [hdv] at e5
          rw [hnv] at e9
          have HC := Lib.hid (show ∀ w', Below W.heap.size W w' → w'.cell? ⟨b, o + k * 11, none⟩ = some (.int .i64 x.d) ∧ w'.cell? ⟨b, o + k * 11 + 1, none⟩ = some (.string x.name) ∧ w'.cell? ⟨b, o + k * 11 + 2, none⟩ = some (.string x.dest) ∧ w'.cell? ⟨b, o + k * 11 + 3, none⟩ = some (.int .i64 x.a) ∧ w'.cell? ⟨b, o + k * 11 + 4, none⟩ = some (.int .i64 x.c) ∧ w'.cell? ⟨b, o + k * 11 + 5, none⟩ = some (.slice da x.data.length dc) ∧ w'.cell? ⟨b, o + k * 11 + 6, none⟩ = some (.int .i64 x.room) ∧ w'.cell? ⟨b, o + k * 11 + 7, none⟩ = some (.int .i64 x.crash) ∧ w'.cell? ⟨b, o + k * 11 + 8, none⟩ = some (.bool x.done) ∧ w'.cell? ⟨b, o + k * 11 + 9, none⟩ = some (.slice na x.keep.length nc) ∧ w'.cell? ⟨b, o + k * 11 + 10, none⟩ = some (.int .i64 x.names) from fun w' hw => ⟨(hw.cell (p := ⟨b, o + k * 11, none⟩) hbl).trans e0, (hw.cell (p := ⟨b, o + k * 11 + 1, none⟩) hbl).trans e1, (hw.cell (p := ⟨b, o + k * 11 + 2, none⟩) hbl).trans e2, (hw.cell (p := ⟨b, o + k * 11 + 3, none⟩) hbl).trans e3, (hw.cell (p := ⟨b, o + k * 11 + 4, none⟩) hbl).trans e4, (hw.cell (p := ⟨b, o + k * 11 + 5, none⟩) hbl).trans e5, (hw.cell (p := ⟨b, o + k * 11 + 6, none⟩) hbl).trans e6, (hw.cell (p := ⟨b, o + k * 11 + 7, none⟩) hbl).trans e7, (hw.cell (p := ⟨b, o + k * 11 + 8, none⟩) hbl).trans e8, (hw.cell (p := ⟨b, o + k * 11 + 9, none⟩) hbl).trans e9, (hw.cell (p := ⟨b, o + k * 11 + 10, none⟩) hbl).trans e10⟩)
          clear e0 e1 e2 e3 e4 e5 e6 e7 e8 e9 e10 hdv hnv y3
          have hk1 : k ≤ 200 := by omega
          have hk2 : k + 1 ≤ 200 := by omega
          have HSTEP := Lib.hid (show ∀ (w : World) (p : Nat), Bb W w p q0 d m → Calls Try.prog 9 #[.pointer (some ⟨p, 0, none⟩), .pointer (some ⟨q0, 0, none⟩), .agg #[.int .i64 x.d, .string x.name, .string x.dest, .int .i64 x.a, .int .i64 x.c, .slice da x.data.length dc, .int .i64 x.room, .int .i64 x.crash, .bool x.done, .slice na x.keep.length nc, .int .i64 x.names]] w fun e w' => e = .returned (.bool true) ∧ ∃ pd' m', Bb W w' p q0 pd' m' ∧ Al pd' m' (k + 1) from fun w p hb => by
            have := step_any hb HS.out hk1 x HF.out hok
            rw [HDV.out, HNV.out] at this
            exact this)
          clear hok
          obtain ⟨c0, c1, c2, c3, c4, c5, c6, c7, c8, c9, c10⟩ := HC.out _ HB.out.be
          by_cases h6 : x.d = 10
          · have h6' : (x.d == 10) = true := by simpa using h6
            clear h6
            go_wp2_with (first | (go_at_call 8; (with_reducible refine (bb_copy HB.out HS.out (by omega)).mono ?_); rintro e wc ⟨p1, rfl, hc⟩; obtain ⟨d0, d1, d2, d3, d4, d5, d6, d7, d8, d9, d10⟩ := HC.out _ hc.be; have H1 := Lib.hid hc; clear hc) | (go_at_call 9; (with_reducible refine (HSTEP.out _ _ H1.out).mono ?_); rintro e w4 ⟨rfl, pd4, m4, h4, al4⟩; have hll := list_len al4 hk2; have hq0 := dq_down pd4; have H4 := Lib.hid h4; have AL4 := Lib.hid al4; clear h4 al4) | (go_at_call 11; (with_reducible refine (bb_files H4.out AL4.out hk2).mono ?_); rintro e w5 ⟨v1, rfl, h5, rd1⟩; have RD1 := Lib.hid rd1; have H5 := Lib.hid h5; clear rd1 h5) | (go_at_call 12; (with_reducible refine (bb_dfiles2 H5.out AL4.out hk2 RD1.out).mono ?_); rintro e w6 ⟨v2, rfl, h6, rd2, rd3⟩; have RD2 := Lib.hid rd2; have RD3 := Lib.hid rd3; have H6 := Lib.hid h6; clear rd2 rd3 h6) | (go_at_call 10; (with_reducible refine (same3_any _ _ _ _ hll RD3.out RD2.out).mono ?_); rintro e w7 ⟨rfl, B7⟩; have H7 := Lib.hid (H6.out.below B7); clear B7) | (go_at_call 13; (with_reducible refine (bb_down H7.out).mono ?_); rintro e w8 ⟨rfl, rfl⟩) | (go_at_call 14; (with_reducible refine (bb_ddown2 H7.out AL4.out).mono ?_); rintro e w9 ⟨rfl, rfl⟩) | (go_at_call 15; (with_reducible refine (bb_calls H7.out).mono ?_); rintro e w10 ⟨rfl, rfl⟩) | (go_at_call 16; (with_reducible refine (bb_dcalls2 H7.out AL4.out).mono ?_); rintro e w11 ⟨rfl, rfl⟩))
            go_roundw
            case rel => exact ⟨k + 1, p1, pd4, m4, by omega, by go_num, rfl, H7, AL4⟩
            case measure => simp [intOf]; omega
          · have h6' : (x.d == 10) = false := by simpa using h6
            clear h6
            go_wp2_with (first | (go_at_call 9; (with_reducible refine (HSTEP.out _ _ HB.out).mono ?_); rintro e w4 ⟨rfl, pd4, m4, h4, al4⟩; have hll := list_len al4 hk2; have hq0 := dq_down pd4; have H4 := Lib.hid h4; have AL4 := Lib.hid al4; clear h4 al4) | (go_at_call 11; (with_reducible refine (bb_files H4.out AL4.out hk2).mono ?_); rintro e w5 ⟨v1, rfl, h5, rd1⟩; have RD1 := Lib.hid rd1; have H5 := Lib.hid h5; clear rd1 h5) | (go_at_call 12; (with_reducible refine (bb_dfiles2 H5.out AL4.out hk2 RD1.out).mono ?_); rintro e w6 ⟨v2, rfl, h6, rd2, rd3⟩; have RD2 := Lib.hid rd2; have RD3 := Lib.hid rd3; have H6 := Lib.hid h6; clear rd2 rd3 h6) | (go_at_call 10; (with_reducible refine (same3_any _ _ _ _ hll RD3.out RD2.out).mono ?_); rintro e w7 ⟨rfl, B7⟩; have H7 := Lib.hid (H6.out.below B7); clear B7) | (go_at_call 13; (with_reducible refine (bb_down H7.out).mono ?_); rintro e w8 ⟨rfl, rfl⟩) | (go_at_call 14; (with_reducible refine (bb_ddown2 H7.out AL4.out).mono ?_); rintro e w9 ⟨rfl, rfl⟩) | (go_at_call 15; (with_reducible refine (bb_calls H7.out).mono ?_); rintro e w10 ⟨rfl, rfl⟩) | (go_at_call 16; (with_reducible refine (bb_dcalls2 H7.out AL4.out).mono ?_); rintro e w11 ⟨rfl, rfl⟩))
            go_roundw
            case rel => exact ⟨k + 1, p, pd4, m4, by omega, by go_num, rfl, H7, AL4⟩
            case measure => simp [intOf]; omega
        · go_wp2_with (go_at_call 5; (with_reducible refine (awake4_any _).mono ?_); rintro e w15 ⟨rfl, B15⟩)
          go_ret
          exact ⟨rfl, HB.out.be.trans (B15.mono HB.out.be.size)⟩
    · go_wp2_with (first | (go_at_call 4; rw [← HW0.out]; (with_reducible refine HH.out.mono ?_); rintro e wh ⟨rfl, hbh⟩; have ck : wh.cell? ⟨W.heap.size, 3, none⟩ = some (.slice ka z.keep.length kc) := blk_cell ((hbh.block _ (heap_lt HX0.out)).trans HX0.out); have HBH := Lib.hid (HB0.out.trans (hbh.mono HB0.out.size)); clear hbh) | (go_at_call 5; (with_reducible refine (awake4_any _).mono ?_); rintro e w15 ⟨rfl, B15⟩))
      go_ret
      exact ⟨rfl, HBH.out.trans (B15.mono HBH.out.size)⟩
  · have HH := Lib.hid (HHV.out true (by simp only [true_iff]; exact hn))
    clear hn
    go_enter Try.func3, Try.ntmps3
    go_wp2_with (first | (go_at_call 4; rw [← HW0.out]; (with_reducible refine HH.out.mono ?_); rintro e wh ⟨rfl, hbh⟩; have HBH := Lib.hid (HB0.out.trans (hbh.mono HB0.out.size)); clear hbh) | (go_at_call 5; (with_reducible refine (awake4_any _).mono ?_); rintro e w15 ⟨rfl, B15⟩))
    go_ret
    exact ⟨rfl, HBH.out.trans (B15.mono HBH.out.size)⟩
end Go.Proofs.Ytfeogoihkpclcaa

/-
  How arguments are opened: a slice of acts.
-/
namespace Go.Proofs.Ytfeogoihkpclcaa
open Go.ChangeShapes Go.WideShapes Go.ChangeAt Go.RowKit Go.Deep

def Act7.none_ : Act7 := ⟨0, ⟨#[]⟩, ⟨#[]⟩, 0, 0, .slice none 0 0, [], 0, 0, false, .slice none 0 0, [], 0⟩

theorem aflat_length : ∀ es : List Act7, (es.flatMap Act7.cells).length = es.length * 11
  | [] => rfl
  | e :: es => by
    rw [List.flatMap_cons, List.length_append, aflat_length es, List.length_cons]
    simp only [Act7.cells, List.length_cons, List.length_nil]
    omega

theorem aflat_at : ∀ (es : List Act7) (i t : Nat), i < es.length → t < 11 → (es.flatMap Act7.cells)[i * 11 + t]? = (es.getD i Act7.none_).cells[t]?
  | [], i, t, h, _ => by simp at h
  | e :: es, 0, t, _, ht => by
    rw [List.flatMap_cons, Nat.zero_mul, Nat.zero_add, List.getElem?_append_left (by simp [Act7.cells]; omega)]
    rfl
  | e :: es, i + 1, t, h, ht => by
    rw [List.flatMap_cons, List.getElem?_append_right (by simp [Act7.cells]; omega)]
    have : (i + 1) * 11 + t - e.cells.length = i * 11 + t := by simp [Act7.cells]; omega
    rw [this, aflat_at es i t (by simpa using h) ht]
    simp [List.getD]

section
variable {H : Type} {enc : TypeId × Value → H} {w : World} {base : Nat} {spare : Nat → Bool} {held : Bool}

theorem rdI_cell {P : Program} {k : IntKind} {t e : TypeId} {m n : Nat} {c : Value} {d : DataW H} {p : List MemPlace} (ht : P.underlying t = some (.slice e)) (he : P.underlying e = some (.int k)) (hc : P.cellsOf e = 1)
    (hf : DataW.trod enc P w m spare held n t [c] = some (d, p)) : ∃ zs, RdI k w c zs := by
  rcases open_ints ht he hc hf with ⟨hcs, _⟩ | ⟨x, l, cc, zs, hcs, _, hl, hm, hz, _, hcell, hwz⟩
  · simp at hcs
    subst hcs
    exact ⟨[], none, 0, rfl, Nat.le_refl _, Nat.zero_le _, by simp, .inl ⟨rfl, fun _ => rfl⟩⟩
  · simp at hcs
    subst hcs
    have hz' : l ≤ zs.length := by rw [hz]; split <;> omega
    have hlen : (zs.take l).length = l := by rw [List.length_take]; omega
    refine ⟨zs.take l, some x, cc, by rw [hlen], by rw [hlen]; exact hl, hm, fun n hn => hwz n (List.mem_of_mem_take hn), ?_⟩
    by_cases h0 : l = 0
    · left; subst h0; exact ⟨rfl, fun h => by cases h⟩
    · right
      obtain ⟨b, off, spot⟩ := x
      have hc0 := hcell 0 (by omega)
      have hspot : spot = none := by simpa [Addr.add] using World.cell?_spot hc0
      subst hspot
      refine ⟨b, off, rfl, World.block_lt_of_cell? w _ hc0, fun i hi => ?_⟩
      have hi' : i < l := by omega
      have h1 := hcell i (by omega)
      have hadd : (⟨b, off, none⟩ : Addr).add i = ⟨b, off + i, none⟩ := by unfold Addr.add; split <;> simp_all
      rw [hadd] at h1
      rw [h1]
      simp [List.getD, hi']

theorem some_at {α : Type} {xs : List α} {i n : Nat} (h : xs.length = n) (hi : i < n) : ∃ y, xs[i]? = some y := ⟨xs[i]'(by omega), List.getElem?_eq_getElem (by omega)⟩


set_option maxRecDepth 100000 in
theorem planCells_open {n : Nat} {cs : List Value} {x : DataW H × List MemPlace} (h : DataW.trod enc Try.prog w base spare held n 24 cs = some x) : ∃ (z : DP) (kv : Value), cs = [.int .i64 z.room, .int .i64 z.crash, .bool z.done, kv, .int .i64 z.names] ∧ RdI .i64 w kv z.keep ∧ (-9223372036854775808 ≤ z.names ∧ z.names ≤ 9223372036854775807) := by
  obtain ⟨xs, m, _, _, hl, hx, hf⟩ := DataW.trod_struct Try.underlying24 h
  have hl' : cs.length = 5 := hl.trans (by kernel_rfl)
  match cs, hl' with
  | [c0, c1, c2, c3, c4], _ =>
    have cI : Try.prog.cellsOf 3 = 1 := by kernel_rfl
    have cN : Try.prog.cellsOf 22 = 1 := by kernel_rfl
    have cO : Try.prog.cellsOf 4 = 1 := by kernel_rfl
    have h0 : DataW.trod enc Try.prog w base spare held m 3 (([c0, c1, c2, c3, c4].drop 0).take (Try.prog.cellsOf 3)) = xs[0]? := hf 0 _ rfl
    have h1 : DataW.trod enc Try.prog w base spare held m 3 (([c0, c1, c2, c3, c4].drop 1).take (Try.prog.cellsOf 3)) = xs[1]? := hf 1 _ rfl
    have h2 : DataW.trod enc Try.prog w base spare held m 4 (([c0, c1, c2, c3, c4].drop 2).take (Try.prog.cellsOf 4)) = xs[2]? := hf 2 _ rfl
    have h3 : DataW.trod enc Try.prog w base spare held m 22 (([c0, c1, c2, c3, c4].drop 3).take (Try.prog.cellsOf 22)) = xs[3]? := hf 3 _ rfl
    have h4 : DataW.trod enc Try.prog w base spare held m 3 (([c0, c1, c2, c3, c4].drop 4).take (Try.prog.cellsOf 3)) = xs[4]? := hf 4 _ rfl
    rw [cI] at h0 h1 h4
    rw [cO] at h2
    rw [cN] at h3
    obtain ⟨y0, e0⟩ := some_at (i := 0) hx (by decide)
    obtain ⟨y1, e1⟩ := some_at (i := 1) hx (by decide)
    obtain ⟨y2, e2⟩ := some_at (i := 2) hx (by decide)
    obtain ⟨y3, e3⟩ := some_at (i := 3) hx (by decide)
    obtain ⟨y4, e4⟩ := some_at (i := 4) hx (by decide)
    obtain ⟨r, q0, _, _⟩ := DataW.trod_int Try.underlying3 (h0.trans e0)
    obtain ⟨c, q1, _, _⟩ := DataW.trod_int Try.underlying3 (h1.trans e1)
    obtain ⟨b, q2, _⟩ := DataW.trod_bool Try.underlying4 (h2.trans e2)
    obtain ⟨nn, q4, _, wn⟩ := DataW.trod_int Try.underlying3 (h4.trans e4)
    have h3' : DataW.trod enc Try.prog w base spare held m 22 [c3] = some (y3.1, y3.2) := h3.trans e3
    obtain ⟨l3, r3⟩ := rdI_cell Try.underlying22 Try.underlying3 (by kernel_rfl) h3'
    simp at q0 q1 q2 q4
    subst q0 q1 q2 q4
    exact ⟨⟨r, c, b, l3, nn⟩, c3, rfl, r3, bounds_i64 wn⟩

set_option maxRecDepth 100000 in
theorem plan_open {r : Reach} {b0 : Nat} {v : Value} {d : DataW H} {p : List MemPlace} (hv : Value.okWide Try.prog w r b0 24 v) (h : DataW.Trod enc Try.prog w base spare held 24 v d p) :
    ∃ (z : DP) (kv : Value), v = .agg #[.int .i64 z.room, .int .i64 z.crash, .bool z.done, kv, .int .i64 z.names] ∧ RdI .i64 w kv z.keep ∧ (-9223372036854775808 ≤ z.names ∧ z.names ≤ 9223372036854775807) := by
  obtain ⟨cs, rfl, _⟩ := okWide_struct Try.underlying24 hv
  obtain ⟨n, hn⟩ := h
  obtain ⟨z, kv, hc, h1, h2⟩ := planCells_open hn
  refine ⟨z, kv, ?_, h1, h2⟩
  have : cs.toList = [.int .i64 z.room, .int .i64 z.crash, .bool z.done, kv, .int .i64 z.names] := by simpa [Value.cells] using hc
  congr 1
  exact Array.toList_inj.1 this

set_option maxRecDepth 100000 in
theorem actCells_open {n : Nat} {cs : List Value} {x : DataW H × List MemPlace} (h : DataW.trod enc Try.prog w base spare held n 34 cs = some x) : ∃ e : Act7, cs = e.cells ∧ e.Fits w := by
  obtain ⟨xs, m, _, _, hl, hx, hf⟩ := DataW.trod_struct Try.underlying34 h
  have hl' : cs.length = 11 := hl.trans (by kernel_rfl)
  match cs, hl' with
  | [c0, c1, c2, c3, c4, c5, c6, c7, c8, c9, c10], _ =>
    have cS : Try.prog.cellsOf 9 = 1 := by kernel_rfl
    have cI : Try.prog.cellsOf 3 = 1 := by kernel_rfl
    have cB : Try.prog.cellsOf 32 = 1 := by kernel_rfl
    have cP : Try.prog.cellsOf 24 = 5 := by kernel_rfl
    have h0 : DataW.trod enc Try.prog w base spare held m 3 (([c0, c1, c2, c3, c4, c5, c6, c7, c8, c9, c10].drop 0).take (Try.prog.cellsOf 3)) = xs[0]? := hf 0 _ rfl
    have h1 : DataW.trod enc Try.prog w base spare held m 9 (([c0, c1, c2, c3, c4, c5, c6, c7, c8, c9, c10].drop 1).take (Try.prog.cellsOf 9)) = xs[1]? := hf 1 _ rfl
    have h2 : DataW.trod enc Try.prog w base spare held m 9 (([c0, c1, c2, c3, c4, c5, c6, c7, c8, c9, c10].drop 2).take (Try.prog.cellsOf 9)) = xs[2]? := hf 2 _ rfl
    have h3 : DataW.trod enc Try.prog w base spare held m 3 (([c0, c1, c2, c3, c4, c5, c6, c7, c8, c9, c10].drop 3).take (Try.prog.cellsOf 3)) = xs[3]? := hf 3 _ rfl
    have h4 : DataW.trod enc Try.prog w base spare held m 3 (([c0, c1, c2, c3, c4, c5, c6, c7, c8, c9, c10].drop 4).take (Try.prog.cellsOf 3)) = xs[4]? := hf 4 _ rfl
    have h5 : DataW.trod enc Try.prog w base spare held m 32 (([c0, c1, c2, c3, c4, c5, c6, c7, c8, c9, c10].drop 5).take (Try.prog.cellsOf 32)) = xs[5]? := hf 5 _ rfl
    have h6 : DataW.trod enc Try.prog w base spare held m 24 (([c0, c1, c2, c3, c4, c5, c6, c7, c8, c9, c10].drop 6).take (Try.prog.cellsOf 24)) = xs[6]? := hf 6 _ rfl
    rw [cI] at h0 h3 h4
    rw [cS] at h1 h2
    rw [cB] at h5
    rw [cP] at h6
    obtain ⟨y0, e0⟩ := some_at (i := 0) hx (by decide)
    obtain ⟨y1, e1⟩ := some_at (i := 1) hx (by decide)
    obtain ⟨y2, e2⟩ := some_at (i := 2) hx (by decide)
    obtain ⟨y3, e3⟩ := some_at (i := 3) hx (by decide)
    obtain ⟨y4, e4⟩ := some_at (i := 4) hx (by decide)
    obtain ⟨y5, e5⟩ := some_at (i := 5) hx (by decide)
    obtain ⟨y6, e6⟩ := some_at (i := 6) hx (by decide)
    obtain ⟨d, q0, _, _⟩ := DataW.trod_int Try.underlying3 (h0.trans e0)
    obtain ⟨u, q1, _, hu⟩ := DataW.trod_string Try.underlying9 (h1.trans e1)
    obtain ⟨t, q2, _, ht⟩ := DataW.trod_string Try.underlying9 (h2.trans e2)
    obtain ⟨a, q3, _, wa⟩ := DataW.trod_int Try.underlying3 (h3.trans e3)
    obtain ⟨c, q4, _, wc⟩ := DataW.trod_int Try.underlying3 (h4.trans e4)
    have h5' : DataW.trod enc Try.prog w base spare held m 32 [c5] = some (y5.1, y5.2) := h5.trans e5
    obtain ⟨z5, r5⟩ := rdI_cell Try.underlying32 Try.underlying5 (by kernel_rfl) h5'
    obtain ⟨l5, b5⟩ := r5.bytes
    have h6' : DataW.trod enc Try.prog w base spare held m 24 [c6, c7, c8, c9, c10] = some (y6.1, y6.2) := h6.trans e6
    obtain ⟨z, kv, q6, rk, wn⟩ := planCells_open h6'
    simp at q0 q1 q2 q3 q4
    obtain ⟨g6, g7, g8, g9, g10⟩ : c6 = .int .i64 z.room ∧ c7 = .int .i64 z.crash ∧ c8 = .bool z.done ∧ c9 = kv ∧ c10 = .int .i64 z.names := by simpa using q6
    subst q0 q1 q2 q3 q4 g6 g7 g8 g9 g10
    exact ⟨⟨d, u, t, a, c, c5, l5, z.room, z.crash, z.done, c9, z.keep, z.names⟩, rfl, hu, ht, bounds_i64 wa, bounds_i64 wc, b5, rk, wn⟩

set_option maxRecDepth 100000 in
theorem rdA_open {b0 : Nat} {m : Nat} {v : Value} {d : DataW H} {p : List MemPlace} (hok : Value.okWide Try.prog w .any b0 25 v) (hd : DataW.Trod enc Try.prog w m spare held 25 v d p) : ∃ es, RdA w v es := by
  obtain ⟨a, len, cap, rfl⟩ := okWide_slice Try.underlying25 hok
  obtain ⟨fuel, hf⟩ := hd
  rcases open_slice Try.underlying25 hf with ⟨hcs, _⟩ | ⟨x, l, c, q, n, D, Pl, hcs, _, hl, hm, hq, _, hcell⟩
  · simp [Value.cells] at hcs
    obtain ⟨rfl, rfl, rfl⟩ := hcs
    exact ⟨[], Rd.nil _ _, by simp⟩
  · simp [Value.cells] at hcs
    obtain ⟨rfl, rfl, rfl⟩ := hcs
    have cE : Try.prog.cellsOf 34 = 11 := by kernel_rfl
    rw [cE] at hcell
    have hlq : len ≤ q := by rw [hq]; split <;> omega
    have key : ∀ k, k ≤ len → ∃ es : List Act7, es.length = k ∧ (∀ e ∈ es, e.Fits w) ∧ ∀ i, i < k → w.cells? m (x.add (i * 11)) 11 = some (es.getD i Act7.none_).cells := by
      intro k
      induction k with
      | zero => exact fun _ => ⟨[], rfl, by simp, fun i hi => by omega⟩
      | succ k ih =>
        intro hk
        obtain ⟨es, h1, h2, h3⟩ := ih (by omega)
        obtain ⟨cs', hc, ht⟩ := hcell k (by omega)
        obtain ⟨e, rfl, he⟩ := actCells_open ht
        refine ⟨es ++ [e], by simp [h1], ?_, ?_⟩
        · intro e' he'
          rcases List.mem_append.1 he' with h | h
          · exact h2 e' h
          · have : e' = e := by simpa using h
            subst this; exact he
        · intro i hi
          rcases Nat.lt_or_ge i k with hik | hik
          · rw [h3 i hik]
            simp [List.getD, List.getElem?_append_left (by omega : i < es.length)]
          · have : i = k := by omega
            subst this
            rw [hc]
            simp [List.getD, h1]
    obtain ⟨es, h1, h2, h3⟩ := key len (Nat.le_refl _)
    refine ⟨es, ?_, h2⟩
    by_cases h0 : len = 0
    · subst h0
      have : es = [] := List.eq_nil_of_length_eq_zero h1
      subst this
      exact ⟨some x, cap, rfl, hl, hm, by simp, .inl ⟨rfl, fun h => by cases h⟩⟩
    · obtain ⟨b, off, spot⟩ := x
      obtain ⟨_, _, hat⟩ := World.cells?_some (h3 0 (by omega))
      have hc0 := hat 0 (by omega)
      have hspot : spot = none := by
        have : ∃ v, w.cell? (((⟨b, off, spot⟩ : Addr).add (0 * 11)).add 0) = some v := ⟨_, hc0⟩
        obtain ⟨v, hv⟩ := this
        simpa [Addr.add] using World.cell?_spot hv
      subst hspot
      have hadd : ∀ i, (⟨b, off, none⟩ : Addr).add i = ⟨b, off + i, none⟩ := by intro i; unfold Addr.add; split <;> simp_all
      have hadd2 : ∀ o i, (⟨b, o, none⟩ : Addr).add i = ⟨b, o + i, none⟩ := by intro o i; unfold Addr.add; split <;> simp_all
      have hlen : (es.flatMap Act7.cells).length = len * 11 := by
        rw [aflat_length, h1]
      refine ⟨some ⟨b, off, none⟩, cap, by rw [h1], by omega, hm, by rw [hlen, h1], .inr ⟨b, off, rfl, ?_, ?_⟩⟩
      · have : ∃ v, w.cell? ⟨b, off, none⟩ = some v := ⟨(es.getD 0 Act7.none_).cells[0], by rw [hadd, hadd2] at hc0; exact hc0⟩
        obtain ⟨v, hv⟩ := this
        exact World.block_lt_of_cell? w _ hv
      · intro j u hj
        have hj' : j < len * 11 := by
          rcases Nat.lt_or_ge j (len * 11) with h | h
          · exact h
          · rw [List.getElem?_eq_none (by omega)] at hj; cases hj
        have hd : j = j / 11 * 11 + j % 11 := by omega
        obtain ⟨_, _, hat⟩ := World.cells?_some (h3 (j / 11) (by omega))
        have := hat (j % 11) (by omega)
        rw [hadd, hadd2, Nat.add_assoc, ← hd] at this
        rw [this]
        rw [hd, aflat_at es (j / 11) (j % 11) (by omega) (by omega)] at hj
        exact hj
end
end Go.Proofs.Ytfeogoihkpclcaa
