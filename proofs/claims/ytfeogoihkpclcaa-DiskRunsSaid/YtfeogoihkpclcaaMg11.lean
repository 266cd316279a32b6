import Derived.Test.YtfeogoihkpclcaaMg10

/-
  Write.
-/
namespace Go.Proofs.Ytfeogoihkpclcaa
open Go.RowKit

def PD.used (d : PD) : Nat := (d.names.map fun x => (d.file x.2).now.length).sum

def PD.write (d : PD) (n : List UInt8) (a : Int) (l : List UInt8) : Nat × PD :=
  if d.down then (7, d) else match dfind d.names n with
  | none => (2, d)
  | some id =>
    if a < 0 ∨ ((d.file id).now.length : Int) < a then (1, d)
    else if (1048576 : Int) < a + (l.length : Int) then (4, d)
    else if d.room < (d.used : Int) + max 0 (a + (l.length : Int) - ((d.file id).now.length : Int)) then (6, d)
    else (d.err, d.after fun d => { d with files := d.files.set id ((d.file id).wrote a.toNat l) })

theorem sum_le {α : Type} (l : List α) (f : α → Nat) (b : Nat) (h : ∀ x ∈ l, f x ≤ b) : (l.map f).sum ≤ l.length * b := by
  induction l with
  | nil => simp
  | cons x r ih =>
    simp only [List.map_cons, List.sum_cons, List.length_cons, Nat.succ_mul]
    have := h x (by simp)
    have := ih fun y hy => h y (by simp [hy])
    omega

theorem Small.used {d : PD} (h : Small d) : d.used < 100000000000 := by
  have h1 : d.used ≤ d.names.length * 2000000 := by
    refine sum_le _ _ _ fun x hx => ?_
    have hi := h.idn x hx
    have : d.file x.2 ∈ d.files := by unfold PD.file; rw [List.getD_eq_getElem?_getD, List.getElem?_eq_getElem hi]; exact List.getElem_mem hi
    have := (h.fl _ this).2.1
    omega
  have := h.names
  omega

/-- How many bytes all files have. -/
theorem used_at {g : Gh} {w : World} {p : Nat} {d : PD} (h : DiskAt g w p d) (hsm : Small d) :
    Calls Try.prog 51 #[.pointer (some ⟨p, 0, none⟩)] w fun e w' => e = .returned (.int .i64 (d.used : Int)) ∧ Below w.heap.size w w' := by
  have c6 : w.cell? ⟨p, 6, none⟩ = some g.nv := blk_cell h.blk
  have c5 : w.cell? ⟨p, 5, none⟩ = some g.fv := blk_cell h.blk
  have hu := hsm.used
  by_cases h0 : d.files = []
  · have hnn : d.names = [] := by
      cases hn : d.names with
      | nil => rfl
      | cons x r => have := hsm.idn x (by rw [hn]; simp); rw [h0] at this; simp at this
    refine used_any w p g.nv d.names (fun id => (d.file id).now.length) 0 0 0 c6 h.nr (.inl hnn) (fun x hx => by rw [hnn] at hx; cases hx) (show d.used < 1000000000000 by omega)
  · have hpos : 0 < d.files.length := List.length_pos_iff.2 h0
    obtain ⟨fb, cap, x0, hfv, _, _, _, _, _, _, _, _, _⟩ := h.file (List.getElem?_eq_getElem hpos)
    rw [hfv] at c5
    refine used_any w p g.nv d.names (fun id => (d.file id).now.length) fb g.l.length cap c6 h.nr (.inr c5) (fun x hx => ?_) (show d.used < 1000000000000 by omega)
    have hi := hsm.idn x hx
    obtain ⟨fb', cap', x', hfv', hlt, _, hfa, _, _, _, e1, _, _⟩ := h.file (List.getElem?_eq_getElem hi)
    rw [hfv] at hfv'
    cases hfv'
    obtain ⟨a, c, hvn, _, _⟩ := RdB.form hfa.vn.read
    have hfile : d.file x.2 = d.files[x.2] := by unfold PD.file; rw [List.getD_eq_getElem?_getD, List.getElem?_eq_getElem hi]; rfl
    exact ⟨hlt, a, c, by rw [e1, hvn, hfile]⟩

/-- Bytes that can be read stay so, where their block stays. -/
theorem rdB_kept {R : Nat → Prop} {w w' : World} {v : Value} {l : List UInt8} (h : RdB w v l) (hk : Kept R w w') (hR : l ≠ [] → ∀ k, v.ownBlock = some k → k < w.heap.size → R k) : RdB w' v l := by
  obtain ⟨a, cap, rfl, h1, h2, h0, h3⟩ := h
  refine ⟨a, cap, rfl, h1, h2, h0, ?_⟩
  rcases h3 with h3 | ⟨b, off, rfl, h4, h5⟩
  · exact .inl h3
  · by_cases hl : l = []
    · subst hl
      exact .inr ⟨b, off, rfl, Nat.lt_of_lt_of_le h4 hk.size, fun j u hj => by simp at hj⟩
    · exact .inr ⟨b, off, rfl, Nat.lt_of_lt_of_le h4 hk.size, fun j u hj => (hk.cell (p := ⟨b, off + j, none⟩) (hR hl b rfl h4)).trans (h5 j u hj)⟩

theorem max_two {P : Program} (ts : Array TypeId) (t : TypeId) (x y : Int) (w : World) : (Builtin.max_ ts t #[.int .i64 x, .int .i64 y]).run P w = .ok (.int .i64 (max x y)) w := by
  rw [run_max_int2]
  congr 2
  split <;> omega

theorem enters_write1 : Enters Try.prog 52 := enters_of Try.func52 (by kernel_rfl) rfl

/-- What a Write leaves behind it, whatever it tells. -/
def Wrote (g : Gh) (w : World) (p : Nat) (r : Nat × PD) (e : Ending) (w' : World) : Prop := e = .returned (.int .i64 (r.1 : Int)) ∧ ∃ g', DiskAt g' w' p r.2 ∧ Step g g' w w'

set_option maxRecDepth 100000 in
set_option maxHeartbeats 4000000 in
set_option linter.unusedSimpArgs false in
theorem write_at {g : Gh} {w : World} {p : Nat} {d : PD} (h : DiskAt g w p d) (hsm : Small d) (hcl : d.calls + 1 < 10000) (s : ByteArray) (hs : s.size ≤ maxLen) (a : Int) (vb : Value) (l : List UInt8) (hrd : RdB w vb l) (hll : l.length < 1000000000000) (hvb : l ≠ [] → ∀ k, vb.ownBlock = some k → g.o k = .out) :
    Calls Try.prog 18 #[.pointer (some ⟨p, 0, none⟩), .string s, .int .i64 a, vb] w (Wrote g w p (d.write s.data.toList a l)) := by
  obtain ⟨w1, hw1⟩ : ∃ w1, w1 = (w.alloc (.cells #[.int .i64 a] 3)).alloc (.cells #[vb] 32) := ⟨_, rfl⟩
  have hs1 : w1.heap.size = w.heap.size + 2 := by subst hw1; simp
  have hbel : Below w.heap.size w w1 := by subst hw1; exact ((Below.refl _ _).alloc (Nat.le_refl _) _).alloc (by simp) _
  have hd1 : DiskAt g w1 p d := h.below hbel
  have hst1 : Step g g w w1 := Step.below hbel
  have hba : w1.cell? ⟨w.heap.size, 0, none⟩ = some (.int .i64 a) := by
    subst hw1
    rw [World.cell?_of_block (a := ⟨w.heap.size, 0, none⟩) (Below.heap_alloc _ _ _ (by simp)), blk_cell (heap_alloc_new w _)]
    rfl
  have hbb : w1.cell? ⟨w.heap.size + 1, 0, none⟩ = some vb := by
    subst hw1
    rw [blk_cell (heap_new2 w _ _)]
    rfl
  obtain ⟨av, cv, rfl, _, _⟩ := hrd.form
  have c4 : w1.cell? ⟨p, 4, none⟩ = some (.bool d.down) := blk_cell hd1.blk
  have hpw := blk_lt h.blk
  have Hw1 := Lib.hid hw1
  have HH := Lib.hid h
  have HSM := Lib.hid hsm
  have HRD := Lib.hid hrd
  have HBEL := Lib.hid hbel
  have HD1 := Lib.hid hd1
  have HST1 := Lib.hid hst1
  have HS1 := Lib.hid hs1
  clear h hrd hbel hw1 hst1 hs1
  cases hdn : d.down with
  | true =>
    rw [show d.write s.data.toList a l = (7, d) by unfold PD.write; simp [hdn]]
    rw [hdn] at c4
    have HSH := Lib.hid (shut_any w1 p true c4)
    clear hdn c4 hsm hd1
    go_enter Try.func18, Try.ntmps18
    go_wp2_with (go_at_call 46; rw [← Hw1.out]; refine HSH.out.mono ?_; rintro e w5 ⟨rfl, rfl⟩)
    go_ret
    exact ⟨rfl, g, HD1.out, HST1.out⟩
  | false =>
    rw [hdn] at c4
    have HSH := Lib.hid (shut_any w1 p false c4)
    rcases find_at hd1 s hs hsm.idn with ⟨hf, hcall⟩ | ⟨id, fb, cap, x, f, hf, hidl, hfv, hx, hff, hofb, hfbl, hfa, e0, e1, e2, ef, hcall⟩
    · rw [show d.write s.data.toList a l = (2, d) by unfold PD.write; simp [hdn, hf]]
      have HC := Lib.hid hcall
      have hq := eqf_nil2
      clear hcall hf hdn c4 hsm hd1
      go_enter Try.func18, Try.ntmps18
      go_wp2_with (first | (go_at_call 46; rw [← Hw1.out]; refine HSH.out.mono ?_; rintro e w5 ⟨rfl, rfl⟩) | (go_at_call 42; refine HC.out.mono ?_; rintro e w5 ⟨rfl, rfl⟩))
      go_ret
      have hb : Below w1.heap.size w1 (w1.alloc (.cells #[.pointer none] 83)) := (Below.refl _ _).alloc (Nat.le_refl _) _
      exact ⟨rfl, g, HD1.out.below hb, HST1.out.trans (Step.below hb)⟩
    · have hfile : d.file id = f := by unfold PD.file; rw [List.getD_eq_getElem?_getD, hff]; rfl
      have hfsm := hsm.fl f (List.mem_of_getElem? hff)
      obtain ⟨_, hnow, _⟩ := hfsm
      have HC := Lib.hid hcall
      have hq := eqf_nil
      obtain ⟨w2, hw2⟩ : ∃ w2, w2 = (w1.alloc (.cells #[.pointer (some ⟨fb, id * 3, none⟩)] 83)).drew := ⟨_, rfl⟩
      have hb2 : Below w1.heap.size w1 w2 := by subst hw2; exact ((Below.refl _ _).alloc (Nat.le_refl _) _).drew
      have hdf : DiskAt g w2 p d := hd1.below hb2
      have hcf : w2.cell? ⟨w1.heap.size, 0, none⟩ = some (.pointer (some ⟨fb, id * 3, none⟩)) := by
        subst hw2
        exact blk_cell (i := 0) (heap_alloc_new w1 (.cells #[.pointer (some ⟨fb, id * 3, none⟩)] 83))
      obtain ⟨an, cn, hvn, _, _⟩ := RdB.form hfa.vn.read
      have hcn : w2.cell? ⟨fb, id * 3 + 1, none⟩ = some (.slice an f.now.length cn) := by rw [← hvn]; exact (hb2.cell (p := ⟨fb, id * 3 + 1, none⟩) hfbl).trans e1
      have hca : w2.cell? ⟨w.heap.size, 0, none⟩ = some (.int .i64 a) := (hb2.cell (p := ⟨w.heap.size, 0, none⟩) (World.block_lt_of_cell? _ _ hba)).trans hba
      have hcb : w2.cell? ⟨w.heap.size + 1, 0, none⟩ = some (.slice av l.length cv) := (hb2.cell (p := ⟨w.heap.size + 1, 0, none⟩) (World.block_lt_of_cell? _ _ hbb)).trans hbb
      have hcr : w2.cell? ⟨p, 0, none⟩ = some (.int .i64 d.room) := blk_cell hdf.blk
      have hres : d.write s.data.toList a l = (if a < 0 ∨ (f.now.length : Int) < a then (1, d)
    else if (1048576 : Int) < a + (l.length : Int) then (4, d)
    else if d.room < (d.used : Int) + max 0 (a + (l.length : Int) - (f.now.length : Int)) then (6, d)
    else (d.err, d.after fun d => { d with files := d.files.set id ((d.file id).wrote a.toNat l) })) := by unfold PD.write; simp only [hdn, hf, hfile]; simp
      have HRES := Lib.hid hres
      have Hw2 := Lib.hid hw2
      have HB2 := Lib.hid hb2
      have HDF := Lib.hid hdf
      have HFV := Lib.hid hfv
      have HX := Lib.hid hx
      have HFILE := Lib.hid hfile
      have HFA := Lib.hid hfa
      have HEF := Lib.hid ef
      clear hcall hf hdn c4 hsm hd1 hres hw2 hb2 hdf hfv hx hff hfile hfa e0 e1 e2 ef hvn hba hbb
      by_cases hneg : a < 0
      · rw [HRES.out, if_pos (.inl hneg)]
        go_enter Try.func18, Try.ntmps18
        go_wp2_with (first | (go_at_call 46; rw [← Hw1.out]; refine HSH.out.mono ?_; rintro e w5 ⟨rfl, rfl⟩) | (go_at_call 42; refine HC.out.mono ?_; rintro e w5 ⟨rfl, rfl⟩))
        refine wp_region_two (fun wz => wz = w2) (fun wz => wz = w2) [(0, 0), (0, 1), (0, 2), (0, 3), (0, 4), (0, 5), (0, 6), (0, 7), (0, 8), (0, 9), (0, 10)] [] (by kernel_rfl) (by kernel_rfl) (by kernel_rfl) (by kernel_rfl) (by kernel_rfl) Hw2.out.symm Hw2.out.symm ?_
        simp only [planT, List.drop_succ_cons, List.drop_zero]
        rw [← Hw2.out]
        refine PlanT.take0 (v := ?v0) (by kernel_rfl) ?y0 ?r0
        case y0 => (intro wz hz; subst hz; go_simp; try with_reducible rfl)
        (try simp only [Act.put, List.setIfInBounds_toArray, List.set_cons_zero, List.set_cons_succ])
        refine PlanT.take0 (v := ?v1) (by kernel_rfl) ?y1 ?r1
        case y1 => (intro wz hz; subst hz; go_simp; try with_reducible rfl)
        (try simp only [Act.put, List.setIfInBounds_toArray, List.set_cons_zero, List.set_cons_succ])
        refine PlanT.take0 (v := ?v2) (by kernel_rfl) ?y2 ?r2
        case y2 => (intro wz hz; subst hz; go_simp; try with_reducible rfl)
        (try simp only [Act.put, List.setIfInBounds_toArray, List.set_cons_zero, List.set_cons_succ])
        refine PlanT.skip (by kernel_rfl) ?_
        (try simp only [Act.put, List.setIfInBounds_toArray, List.set_cons_zero, List.set_cons_succ])
        refine PlanT.skip (by kernel_rfl) ?_
        (try simp only [Act.put, List.setIfInBounds_toArray, List.set_cons_zero, List.set_cons_succ])
        refine PlanT.skip (by kernel_rfl) ?_
        (try simp only [Act.put, List.setIfInBounds_toArray, List.set_cons_zero, List.set_cons_succ])
        refine PlanT.skip (by kernel_rfl) ?_
        (try simp only [Act.put, List.setIfInBounds_toArray, List.set_cons_zero, List.set_cons_succ])
        refine PlanT.skip (by kernel_rfl) ?_
        (try simp only [Act.put, List.setIfInBounds_toArray, List.set_cons_zero, List.set_cons_succ])
        refine PlanT.skip (by kernel_rfl) ?_
        (try simp only [Act.put, List.setIfInBounds_toArray, List.set_cons_zero, List.set_cons_succ])
        refine PlanT.skip (by kernel_rfl) ?_
        (try simp only [Act.put, List.setIfInBounds_toArray, List.set_cons_zero, List.set_cons_succ])
        refine PlanT.take0 (v := ?v10) (by kernel_rfl) ?y10 ?r10
        case y10 => (intro wz hz; subst hz; go_simp; try with_reducible rfl)
        (try simp only [Act.put, List.setIfInBounds_toArray, List.set_cons_zero, List.set_cons_succ])
        refine PlanT.done (NoPanic.normal ?_)
        go_wp2
        go_ret
        exact ⟨rfl, g, HDF.out, HST1.out.trans (Step.below HB2.out)⟩
      · obtain ⟨at_, rfl⟩ := Int.eq_ofNat_of_zero_le (show 0 ≤ a by omega)
        have hnn : decide ((at_ : Int) < 0) = false := by simp
        by_cases hgt : f.now.length < at_
        · rw [HRES.out, if_pos (.inr (by omega))]
          go_enter Try.func18, Try.ntmps18
          go_wp2_with (first | (go_at_call 46; rw [← Hw1.out]; refine HSH.out.mono ?_; rintro e w5 ⟨rfl, rfl⟩) | (go_at_call 42; refine HC.out.mono ?_; rintro e w5 ⟨rfl, rfl⟩))
          refine wp_region_two (fun wz => wz = w2) (fun wz => wz = w2) [(0, 0), (0, 1), (0, 2), (0, 3), (0, 4), (0, 5), (0, 6), (0, 7), (0, 8), (0, 9), (0, 10)] [] (by kernel_rfl) (by kernel_rfl) (by kernel_rfl) (by kernel_rfl) (by kernel_rfl) Hw2.out.symm Hw2.out.symm ?_
          simp only [planT, List.drop_succ_cons, List.drop_zero]
          rw [← Hw2.out]
          refine PlanT.take0 (v := ?vP0) (by kernel_rfl) ?yP0 ?rP0
          case yP0 => (intro wz hz; subst hz; go_simp; try with_reducible rfl)
          (try simp only [Act.put, List.setIfInBounds_toArray, List.set_cons_zero, List.set_cons_succ])
          refine PlanT.take0 (v := ?vP1) (by kernel_rfl) ?yP1 ?rP1
          case yP1 => (intro wz hz; subst hz; go_simp; try with_reducible rfl)
          (try simp only [Act.put, List.setIfInBounds_toArray, List.set_cons_zero, List.set_cons_succ])
          refine PlanT.take0 (v := ?vP2) (by kernel_rfl) ?yP2 ?rP2
          case yP2 => (intro wz hz; subst hz; go_simp; try with_reducible rfl)
          (try simp only [Act.put, List.setIfInBounds_toArray, List.set_cons_zero, List.set_cons_succ])
          refine PlanT.take0 (v := ?vP3) (by kernel_rfl) ?yP3 ?rP3
          case yP3 => (intro wz hz; subst hz; go_simp; try with_reducible rfl)
          (try simp only [Act.put, List.setIfInBounds_toArray, List.set_cons_zero, List.set_cons_succ])
          refine PlanT.take0 (v := ?vP4) (by kernel_rfl) ?yP4 ?rP4
          case yP4 => (intro wz hz; subst hz; go_simp; try with_reducible rfl)
          (try simp only [Act.put, List.setIfInBounds_toArray, List.set_cons_zero, List.set_cons_succ])
          refine PlanT.take0 (v := ?vP5) (by kernel_rfl) ?yP5 ?rP5
          case yP5 => (intro wz hz; subst hz; go_simp; try with_reducible rfl)
          (try simp only [Act.put, List.setIfInBounds_toArray, List.set_cons_zero, List.set_cons_succ])
          refine PlanT.take0 (v := ?vP6) (by kernel_rfl) ?yP6 ?rP6
          case yP6 => (intro wz hz; subst hz; go_simp; try with_reducible rfl)
          (try simp only [Act.put, List.setIfInBounds_toArray, List.set_cons_zero, List.set_cons_succ])
          refine PlanT.take0 (v := ?vP7) (by kernel_rfl) ?yP7 ?rP7
          case yP7 => (intro wz hz; subst hz; go_simp; try with_reducible rfl)
          (try simp only [Act.put, List.setIfInBounds_toArray, List.set_cons_zero, List.set_cons_succ])
          refine PlanT.take0 (v := ?vP8) (by kernel_rfl) ?yP8 ?rP8
          case yP8 => (intro wz hz; subst hz; go_simp; try with_reducible rfl)
          (try simp only [Act.put, List.setIfInBounds_toArray, List.set_cons_zero, List.set_cons_succ])
          refine PlanT.take0 (v := ?vP9) (by kernel_rfl) ?yP9 ?rP9
          case yP9 => (intro wz hz; subst hz; go_simp; try with_reducible rfl)
          (try simp only [Act.put, List.setIfInBounds_toArray, List.set_cons_zero, List.set_cons_succ])
          refine PlanT.take0 (v := ?vP10) (by kernel_rfl) ?yP10 ?rP10
          case yP10 => (intro wz hz; subst hz; go_simp; try with_reducible rfl)
          (try simp only [Act.put, List.setIfInBounds_toArray, List.set_cons_zero, List.set_cons_succ])
          refine PlanT.done (NoPanic.normal ?_)
          go_wp2
          go_ret
          exact ⟨rfl, g, HDF.out, HST1.out.trans (Step.below HB2.out)⟩
        · have hle : at_ ≤ f.now.length := by omega
          by_cases hlg : (1048576 : Int) < (at_ : Int) + (l.length : Int)
          · rw [HRES.out, if_neg (by omega), if_pos hlg]
            go_enter Try.func18, Try.ntmps18
            go_wp2_with (first | (go_at_call 46; rw [← Hw1.out]; refine HSH.out.mono ?_; rintro e w5 ⟨rfl, rfl⟩) | (go_at_call 42; refine HC.out.mono ?_; rintro e w5 ⟨rfl, rfl⟩))
            refine wp_region_two (fun wz => wz = w2) (fun wz => wz = w2) [(0, 0), (0, 1), (0, 2), (0, 3), (0, 4), (0, 5), (0, 6), (0, 7), (0, 8), (0, 9), (0, 10)] [] (by kernel_rfl) (by kernel_rfl) (by kernel_rfl) (by kernel_rfl) (by kernel_rfl) Hw2.out.symm Hw2.out.symm ?_
            simp only [planT, List.drop_succ_cons, List.drop_zero]
            rw [← Hw2.out]
            refine PlanT.take0 (v := ?vR0) (by kernel_rfl) ?yR0 ?rR0
            case yR0 => (intro wz hz; subst hz; go_simp; try with_reducible rfl)
            (try simp only [Act.put, List.setIfInBounds_toArray, List.set_cons_zero, List.set_cons_succ])
            refine PlanT.take0 (v := ?vR1) (by kernel_rfl) ?yR1 ?rR1
            case yR1 => (intro wz hz; subst hz; go_simp; try with_reducible rfl)
            (try simp only [Act.put, List.setIfInBounds_toArray, List.set_cons_zero, List.set_cons_succ])
            refine PlanT.take0 (v := ?vR2) (by kernel_rfl) ?yR2 ?rR2
            case yR2 => (intro wz hz; subst hz; go_simp; try with_reducible rfl)
            (try simp only [Act.put, List.setIfInBounds_toArray, List.set_cons_zero, List.set_cons_succ])
            refine PlanT.take0 (v := ?vR3) (by kernel_rfl) ?yR3 ?rR3
            case yR3 => (intro wz hz; subst hz; go_simp; try with_reducible rfl)
            (try simp only [Act.put, List.setIfInBounds_toArray, List.set_cons_zero, List.set_cons_succ])
            refine PlanT.take0 (v := ?vR4) (by kernel_rfl) ?yR4 ?rR4
            case yR4 => (intro wz hz; subst hz; go_simp; try with_reducible rfl)
            (try simp only [Act.put, List.setIfInBounds_toArray, List.set_cons_zero, List.set_cons_succ])
            refine PlanT.take0 (v := ?vR5) (by kernel_rfl) ?yR5 ?rR5
            case yR5 => (intro wz hz; subst hz; go_simp; try with_reducible rfl)
            (try simp only [Act.put, List.setIfInBounds_toArray, List.set_cons_zero, List.set_cons_succ])
            refine PlanT.take0 (v := ?vR6) (by kernel_rfl) ?yR6 ?rR6
            case yR6 => (intro wz hz; subst hz; go_simp; try with_reducible rfl)
            (try simp only [Act.put, List.setIfInBounds_toArray, List.set_cons_zero, List.set_cons_succ])
            refine PlanT.take0 (v := ?vR7) (by kernel_rfl) ?yR7 ?rR7
            case yR7 => (intro wz hz; subst hz; go_simp; try with_reducible rfl)
            (try simp only [Act.put, List.setIfInBounds_toArray, List.set_cons_zero, List.set_cons_succ])
            refine PlanT.take0 (v := ?vR8) (by kernel_rfl) ?yR8 ?rR8
            case yR8 => (intro wz hz; subst hz; go_simp; try with_reducible rfl)
            (try simp only [Act.put, List.setIfInBounds_toArray, List.set_cons_zero, List.set_cons_succ])
            refine PlanT.take0 (v := ?vR9) (by kernel_rfl) ?yR9 ?rR9
            case yR9 => (intro wz hz; subst hz; go_simp; try with_reducible rfl)
            (try simp only [Act.put, List.setIfInBounds_toArray, List.set_cons_zero, List.set_cons_succ])
            refine PlanT.take0 (v := ?vR10) (by kernel_rfl) ?yR10 ?rR10
            case yR10 => (intro wz hz; subst hz; go_simp; try with_reducible rfl)
            (try simp only [Act.put, List.setIfInBounds_toArray, List.set_cons_zero, List.set_cons_succ])
            refine PlanT.done (NoPanic.normal ?_)
            go_wp2
            go_ret
            exact ⟨rfl, g, HDF.out, HST1.out.trans (Step.below HB2.out)⟩
          · obtain ⟨w3, hw3⟩ : ∃ w3, w3 = w2.drew := ⟨_, rfl⟩
            have hb3 : Below w2.heap.size w2 w3 := by subst hw3; exact (Below.refl _ _).drew
            have hd3 := HDF.out.below hb3
            have HUS := Lib.hid (used_at hd3 HSM.out)
            have hus := HSM.out.used
            have HKF := Lib.hid (by subst hw3; exact hcf : w3.cell? ⟨w1.heap.size, 0, none⟩ = some (.pointer (some ⟨fb, id * 3, none⟩)))
            have HKN := Lib.hid (by subst hw3; exact hcn : w3.cell? ⟨fb, id * 3 + 1, none⟩ = some (.slice an f.now.length cn))
            have HKR := Lib.hid (by subst hw3; exact hcr : w3.cell? ⟨p, 0, none⟩ = some (.int .i64 d.room))
            have Hw3 := Lib.hid hw3
            have HD3 := Lib.hid hd3
            have HB3 := Lib.hid hb3
            clear hw3 hd3 hb3
            have hdl : decide ((1048576 : Int) < (at_ : Int) + (l.length : Int)) = false := by simpa using hlg
            obtain ⟨mx, hmx⟩ : ∃ m : Nat, (m : Int) = max 0 ((at_ : Int) + (l.length : Int) - (f.now.length : Int)) := ⟨(max 0 ((at_ : Int) + (l.length : Int) - (f.now.length : Int))).toNat, by omega⟩
            have hmxl : mx ≤ l.length := by omega
            have hmax := fun w => max_two (P := Try.prog) #[3, 3] 3 0 ((at_ : Int) + (l.length : Int) - (f.now.length : Int)) w
            rw [← hmx] at hmax
            rw [← hmx] at HRES
            have HMX := Lib.hid hmx
            have hsub : IntKind.i64.wrap ((at_ : Int) + (l.length : Int) - (f.now.length : Int)) = (at_ : Int) + (l.length : Int) - (f.now.length : Int) := IntWalk.i64_in _ (by omega)
            have hadd : IntKind.i64.wrap ((d.used : Int) + (mx : Int)) = (d.used : Int) + (mx : Int) := IntWalk.i64_in _ (by omega)
            clear hmx
            by_cases hroom : d.room < (d.used : Int) + (mx : Int)
            · rw [HRES.out, if_neg (by omega), if_neg hlg, if_pos hroom]
              have hrd : decide (d.room < (d.used : Int) + (mx : Int)) = true := by simpa using hroom
              go_enter Try.func18, Try.ntmps18
              go_wp2_with (first | (go_at_call 46; rw [← Hw1.out]; refine HSH.out.mono ?_; rintro e w5 ⟨rfl, rfl⟩) | (go_at_call 42; refine HC.out.mono ?_; rintro e w5 ⟨rfl, rfl⟩))
              refine wp_region_two (fun wz => wz = w2) (fun wz => wz = w2) [(0, 0), (0, 1), (0, 2), (0, 3), (0, 4), (0, 5), (0, 6), (0, 7), (0, 8), (0, 9), (0, 10)] [] (by kernel_rfl) (by kernel_rfl) (by kernel_rfl) (by kernel_rfl) (by kernel_rfl) Hw2.out.symm Hw2.out.symm ?_
              simp only [planT, List.drop_succ_cons, List.drop_zero]
              rw [← Hw2.out]
              refine PlanT.take0 (v := ?vS0) (by kernel_rfl) ?yS0 ?rS0
              case yS0 => (intro wz hz; subst hz; go_simp; try with_reducible rfl)
              (try simp only [Act.put, List.setIfInBounds_toArray, List.set_cons_zero, List.set_cons_succ])
              refine PlanT.take0 (v := ?vS1) (by kernel_rfl) ?yS1 ?rS1
              case yS1 => (intro wz hz; subst hz; go_simp; try with_reducible rfl)
              (try simp only [Act.put, List.setIfInBounds_toArray, List.set_cons_zero, List.set_cons_succ])
              refine PlanT.take0 (v := ?vS2) (by kernel_rfl) ?yS2 ?rS2
              case yS2 => (intro wz hz; subst hz; go_simp; try with_reducible rfl)
              (try simp only [Act.put, List.setIfInBounds_toArray, List.set_cons_zero, List.set_cons_succ])
              refine PlanT.take0 (v := ?vS3) (by kernel_rfl) ?yS3 ?rS3
              case yS3 => (intro wz hz; subst hz; go_simp; try with_reducible rfl)
              (try simp only [Act.put, List.setIfInBounds_toArray, List.set_cons_zero, List.set_cons_succ])
              refine PlanT.take0 (v := ?vS4) (by kernel_rfl) ?yS4 ?rS4
              case yS4 => (intro wz hz; subst hz; go_simp; try with_reducible rfl)
              (try simp only [Act.put, List.setIfInBounds_toArray, List.set_cons_zero, List.set_cons_succ])
              refine PlanT.take0 (v := ?vS5) (by kernel_rfl) ?yS5 ?rS5
              case yS5 => (intro wz hz; subst hz; go_simp; try with_reducible rfl)
              (try simp only [Act.put, List.setIfInBounds_toArray, List.set_cons_zero, List.set_cons_succ])
              refine PlanT.take0 (v := ?vS6) (by kernel_rfl) ?yS6 ?rS6
              case yS6 => (intro wz hz; subst hz; go_simp; try with_reducible rfl)
              (try simp only [Act.put, List.setIfInBounds_toArray, List.set_cons_zero, List.set_cons_succ])
              refine PlanT.take0 (v := ?vS7) (by kernel_rfl) ?yS7 ?rS7
              case yS7 => (intro wz hz; subst hz; go_simp; try with_reducible rfl)
              (try simp only [Act.put, List.setIfInBounds_toArray, List.set_cons_zero, List.set_cons_succ])
              refine PlanT.take0 (v := ?vS8) (by kernel_rfl) ?yS8 ?rS8
              case yS8 => (intro wz hz; subst hz; go_simp; try with_reducible rfl)
              (try simp only [Act.put, List.setIfInBounds_toArray, List.set_cons_zero, List.set_cons_succ])
              refine PlanT.take0 (v := ?vS9) (by kernel_rfl) ?yS9 ?rS9
              case yS9 => (intro wz hz; subst hz; go_simp; try with_reducible rfl)
              (try simp only [Act.put, List.setIfInBounds_toArray, List.set_cons_zero, List.set_cons_succ])
              refine PlanT.take0 (v := ?vS10) (by kernel_rfl) ?yS10 ?rS10
              case yS10 => (intro wz hz; subst hz; go_simp; try with_reducible rfl)
              (try simp only [Act.put, List.setIfInBounds_toArray, List.set_cons_zero, List.set_cons_succ])
              refine PlanT.done (NoPanic.normal ?_)
              go_wp2
              refine wp_region_two (fun wz => Below w3.heap.size w3 wz) (fun wz => Below w3.heap.size w3 wz) [(0, 0), (0, 2), (0, 3), (0, 4), (0, 5), (0, 6), (0, 7), (0, 8), (0, 9), (0, 11), (0, 12), (0, 13), (0, 14), (2, 1), (0, 10), (0, 15)] [] (by kernel_rfl) (by kernel_rfl) (by kernel_rfl) (by kernel_rfl) (by kernel_rfl) (by rw [← Hw3.out]; exact Below.refl _ _) (by rw [← Hw3.out]; exact Below.refl _ _) ?_
              simp only [planT, List.drop_succ_cons, List.drop_zero]
              rw [← Hw3.out]
              refine PlanT.take0 (v := ?vQ0) (by kernel_rfl) ?yQ0 ?rQ0
              case yQ0 => (intro wz hz; have k1 := (hz.cell (p := ⟨w1.heap.size, 0, none⟩) (World.block_lt_of_cell? _ _ HKF.out)).trans HKF.out; have k2 := (hz.cell (p := ⟨fb, id * 3 + 1, none⟩) (World.block_lt_of_cell? _ _ HKN.out)).trans HKN.out; have k3 := (hz.cell (p := ⟨p, 0, none⟩) (World.block_lt_of_cell? _ _ HKR.out)).trans HKR.out; clear hz; go_simp; try with_reducible rfl)
              (try simp only [Act.put, List.setIfInBounds_toArray, List.set_cons_zero, List.set_cons_succ])
              refine PlanT.take0 (v := ?vQ2) (by kernel_rfl) ?yQ2 ?rQ2
              case yQ2 => (intro wz hz; have k1 := (hz.cell (p := ⟨w1.heap.size, 0, none⟩) (World.block_lt_of_cell? _ _ HKF.out)).trans HKF.out; have k2 := (hz.cell (p := ⟨fb, id * 3 + 1, none⟩) (World.block_lt_of_cell? _ _ HKN.out)).trans HKN.out; have k3 := (hz.cell (p := ⟨p, 0, none⟩) (World.block_lt_of_cell? _ _ HKR.out)).trans HKR.out; clear hz; go_simp; try with_reducible rfl)
              (try simp only [Act.put, List.setIfInBounds_toArray, List.set_cons_zero, List.set_cons_succ])
              refine PlanT.take0 (v := ?vQ3) (by kernel_rfl) ?yQ3 ?rQ3
              case yQ3 => (intro wz hz; have k1 := (hz.cell (p := ⟨w1.heap.size, 0, none⟩) (World.block_lt_of_cell? _ _ HKF.out)).trans HKF.out; have k2 := (hz.cell (p := ⟨fb, id * 3 + 1, none⟩) (World.block_lt_of_cell? _ _ HKN.out)).trans HKN.out; have k3 := (hz.cell (p := ⟨p, 0, none⟩) (World.block_lt_of_cell? _ _ HKR.out)).trans HKR.out; clear hz; go_simp; try with_reducible rfl)
              (try simp only [Act.put, List.setIfInBounds_toArray, List.set_cons_zero, List.set_cons_succ])
              refine PlanT.take0 (v := ?vQ4) (by kernel_rfl) ?yQ4 ?rQ4
              case yQ4 => (intro wz hz; have k1 := (hz.cell (p := ⟨w1.heap.size, 0, none⟩) (World.block_lt_of_cell? _ _ HKF.out)).trans HKF.out; have k2 := (hz.cell (p := ⟨fb, id * 3 + 1, none⟩) (World.block_lt_of_cell? _ _ HKN.out)).trans HKN.out; have k3 := (hz.cell (p := ⟨p, 0, none⟩) (World.block_lt_of_cell? _ _ HKR.out)).trans HKR.out; clear hz; go_simp; try with_reducible rfl)
              (try simp only [Act.put, List.setIfInBounds_toArray, List.set_cons_zero, List.set_cons_succ])
              refine PlanT.take0 (v := ?vQ5) (by kernel_rfl) ?yQ5 ?rQ5
              case yQ5 => (intro wz hz; have k1 := (hz.cell (p := ⟨w1.heap.size, 0, none⟩) (World.block_lt_of_cell? _ _ HKF.out)).trans HKF.out; have k2 := (hz.cell (p := ⟨fb, id * 3 + 1, none⟩) (World.block_lt_of_cell? _ _ HKN.out)).trans HKN.out; have k3 := (hz.cell (p := ⟨p, 0, none⟩) (World.block_lt_of_cell? _ _ HKR.out)).trans HKR.out; clear hz; go_simp; try with_reducible rfl)
              (try simp only [Act.put, List.setIfInBounds_toArray, List.set_cons_zero, List.set_cons_succ])
              refine PlanT.take0 (v := ?vQ6) (by kernel_rfl) ?yQ6 ?rQ6
              case yQ6 => (intro wz hz; have k1 := (hz.cell (p := ⟨w1.heap.size, 0, none⟩) (World.block_lt_of_cell? _ _ HKF.out)).trans HKF.out; have k2 := (hz.cell (p := ⟨fb, id * 3 + 1, none⟩) (World.block_lt_of_cell? _ _ HKN.out)).trans HKN.out; have k3 := (hz.cell (p := ⟨p, 0, none⟩) (World.block_lt_of_cell? _ _ HKR.out)).trans HKR.out; clear hz; go_simp; try with_reducible rfl)
              (try simp only [Act.put, List.setIfInBounds_toArray, List.set_cons_zero, List.set_cons_succ])
              refine PlanT.take0 (v := ?vQ7) (by kernel_rfl) ?yQ7 ?rQ7
              case yQ7 => (intro wz hz; have k1 := (hz.cell (p := ⟨w1.heap.size, 0, none⟩) (World.block_lt_of_cell? _ _ HKF.out)).trans HKF.out; have k2 := (hz.cell (p := ⟨fb, id * 3 + 1, none⟩) (World.block_lt_of_cell? _ _ HKN.out)).trans HKN.out; have k3 := (hz.cell (p := ⟨p, 0, none⟩) (World.block_lt_of_cell? _ _ HKR.out)).trans HKR.out; clear hz; go_simp; try with_reducible rfl)
              (try simp only [Act.put, List.setIfInBounds_toArray, List.set_cons_zero, List.set_cons_succ])
              refine PlanT.take0 (v := ?vQ8) (by kernel_rfl) ?yQ8 ?rQ8
              case yQ8 => (intro wz hz; have k1 := (hz.cell (p := ⟨w1.heap.size, 0, none⟩) (World.block_lt_of_cell? _ _ HKF.out)).trans HKF.out; have k2 := (hz.cell (p := ⟨fb, id * 3 + 1, none⟩) (World.block_lt_of_cell? _ _ HKN.out)).trans HKN.out; have k3 := (hz.cell (p := ⟨p, 0, none⟩) (World.block_lt_of_cell? _ _ HKR.out)).trans HKR.out; clear hz; go_simp; try with_reducible rfl)
              (try simp only [Act.put, List.setIfInBounds_toArray, List.set_cons_zero, List.set_cons_succ])
              refine PlanT.take0 (v := .int .i64 (mx : Int)) (by kernel_rfl) ?yQ9 ?rQ9
              case yQ9 => (intro wz hz; have k1 := (hz.cell (p := ⟨w1.heap.size, 0, none⟩) (World.block_lt_of_cell? _ _ HKF.out)).trans HKF.out; have k2 := (hz.cell (p := ⟨fb, id * 3 + 1, none⟩) (World.block_lt_of_cell? _ _ HKN.out)).trans HKN.out; have k3 := (hz.cell (p := ⟨p, 0, none⟩) (World.block_lt_of_cell? _ _ HKR.out)).trans HKR.out; clear hz; go_simp)
              (try simp only [Act.put, List.setIfInBounds_toArray, List.set_cons_zero, List.set_cons_succ])
              refine PlanT.take0 (v := ?vQ11) (by kernel_rfl) ?yQ11 ?rQ11
              case yQ11 => (intro wz hz; have k1 := (hz.cell (p := ⟨w1.heap.size, 0, none⟩) (World.block_lt_of_cell? _ _ HKF.out)).trans HKF.out; have k2 := (hz.cell (p := ⟨fb, id * 3 + 1, none⟩) (World.block_lt_of_cell? _ _ HKN.out)).trans HKN.out; have k3 := (hz.cell (p := ⟨p, 0, none⟩) (World.block_lt_of_cell? _ _ HKR.out)).trans HKR.out; clear hz; go_simp; try with_reducible rfl)
              (try simp only [Act.put, List.setIfInBounds_toArray, List.set_cons_zero, List.set_cons_succ])
              refine PlanT.take0 (v := ?vQ12) (by kernel_rfl) ?yQ12 ?rQ12
              case yQ12 => (intro wz hz; have k1 := (hz.cell (p := ⟨w1.heap.size, 0, none⟩) (World.block_lt_of_cell? _ _ HKF.out)).trans HKF.out; have k2 := (hz.cell (p := ⟨fb, id * 3 + 1, none⟩) (World.block_lt_of_cell? _ _ HKN.out)).trans HKN.out; have k3 := (hz.cell (p := ⟨p, 0, none⟩) (World.block_lt_of_cell? _ _ HKR.out)).trans HKR.out; clear hz; go_simp; try with_reducible rfl)
              (try simp only [Act.put, List.setIfInBounds_toArray, List.set_cons_zero, List.set_cons_succ])
              refine PlanT.take0 (v := ?vQ13) (by kernel_rfl) ?yQ13 ?rQ13
              case yQ13 => (intro wz hz; have k1 := (hz.cell (p := ⟨w1.heap.size, 0, none⟩) (World.block_lt_of_cell? _ _ HKF.out)).trans HKF.out; have k2 := (hz.cell (p := ⟨fb, id * 3 + 1, none⟩) (World.block_lt_of_cell? _ _ HKN.out)).trans HKN.out; have k3 := (hz.cell (p := ⟨p, 0, none⟩) (World.block_lt_of_cell? _ _ HKR.out)).trans HKR.out; clear hz; go_simp; try with_reducible rfl)
              (try simp only [Act.put, List.setIfInBounds_toArray, List.set_cons_zero, List.set_cons_succ])
              refine PlanT.take0 (v := ?vQ14) (by kernel_rfl) ?yQ14 ?rQ14
              case yQ14 => (intro wz hz; have k1 := (hz.cell (p := ⟨w1.heap.size, 0, none⟩) (World.block_lt_of_cell? _ _ HKF.out)).trans HKF.out; have k2 := (hz.cell (p := ⟨fb, id * 3 + 1, none⟩) (World.block_lt_of_cell? _ _ HKN.out)).trans HKN.out; have k3 := (hz.cell (p := ⟨p, 0, none⟩) (World.block_lt_of_cell? _ _ HKR.out)).trans HKR.out; clear hz; go_simp; try with_reducible rfl)
              (try simp only [Act.put, List.setIfInBounds_toArray, List.set_cons_zero, List.set_cons_succ])
              refine PlanT.exec2 (fun K hK => ⟨by kernel_rfl, ?_⟩)
              go_simp
              refine HUS.out.mono ?_
              rintro e w4 ⟨rfl, hB4⟩
              refine hK.out _ _ hB4 hB4 ?_
              clear hK K
              (try simp only [Act.put, List.setIfInBounds_toArray, List.set_cons_zero, List.set_cons_succ])
              refine PlanT.take0 (v := ?vQ10) (by kernel_rfl) ?yQ10 ?rQ10
              case yQ10 => (intro wz hz; have k1 := (hz.cell (p := ⟨w1.heap.size, 0, none⟩) (World.block_lt_of_cell? _ _ HKF.out)).trans HKF.out; have k2 := (hz.cell (p := ⟨fb, id * 3 + 1, none⟩) (World.block_lt_of_cell? _ _ HKN.out)).trans HKN.out; have k3 := (hz.cell (p := ⟨p, 0, none⟩) (World.block_lt_of_cell? _ _ HKR.out)).trans HKR.out; clear hz; go_simp; try with_reducible rfl)
              (try simp only [Act.put, List.setIfInBounds_toArray, List.set_cons_zero, List.set_cons_succ])
              refine PlanT.take0 (v := ?vQ15) (by kernel_rfl) ?yQ15 ?rQ15
              case yQ15 => (intro wz hz; have k1 := (hz.cell (p := ⟨w1.heap.size, 0, none⟩) (World.block_lt_of_cell? _ _ HKF.out)).trans HKF.out; have k2 := (hz.cell (p := ⟨fb, id * 3 + 1, none⟩) (World.block_lt_of_cell? _ _ HKN.out)).trans HKN.out; have k3 := (hz.cell (p := ⟨p, 0, none⟩) (World.block_lt_of_cell? _ _ HKR.out)).trans HKR.out; clear hz; go_simp; try with_reducible rfl)
              (try simp only [Act.put, List.setIfInBounds_toArray, List.set_cons_zero, List.set_cons_succ])
              refine PlanT.done (NoPanic.normal ?_)
              go_wp2
              go_ret
              exact ⟨rfl, g, HD3.out.below hB4, ((HST1.out.trans (Step.below HB2.out)).trans (Step.below HB3.out)).trans (Step.below hB4)⟩
            · rw [HRES.out, if_neg (by omega), if_neg hlg, if_neg hroom]
              have hrd : decide (d.room < (d.used : Int) + (mx : Int)) = false := by simpa using hroom
              have hcount : ∀ w4, Below w3.heap.size w3 w4 → Calls Try.prog 48 #[.pointer (some ⟨p, 0, none⟩), .func (.func 52) #[] #[.pointer (some ⟨w.heap.size, 0, none⟩), .pointer (some ⟨w.heap.size + 1, 0, none⟩), .pointer (some ⟨w1.heap.size, 0, none⟩)]] w4
                  fun e w' => e = .returned (.int .i64 (d.err : Int)) ∧ ∃ g', DiskAt g' w' p (d.after fun d => { d with files := d.files.set id ((d.file id).wrote at_ l) }) ∧ Step g g' w4 w' := by
                intro w4 hB4
                have hd4 := HD3.out.below hB4
                have hB24 := ((HB2.out.trans (HB3.out.mono HB2.out.size)).trans (hB4.mono (Nat.le_trans HB2.out.size HB3.out.size)))
                have hl1 : ∀ {q o : Nat} {v : Value}, w2.cell? ⟨q, o, none⟩ = some v → w4.cell? ⟨q, o, none⟩ = some v := fun {q o v} hc => by
                  have hql := World.block_lt_of_cell? _ _ hc
                  have h3 := (HB3.out.cell (p := ⟨q, o, none⟩) hql).trans hc
                  exact (hB4.cell (p := ⟨q, o, none⟩) (World.block_lt_of_cell? _ _ h3)).trans h3
                refine counted (k := 52) (fst := #[]) (caps := #[.pointer (some ⟨w.heap.size, 0, none⟩), .pointer (some ⟨w.heap.size + 1, 0, none⟩), .pointer (some ⟨w1.heap.size, 0, none⟩)]) hd4 (by omega) enters_write1 (fun d => { d with files := d.files.set id ((d.file id).wrote at_ l) }) rfl (fun _ w5 hd5 hk5 hs5 => ?_)
                have kk : ∀ {q o : Nat} {v : Value}, q ≠ p → w2.cell? ⟨q, o, none⟩ = some v → w5.cell? ⟨q, o, none⟩ = some v := fun {q o v} hq hc => by
                  have h4 := hl1 hc
                  exact (hk5.cell (p := ⟨q, o, none⟩) ⟨World.block_lt_of_cell? _ _ h4, hq⟩).trans h4
                have hsz1 := HS1.out
                have hrd5 : RdB w5 (.slice av l.length cv) l := by
                  refine rdB_kept HRD.out ((Kept.of HBEL.out fun k hk => hk.1).trans ((Kept.of hB24 fun k hk => by omega).trans (hk5.mono fun k hk => ⟨by have := hB24.size; omega, hk.2⟩)) : Kept (fun k => k < w.heap.size ∧ k ≠ p) w w5) fun hl k hk hkl => ⟨hkl, fun e => ?_⟩
                  have := hvb hl k hk
                  rw [e, HH.out.rol] at this
                  cases this
                have := write1_at hd5 (HSM.out.cnt hcl) id fb cap x f HFV.out HX.out at_ l (.slice av l.length cv) hrd5 hle (by omega) w.heap.size (w.heap.size + 1) w1.heap.size (kk (by omega) hca) (kk (by omega) hcb) (kk (by omega) hcf) (out_of HD1.out (Nat.le_refl _))
                show Calls _ _ _ _ fun e w2 => e = .returned (.tuple #[]) ∧ ∃ g', DiskAt g' w2 p { d.cnt with files := d.files.set id ((d.file id).wrote at_ l) } ∧ _
                rw [HFILE.out]
                exact this
              have HCNT := Lib.hid hcount
              clear hcount
              go_enter Try.func18, Try.ntmps18
              go_wp2_with (first | (go_at_call 46; rw [← Hw1.out]; refine HSH.out.mono ?_; rintro e w5 ⟨rfl, rfl⟩) | (go_at_call 42; refine HC.out.mono ?_; rintro e w5 ⟨rfl, rfl⟩))
              refine wp_region_two (fun wz => wz = w2) (fun wz => wz = w2) [(0, 0), (0, 1), (0, 2), (0, 3), (0, 4), (0, 5), (0, 6), (0, 7), (0, 8), (0, 9), (0, 10)] [] (by kernel_rfl) (by kernel_rfl) (by kernel_rfl) (by kernel_rfl) (by kernel_rfl) Hw2.out.symm Hw2.out.symm ?_
              simp only [planT, List.drop_succ_cons, List.drop_zero]
              rw [← Hw2.out]
              refine PlanT.take0 (v := ?vT0) (by kernel_rfl) ?yT0 ?rT0
              case yT0 => (intro wz hz; subst hz; go_simp; try with_reducible rfl)
              (try simp only [Act.put, List.setIfInBounds_toArray, List.set_cons_zero, List.set_cons_succ])
              refine PlanT.take0 (v := ?vT1) (by kernel_rfl) ?yT1 ?rT1
              case yT1 => (intro wz hz; subst hz; go_simp; try with_reducible rfl)
              (try simp only [Act.put, List.setIfInBounds_toArray, List.set_cons_zero, List.set_cons_succ])
              refine PlanT.take0 (v := ?vT2) (by kernel_rfl) ?yT2 ?rT2
              case yT2 => (intro wz hz; subst hz; go_simp; try with_reducible rfl)
              (try simp only [Act.put, List.setIfInBounds_toArray, List.set_cons_zero, List.set_cons_succ])
              refine PlanT.take0 (v := ?vT3) (by kernel_rfl) ?yT3 ?rT3
              case yT3 => (intro wz hz; subst hz; go_simp; try with_reducible rfl)
              (try simp only [Act.put, List.setIfInBounds_toArray, List.set_cons_zero, List.set_cons_succ])
              refine PlanT.take0 (v := ?vT4) (by kernel_rfl) ?yT4 ?rT4
              case yT4 => (intro wz hz; subst hz; go_simp; try with_reducible rfl)
              (try simp only [Act.put, List.setIfInBounds_toArray, List.set_cons_zero, List.set_cons_succ])
              refine PlanT.take0 (v := ?vT5) (by kernel_rfl) ?yT5 ?rT5
              case yT5 => (intro wz hz; subst hz; go_simp; try with_reducible rfl)
              (try simp only [Act.put, List.setIfInBounds_toArray, List.set_cons_zero, List.set_cons_succ])
              refine PlanT.take0 (v := ?vT6) (by kernel_rfl) ?yT6 ?rT6
              case yT6 => (intro wz hz; subst hz; go_simp; try with_reducible rfl)
              (try simp only [Act.put, List.setIfInBounds_toArray, List.set_cons_zero, List.set_cons_succ])
              refine PlanT.take0 (v := ?vT7) (by kernel_rfl) ?yT7 ?rT7
              case yT7 => (intro wz hz; subst hz; go_simp; try with_reducible rfl)
              (try simp only [Act.put, List.setIfInBounds_toArray, List.set_cons_zero, List.set_cons_succ])
              refine PlanT.take0 (v := ?vT8) (by kernel_rfl) ?yT8 ?rT8
              case yT8 => (intro wz hz; subst hz; go_simp; try with_reducible rfl)
              (try simp only [Act.put, List.setIfInBounds_toArray, List.set_cons_zero, List.set_cons_succ])
              refine PlanT.take0 (v := ?vT9) (by kernel_rfl) ?yT9 ?rT9
              case yT9 => (intro wz hz; subst hz; go_simp; try with_reducible rfl)
              (try simp only [Act.put, List.setIfInBounds_toArray, List.set_cons_zero, List.set_cons_succ])
              refine PlanT.take0 (v := ?vT10) (by kernel_rfl) ?yT10 ?rT10
              case yT10 => (intro wz hz; subst hz; go_simp; try with_reducible rfl)
              (try simp only [Act.put, List.setIfInBounds_toArray, List.set_cons_zero, List.set_cons_succ])
              refine PlanT.done (NoPanic.normal ?_)
              go_wp2
              refine wp_region_two (fun wz => Below w3.heap.size w3 wz) (fun wz => Below w3.heap.size w3 wz) [(0, 0), (0, 2), (0, 3), (0, 4), (0, 5), (0, 6), (0, 7), (0, 8), (0, 9), (0, 11), (0, 12), (0, 13), (0, 14), (2, 1), (0, 10), (0, 15)] [] (by kernel_rfl) (by kernel_rfl) (by kernel_rfl) (by kernel_rfl) (by kernel_rfl) (by rw [← Hw3.out]; exact Below.refl _ _) (by rw [← Hw3.out]; exact Below.refl _ _) ?_
              simp only [planT, List.drop_succ_cons, List.drop_zero]
              rw [← Hw3.out]
              refine PlanT.take0 (v := ?vU0) (by kernel_rfl) ?yU0 ?rU0
              case yU0 => (intro wz hz; have k1 := (hz.cell (p := ⟨w1.heap.size, 0, none⟩) (World.block_lt_of_cell? _ _ HKF.out)).trans HKF.out; have k2 := (hz.cell (p := ⟨fb, id * 3 + 1, none⟩) (World.block_lt_of_cell? _ _ HKN.out)).trans HKN.out; have k3 := (hz.cell (p := ⟨p, 0, none⟩) (World.block_lt_of_cell? _ _ HKR.out)).trans HKR.out; clear hz; go_simp; try with_reducible rfl)
              (try simp only [Act.put, List.setIfInBounds_toArray, List.set_cons_zero, List.set_cons_succ])
              refine PlanT.take0 (v := ?vU2) (by kernel_rfl) ?yU2 ?rU2
              case yU2 => (intro wz hz; have k1 := (hz.cell (p := ⟨w1.heap.size, 0, none⟩) (World.block_lt_of_cell? _ _ HKF.out)).trans HKF.out; have k2 := (hz.cell (p := ⟨fb, id * 3 + 1, none⟩) (World.block_lt_of_cell? _ _ HKN.out)).trans HKN.out; have k3 := (hz.cell (p := ⟨p, 0, none⟩) (World.block_lt_of_cell? _ _ HKR.out)).trans HKR.out; clear hz; go_simp; try with_reducible rfl)
              (try simp only [Act.put, List.setIfInBounds_toArray, List.set_cons_zero, List.set_cons_succ])
              refine PlanT.take0 (v := ?vU3) (by kernel_rfl) ?yU3 ?rU3
              case yU3 => (intro wz hz; have k1 := (hz.cell (p := ⟨w1.heap.size, 0, none⟩) (World.block_lt_of_cell? _ _ HKF.out)).trans HKF.out; have k2 := (hz.cell (p := ⟨fb, id * 3 + 1, none⟩) (World.block_lt_of_cell? _ _ HKN.out)).trans HKN.out; have k3 := (hz.cell (p := ⟨p, 0, none⟩) (World.block_lt_of_cell? _ _ HKR.out)).trans HKR.out; clear hz; go_simp; try with_reducible rfl)
              (try simp only [Act.put, List.setIfInBounds_toArray, List.set_cons_zero, List.set_cons_succ])
              refine PlanT.take0 (v := ?vU4) (by kernel_rfl) ?yU4 ?rU4
              case yU4 => (intro wz hz; have k1 := (hz.cell (p := ⟨w1.heap.size, 0, none⟩) (World.block_lt_of_cell? _ _ HKF.out)).trans HKF.out; have k2 := (hz.cell (p := ⟨fb, id * 3 + 1, none⟩) (World.block_lt_of_cell? _ _ HKN.out)).trans HKN.out; have k3 := (hz.cell (p := ⟨p, 0, none⟩) (World.block_lt_of_cell? _ _ HKR.out)).trans HKR.out; clear hz; go_simp; try with_reducible rfl)
              (try simp only [Act.put, List.setIfInBounds_toArray, List.set_cons_zero, List.set_cons_succ])
              refine PlanT.take0 (v := ?vU5) (by kernel_rfl) ?yU5 ?rU5
              case yU5 => (intro wz hz; have k1 := (hz.cell (p := ⟨w1.heap.size, 0, none⟩) (World.block_lt_of_cell? _ _ HKF.out)).trans HKF.out; have k2 := (hz.cell (p := ⟨fb, id * 3 + 1, none⟩) (World.block_lt_of_cell? _ _ HKN.out)).trans HKN.out; have k3 := (hz.cell (p := ⟨p, 0, none⟩) (World.block_lt_of_cell? _ _ HKR.out)).trans HKR.out; clear hz; go_simp; try with_reducible rfl)
              (try simp only [Act.put, List.setIfInBounds_toArray, List.set_cons_zero, List.set_cons_succ])
              refine PlanT.take0 (v := ?vU6) (by kernel_rfl) ?yU6 ?rU6
              case yU6 => (intro wz hz; have k1 := (hz.cell (p := ⟨w1.heap.size, 0, none⟩) (World.block_lt_of_cell? _ _ HKF.out)).trans HKF.out; have k2 := (hz.cell (p := ⟨fb, id * 3 + 1, none⟩) (World.block_lt_of_cell? _ _ HKN.out)).trans HKN.out; have k3 := (hz.cell (p := ⟨p, 0, none⟩) (World.block_lt_of_cell? _ _ HKR.out)).trans HKR.out; clear hz; go_simp; try with_reducible rfl)
              (try simp only [Act.put, List.setIfInBounds_toArray, List.set_cons_zero, List.set_cons_succ])
              refine PlanT.take0 (v := ?vU7) (by kernel_rfl) ?yU7 ?rU7
              case yU7 => (intro wz hz; have k1 := (hz.cell (p := ⟨w1.heap.size, 0, none⟩) (World.block_lt_of_cell? _ _ HKF.out)).trans HKF.out; have k2 := (hz.cell (p := ⟨fb, id * 3 + 1, none⟩) (World.block_lt_of_cell? _ _ HKN.out)).trans HKN.out; have k3 := (hz.cell (p := ⟨p, 0, none⟩) (World.block_lt_of_cell? _ _ HKR.out)).trans HKR.out; clear hz; go_simp; try with_reducible rfl)
              (try simp only [Act.put, List.setIfInBounds_toArray, List.set_cons_zero, List.set_cons_succ])
              refine PlanT.take0 (v := ?vU8) (by kernel_rfl) ?yU8 ?rU8
              case yU8 => (intro wz hz; have k1 := (hz.cell (p := ⟨w1.heap.size, 0, none⟩) (World.block_lt_of_cell? _ _ HKF.out)).trans HKF.out; have k2 := (hz.cell (p := ⟨fb, id * 3 + 1, none⟩) (World.block_lt_of_cell? _ _ HKN.out)).trans HKN.out; have k3 := (hz.cell (p := ⟨p, 0, none⟩) (World.block_lt_of_cell? _ _ HKR.out)).trans HKR.out; clear hz; go_simp; try with_reducible rfl)
              (try simp only [Act.put, List.setIfInBounds_toArray, List.set_cons_zero, List.set_cons_succ])
              refine PlanT.take0 (v := .int .i64 (mx : Int)) (by kernel_rfl) ?yU9 ?rU9
              case yU9 => (intro wz hz; have k1 := (hz.cell (p := ⟨w1.heap.size, 0, none⟩) (World.block_lt_of_cell? _ _ HKF.out)).trans HKF.out; have k2 := (hz.cell (p := ⟨fb, id * 3 + 1, none⟩) (World.block_lt_of_cell? _ _ HKN.out)).trans HKN.out; have k3 := (hz.cell (p := ⟨p, 0, none⟩) (World.block_lt_of_cell? _ _ HKR.out)).trans HKR.out; clear hz; go_simp)
              (try simp only [Act.put, List.setIfInBounds_toArray, List.set_cons_zero, List.set_cons_succ])
              refine PlanT.take0 (v := ?vU11) (by kernel_rfl) ?yU11 ?rU11
              case yU11 => (intro wz hz; have k1 := (hz.cell (p := ⟨w1.heap.size, 0, none⟩) (World.block_lt_of_cell? _ _ HKF.out)).trans HKF.out; have k2 := (hz.cell (p := ⟨fb, id * 3 + 1, none⟩) (World.block_lt_of_cell? _ _ HKN.out)).trans HKN.out; have k3 := (hz.cell (p := ⟨p, 0, none⟩) (World.block_lt_of_cell? _ _ HKR.out)).trans HKR.out; clear hz; go_simp; try with_reducible rfl)
              (try simp only [Act.put, List.setIfInBounds_toArray, List.set_cons_zero, List.set_cons_succ])
              refine PlanT.take0 (v := ?vU12) (by kernel_rfl) ?yU12 ?rU12
              case yU12 => (intro wz hz; have k1 := (hz.cell (p := ⟨w1.heap.size, 0, none⟩) (World.block_lt_of_cell? _ _ HKF.out)).trans HKF.out; have k2 := (hz.cell (p := ⟨fb, id * 3 + 1, none⟩) (World.block_lt_of_cell? _ _ HKN.out)).trans HKN.out; have k3 := (hz.cell (p := ⟨p, 0, none⟩) (World.block_lt_of_cell? _ _ HKR.out)).trans HKR.out; clear hz; go_simp; try with_reducible rfl)
              (try simp only [Act.put, List.setIfInBounds_toArray, List.set_cons_zero, List.set_cons_succ])
              refine PlanT.take0 (v := ?vU13) (by kernel_rfl) ?yU13 ?rU13
              case yU13 => (intro wz hz; have k1 := (hz.cell (p := ⟨w1.heap.size, 0, none⟩) (World.block_lt_of_cell? _ _ HKF.out)).trans HKF.out; have k2 := (hz.cell (p := ⟨fb, id * 3 + 1, none⟩) (World.block_lt_of_cell? _ _ HKN.out)).trans HKN.out; have k3 := (hz.cell (p := ⟨p, 0, none⟩) (World.block_lt_of_cell? _ _ HKR.out)).trans HKR.out; clear hz; go_simp; try with_reducible rfl)
              (try simp only [Act.put, List.setIfInBounds_toArray, List.set_cons_zero, List.set_cons_succ])
              refine PlanT.take0 (v := ?vU14) (by kernel_rfl) ?yU14 ?rU14
              case yU14 => (intro wz hz; have k1 := (hz.cell (p := ⟨w1.heap.size, 0, none⟩) (World.block_lt_of_cell? _ _ HKF.out)).trans HKF.out; have k2 := (hz.cell (p := ⟨fb, id * 3 + 1, none⟩) (World.block_lt_of_cell? _ _ HKN.out)).trans HKN.out; have k3 := (hz.cell (p := ⟨p, 0, none⟩) (World.block_lt_of_cell? _ _ HKR.out)).trans HKR.out; clear hz; go_simp; try with_reducible rfl)
              (try simp only [Act.put, List.setIfInBounds_toArray, List.set_cons_zero, List.set_cons_succ])
              refine PlanT.exec2 (fun K hK => ⟨by kernel_rfl, ?_⟩)
              go_simp
              refine HUS.out.mono ?_
              rintro e w4 ⟨rfl, hB4⟩
              refine hK.out _ _ hB4 hB4 ?_
              clear hK K
              (try simp only [Act.put, List.setIfInBounds_toArray, List.set_cons_zero, List.set_cons_succ])
              refine PlanT.take0 (v := ?vU10) (by kernel_rfl) ?yU10 ?rU10
              case yU10 => (intro wz hz; have k1 := (hz.cell (p := ⟨w1.heap.size, 0, none⟩) (World.block_lt_of_cell? _ _ HKF.out)).trans HKF.out; have k2 := (hz.cell (p := ⟨fb, id * 3 + 1, none⟩) (World.block_lt_of_cell? _ _ HKN.out)).trans HKN.out; have k3 := (hz.cell (p := ⟨p, 0, none⟩) (World.block_lt_of_cell? _ _ HKR.out)).trans HKR.out; clear hz; go_simp; try with_reducible rfl)
              (try simp only [Act.put, List.setIfInBounds_toArray, List.set_cons_zero, List.set_cons_succ])
              refine PlanT.take0 (v := ?vU15) (by kernel_rfl) ?yU15 ?rU15
              case yU15 => (intro wz hz; have k1 := (hz.cell (p := ⟨w1.heap.size, 0, none⟩) (World.block_lt_of_cell? _ _ HKF.out)).trans HKF.out; have k2 := (hz.cell (p := ⟨fb, id * 3 + 1, none⟩) (World.block_lt_of_cell? _ _ HKN.out)).trans HKN.out; have k3 := (hz.cell (p := ⟨p, 0, none⟩) (World.block_lt_of_cell? _ _ HKR.out)).trans HKR.out; clear hz; go_simp; try with_reducible rfl)
              (try simp only [Act.put, List.setIfInBounds_toArray, List.set_cons_zero, List.set_cons_succ])
              refine PlanT.done (NoPanic.normal ?_)
              go_wp2_with (go_at_call 48; (with_reducible refine (HCNT.out _ hB4).mono ?_); rintro e w6 ⟨rfl, g6, hd6, hst6⟩)
              go_ret
              exact ⟨rfl, g6, hd6, (((HST1.out.trans (Step.below HB2.out)).trans (Step.below HB3.out)).trans (Step.below hB4)).trans hst6⟩
end Go.Proofs.Ytfeogoihkpclcaa
