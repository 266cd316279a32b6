import Derived.Test.YtfeogoihkpclcaaMg09

/-
  What a Write does, once it is counted.
-/
namespace Go.Proofs.Ytfeogoihkpclcaa
open Go.RowKit

/-- A file's row, one of its cells written. -/
theorem row_stored {w : World} {fb n cap : Nat} {l : List (GF × PF)} (h : w.ownsRow 0 59 3 (.slice (some ⟨fb, 0, none⟩) n cap) n (gfCells l)) (i j : Nat) (x x' : GF) (f f' : PF) (v : Value) (hx : l[i]? = some (x, f)) (hj : j < 3) (e : [x'.vs, x'.vn, x'.vl] = [x.vs, x.vn, x.vl].set j v) (hn : 0 < n) :
    (w.setCell ⟨fb, i * 3 + j, none⟩ v).ownsRow 0 59 3 (.slice (some ⟨fb, 0, none⟩) n cap) n (gfCells (l.set i (x', f'))) := by
  obtain ⟨g, cap', cur, hv, _, _, hb, _, _⟩ := own_form h hn
  cases hv
  have hset : gfCells (l.set i (x', f')) = (gfCells l).set (i * 3 + j) v := flat_set (fun x : GF × PF => [x.1.vs, x.1.vn, x.1.vl]) 3 (fun _ => rfl) l i j (x, f) (x', f') v hj hx e
  rw [hset]
  exact own_set h hb (blk_set hb v) (by simp) _ (by simp) (fun ht => by rw [take_set, ht])

def PF.wrote (f : PF) (a : Nat) (l : List UInt8) : PF := ⟨f.safe, wr f.now a l, f.loose ++ [(a, l)]⟩

set_option maxRecDepth 100000 in
set_option maxHeartbeats 4000000 in
set_option linter.unusedSimpArgs false in
theorem write1_at {g : Gh} {w : World} {p : Nat} {d : PD} (h : DiskAt g w p d) (hsm : Small d) (id fb cap : Nat) (x : GF) (f : PF) (hfv : g.fv = .slice (some ⟨fb, 0, none⟩) g.l.length cap) (hx : g.l[id]? = some (x, f)) (at_ : Nat) (l : List UInt8) (vb : Value) (hrd : RdB w vb l)
    (hat : at_ ≤ f.now.length) (hll : l.length < 2000000) (ba bb bf : Nat) (hba : w.cell? ⟨ba, 0, none⟩ = some (.int .i64 (at_ : Int))) (hbb : w.cell? ⟨bb, 0, none⟩ = some vb) (hbf : w.cell? ⟨bf, 0, none⟩ = some (.pointer (some ⟨fb, id * 3, none⟩))) (obf : g.o bf = .out) :
    Calls Try.prog 52 #[.pointer (some ⟨ba, 0, none⟩), .pointer (some ⟨bb, 0, none⟩), .pointer (some ⟨bf, 0, none⟩)] w fun e w' => e = .returned (.tuple #[]) ∧ ∃ g', DiskAt g' w' p { d with files := d.files.set id (f.wrote at_ l) } ∧ Step g g' w w' := by
  have hmem : (x, f) ∈ g.l := List.mem_of_getElem? hx
  have hfa := h.fa _ hmem
  have hfd : f ∈ d.files := by rw [h.fl]; exact List.mem_map.2 ⟨_, hmem, rfl⟩
  obtain ⟨s1, s2, s3, s4, s5, s6⟩ := hsm.fl f hfd
  have hin : id < g.l.length := (List.getElem?_eq_some_iff.1 hx).1
  have hfrow := h.fr
  rw [hfv] at hfrow
  obtain ⟨fb', cap', cur, hv', _, _, hfb, hcur, _⟩ := own_form hfrow (by omega)
  cases hv'
  have hofb : g.o fb = .files := h.of fb (by rw [hfv]; rfl)
  have hat2 := fun j hj => flat_at (fun x : GF × PF => [x.1.vs, x.1.vn, x.1.vl]) 3 (fun _ => rfl) g.l id j hj
  rw [hx] at hat2
  have hcl : w.cell? ⟨fb, id * 3 + 2, none⟩ = some x.vl := hcur _ _ (hat2 2 (by omega))
  have hcn : w.cell? ⟨fb, id * 3 + 1, none⟩ = some x.vn := hcur _ _ (hat2 1 (by omega))
  have hcur2 : cur[id * 3 + 2]? = some x.vl := by rw [← blk_cell hfb]; exact hcl
  have hcur1 : cur[id * 3 + 1]? = some x.vn := by rw [← blk_cell hfb]; exact hcn
  have hfbbf : fb ≠ bf := fun e => by subst e; rw [hofb] at obf; cases obf
  have hlfb : x.vl.ownBlock ≠ some fb := fun e => by have := hfa.ol fb e; rw [hofb] at this; cases this
  have hnfb : x.vn.ownBlock ≠ some fb := fun e => by have := hfa.on fb e; rw [hofb] at this; cases this
  have hsfb : x.vs.ownBlock ≠ some fb := fun e => by have := hfa.os fb e; rw [hofb] at this; cases this
  have hlbf : x.vl.ownBlock ≠ some bf := fun e => by have := hfa.ol bf e; rw [obf] at this; cases this
  have hnbf : x.vn.ownBlock ≠ some bf := fun e => by have := hfa.on bf e; rw [obf] at this; cases this
  have hlB : x.vl.ownBlock ≠ some w.heap.size := fun e => by have := own_lt hfa.vl _ e; omega
  have hnB : x.vn.ownBlock ≠ some w.heap.size := fun e => by have := own_lt hfa.vn _ e; omega
  have hnl : ∀ k, x.vn.ownBlock = some k → x.vl.ownBlock ≠ some k := fun k e e' => by have := hfa.on k e; rw [hfa.ol k e'] at this; cases this
  have hsl : ∀ k, x.vs.ownBlock = some k → x.vl.ownBlock ≠ some k := fun k e e' => by have := hfa.os k e; rw [hfa.ol k e'] at this; cases this
  have hsn : ∀ k, x.vs.ownBlock = some k → x.vn.ownBlock ≠ some k := fun k e e' => by have := hfa.os k e; rw [hfa.on k e'] at this; cases this
  have hfl := blk_lt hfb
  have hconv := rdB_convert hrd 32 5 9 Try.underlying32 Try.underlying5 Try.underlying9
  have hls := strB_size l
  obtain ⟨w1, hw1⟩ : ∃ w1, w1 = (w.alloc (.cells #[.int .i64 (at_ : Int), .string (strB l)] 63)).drew := ⟨_, rfl⟩
  have hbel : Below w.heap.size w w1 := by subst hw1; exact ((Below.refl _ _).alloc (Nat.le_refl _) _).drew
  have hx1 : w1.heap[w.heap.size]? = some (.cells #[.int .i64 (at_ : Int), .string (strB l)] 63 (0, 0)) := by subst hw1; exact heap_alloc_new w _
  have hfb1 : w1.heap[fb]? = some (.cells cur 59 (0, 0)) := (hbel.block fb hfl).trans hfb
  have hcf1 : w1.cell? ⟨bf, 0, none⟩ = some (.pointer (some ⟨fb, id * 3, none⟩)) := (hbel.cell (p := ⟨bf, 0, none⟩) (World.block_lt_of_cell? _ _ hbf)).trans hbf
  have hcl1 : w1.cell? ⟨fb, id * 3 + 2, none⟩ = some x.vl := (blk_cell hfb1).trans hcur2
  obtain ⟨vla, vlc, hvl, _, _⟩ := rd_of_own hfa.vl
  have hne : ¬ w.heap.size = fb := by omega
  have hs1 : w.heap.size < w1.heap.size := blk_lt hx1
  have hbfl := World.block_lt_of_cell? _ _ hbf
  have hne2 : ¬ w.heap.size = bf := by have : bf < w.heap.size := hbfl; omega
  have HD := Lib.hid h
  have Hw1 := Lib.hid hw1
  have HX := Lib.hid hx1
  have HFB := Lib.hid hfb1
  have HCF := Lib.hid hcf1
  have HCL := Lib.hid hcl1
  have HBEL := Lib.hid hbel
  have HFA := Lib.hid hfa
  have HCUR2 := Lib.hid hcur2
  have HCUR1 := Lib.hid hcur1
  have HVL := Lib.hid hvl
  have HFV := Lib.hid hfv
  have HXX := Lib.hid hx
  have HNL := Lib.hid hnl
  have HSL := Lib.hid hsl
  have HSN := Lib.hid hsn
  have HROW := Lib.hid hfrow
  have HOFB := Lib.hid hofb
  have HFB0 := Lib.hid hfb
  have HBF := Lib.hid hbf
  clear hw1 hx1 hfb1 hcf1 hcl1 hbel hfa hcur2 hcur1 hvl hfv hx hnl hsl hsn hcl hcn hcur hat2 h hsm hfrow hofb hrd s5 s6 hfd hmem hfb hbf
  go_enter Try.func52, Try.ntmps52
  go_wp2
  refine wp_region_two (fun wz => wz.cell? ⟨bf, 0, none⟩ = some (.pointer (some ⟨fb, id * 3, none⟩)) ∧ wz.cell? ⟨fb, id * 3 + 2, none⟩ = some x.vl ∧ wz.heap[w.heap.size]? = some (.cells #[.int .i64 (at_ : Int), .string (strB l)] 63 (0, 0))) (fun wz => wz.cell? ⟨bf, 0, none⟩ = some (.pointer (some ⟨fb, id * 3, none⟩))) [(1, 0), (0, 1), (0, 2), (0, 3), (0, 4), (0, 5), (2, 6), (3, 7), (1, 8), (1, 9), (3, 10)] [7, 10] (by kernel_rfl) (by kernel_rfl) (by kernel_rfl) (by kernel_rfl) (by kernel_rfl) (by rw [← Hw1.out]; exact ⟨HCF.out, HCL.out, HX.out⟩) (by rw [← Hw1.out]; exact HCF.out) ?_
  simp only [planT, List.drop_succ_cons, List.drop_zero]
  rw [← Hw1.out]
  refine PlanT.take1 (v := ?v0) (by kernel_rfl) ?y0 ?r0
  case y0 => (intro wz hz; go_simp; try with_reducible rfl)
  (try simp only [Act.put, List.setIfInBounds_toArray, List.set_cons_zero, List.set_cons_succ])
  refine PlanT.take0 (v := ?v1) (by kernel_rfl) ?y1 ?r1
  case y1 => (intro wz hz; obtain ⟨z1, z2, z3⟩ := hz; have q0 : wz.cell? ⟨w.heap.size, 0, none⟩ = some (.int .i64 (at_ : Int)) := blk_cell z3; have q1 : wz.cell? ⟨w.heap.size, 1, none⟩ = some (.string (strB l)) := blk_cell z3; clear z3; go_simp; try with_reducible rfl)
  (try simp only [Act.put, List.setIfInBounds_toArray, List.set_cons_zero, List.set_cons_succ])
  refine PlanT.take0 (v := ?v2) (by kernel_rfl) ?y2 ?r2
  case y2 => (intro wz hz; obtain ⟨z1, z2, z3⟩ := hz; have q0 : wz.cell? ⟨w.heap.size, 0, none⟩ = some (.int .i64 (at_ : Int)) := blk_cell z3; have q1 : wz.cell? ⟨w.heap.size, 1, none⟩ = some (.string (strB l)) := blk_cell z3; clear z3; go_simp; try with_reducible rfl)
  (try simp only [Act.put, List.setIfInBounds_toArray, List.set_cons_zero, List.set_cons_succ])
  refine PlanT.take0 (v := ?v3) (by kernel_rfl) ?y3 ?r3
  case y3 => (intro wz hz; obtain ⟨z1, z2, z3⟩ := hz; have q0 : wz.cell? ⟨w.heap.size, 0, none⟩ = some (.int .i64 (at_ : Int)) := blk_cell z3; have q1 : wz.cell? ⟨w.heap.size, 1, none⟩ = some (.string (strB l)) := blk_cell z3; clear z3; go_simp; try with_reducible rfl)
  (try simp only [Act.put, List.setIfInBounds_toArray, List.set_cons_zero, List.set_cons_succ])
  refine PlanT.take0 (v := ?v4) (by kernel_rfl) ?y4 ?r4
  case y4 => (intro wz hz; obtain ⟨z1, z2, z3⟩ := hz; have q0 : wz.cell? ⟨w.heap.size, 0, none⟩ = some (.int .i64 (at_ : Int)) := blk_cell z3; have q1 : wz.cell? ⟨w.heap.size, 1, none⟩ = some (.string (strB l)) := blk_cell z3; clear z3; go_simp; try with_reducible rfl)
  (try simp only [Act.put, List.setIfInBounds_toArray, List.set_cons_zero, List.set_cons_succ])
  refine PlanT.take0 (v := ?v5) (by kernel_rfl) ?y5 ?r5
  case y5 => (intro wz hz; obtain ⟨z1, z2, z3⟩ := hz; have q0 : wz.cell? ⟨w.heap.size, 0, none⟩ = some (.int .i64 (at_ : Int)) := blk_cell z3; have q1 : wz.cell? ⟨w.heap.size, 1, none⟩ = some (.string (strB l)) := blk_cell z3; clear z3; go_simp; try with_reducible rfl)
  (try simp only [Act.put, List.setIfInBounds_toArray, List.set_cons_zero, List.set_cons_succ])
  refine PlanT.exec2 (fun K hK => ⟨by kernel_rfl, ?_⟩)
  go_simp
  have hb2 := (Below.heap_alloc w1 (.cells #[.int .i64 (at_ : Int), .string (strB l)] 63) fb (blk_lt HFB.out)).trans HFB.out
  have hx2 := (Below.heap_alloc w1 (.cells #[.int .i64 (at_ : Int), .string (strB l)] 63) w.heap.size (blk_lt HX.out)).trans HX.out
  have hc2 : (w1.alloc (.cells #[.int .i64 (at_ : Int), .string (strB l)] 63)).cell? ⟨bf, 0, none⟩ = some (.pointer (some ⟨fb, id * 3, none⟩)) := (World.cell?_alloc_lt _ _ _ (World.block_lt_of_cell? w1 _ HCF.out)).trans HCF.out
  have hl2 : (w1.alloc (.cells #[.int .i64 (at_ : Int), .string (strB l)] 63)).cell? ⟨fb, id * 3 + 2, none⟩ = some x.vl := (World.cell?_alloc_lt _ _ _ (World.block_lt_of_cell? w1 _ HCL.out)).trans HCL.out
  refine hK.out _ _ ⟨hc2, hl2, hx2⟩ hc2 ?_
  clear hK K
  (try simp only [Act.put, List.setIfInBounds_toArray, List.set_cons_zero, List.set_cons_succ])
  refine PlanT.exec3 (fun K hK => ⟨by kernel_rfl, ?_⟩)
  refine wp_append_at (.tmp 12) (.tmp 14) 57 rfl 63 2 24 (.agg #[.int .i64 0, .string ⟨#[]⟩]) Try.underlying57 info_write rfl (by decide) x.vl _ f.loose.length 1 (putCells f.loose) (putCells [(at_, l)]) rfl rfl ?own ?rd (put_one _) (by omega) (by unfold maxLen; omega) ?_
  case own => exact own_kept HFA.out.vl (R := fun k => k < w.heap.size) (Kept.of (HBEL.out.alloc (by have := HBEL.out.size; omega) _) fun _ h => h) fun k e => own_lt HFA.out.vl k e
  case rd => exact ⟨_, 1, rfl, Nat.le_refl _, by unfold maxLen; omega, rfl, .inr ⟨w1.heap.size, 0, rfl, by simp, fun j u hj => by rw [blk_cell (heap_alloc_new w1 _)]; simpa [putCells] using hj⟩⟩
  intro v2 w2 ho2 hm2
  obtain ⟨av2, cv2, hv2, _, _⟩ := rd_of_own ho2
  subst hv2
  have hb3 := (hm2.grown.block fb (by have := blk_lt HFB.out; simp; omega) (fun e => hlfb e.symm)).trans hb2
  have hx3 := (hm2.grown.block w.heap.size (by have := blk_lt HX.out; simp; omega) (fun e => hlB e.symm)).trans hx2
  have hc3 : w2.cell? ⟨bf, 0, none⟩ = some (.pointer (some ⟨fb, id * 3, none⟩)) := (World.cell?_of_block (a := ⟨bf, 0, none⟩) (hm2.grown.block bf (World.block_lt_of_cell? _ _ hc2) (fun e => hlbf e.symm))).trans hc2
  have c5 : w2.cell? ⟨fb, id * 3 + 2, none⟩ = some x.vl := (blk_cell hb3).trans HCUR2.out
  have f5 : w2.frozen? ⟨fb, id * 3 + 2, none⟩ = false := blk_free hb3
  have HM2 := Lib.hid hm2
  have HO2 := Lib.hid ho2
  have HB3 := Lib.hid hb3
  have HC3 := Lib.hid hc3
  have HX3 := Lib.hid hx3
  clear hm2 ho2 hb3 hb2 hc2 hx2 hl2 hx3 hc3
  refine hK.out _ _ HC3.out ?_
  clear hK K
  (try simp only [Act.put, List.setIfInBounds_toArray, List.set_cons_zero, List.set_cons_succ])
  refine PlanT.take1 (v := ?v8) (by kernel_rfl) ?y8 ?r8
  case y8 => (intro wz hz; go_simp; try with_reducible rfl)
  (try simp only [Act.put, List.setIfInBounds_toArray, List.set_cons_zero, List.set_cons_succ])
  refine PlanT.take1 (v := ?v9) (by kernel_rfl) ?y9 ?r9
  case y9 => (intro wz hz; go_simp; try with_reducible rfl)
  (try simp only [Act.put, List.setIfInBounds_toArray, List.set_cons_zero, List.set_cons_succ])
  refine PlanT.exec3 (fun K hK => ⟨by kernel_rfl, ?_⟩)
  go_simp
  have hc4 : (w2.setCell ⟨fb, id * 3 + 2, none⟩ (.slice av2 (f.loose.length + 1) cv2)).cell? ⟨bf, 0, none⟩ = some (.pointer (some ⟨fb, id * 3, none⟩)) := (World.cell?_setCell_far _ _ _ _ hfbbf).trans HC3.out
  refine hK.out _ _ hc4 ?_
  clear hK K
  (try simp only [Act.put, List.setIfInBounds_toArray, List.set_cons_zero, List.set_cons_succ])
  refine PlanT.done (NoPanic.normal ?_)
  obtain ⟨v2, hv2⟩ : ∃ v2, v2 = Value.slice av2 (f.loose.length + 1) cv2 := ⟨_, rfl⟩
  obtain ⟨w3, hw3⟩ : ∃ w3, w3 = w2.setCell ⟨fb, id * 3 + 2, none⟩ v2 := ⟨_, rfl⟩
  rw [← hv2, ← hw3]
  have HM2' := HM2.out
  have HO2' := HO2.out
  rw [← hv2] at HM2' HO2'
  have hm3 : Moves w w2 x.vl v2 := Moves.after (HBEL.out.alloc (by have := HBEL.out.size; omega) _) HM2'
  have hk3 : Kept (fun k => k < w.heap.size ∧ k ≠ fb ∧ x.vl.ownBlock ≠ some k) w w3 := by
    subst hw3
    exact (hm3.kept fun k hk => ⟨hk.1, hk.2.2⟩).setCell (fun h => h.2.1 rfl) _
  have hs3 : w3.heap.size = w2.heap.size := by subst hw3; simp [World.setCell]
  have hv2fb : v2.ownBlock ≠ some fb := fun e => by
    rcases hm3.at_ fb e with h | h
    · exact hlfb h
    · omega
  have ho3 : w3.ownsRow 0 63 2 v2 (f.loose ++ [(at_, l)]).length (putCells (f.loose ++ [(at_, l)])) := by
    have e1 : putCells (f.loose ++ [(at_, l)]) = putCells f.loose ++ putCells [(at_, l)] := by simp [putCells]
    rw [e1, List.length_append]
    subst hw3
    exact own_kept HO2' (R := fun k => k ≠ fb) ((Kept.refl _ w2).setCell (fun h => h rfl) _) fun k e ep => hv2fb (by rw [← ep]; exact e)
  have hrow2 : w2.ownsRow 0 59 3 (.slice (some ⟨fb, 0, none⟩) g.l.length cap) g.l.length (gfCells g.l) := own_kept HROW.out (R := fun k => k = fb) (hm3.kept fun k hk => by subst hk; exact ⟨hfl, hlfb⟩) fun k e => by cases e; rfl
  have hrow3 := row_stored hrow2 id 2 x { x with vl := v2 } f ⟨f.safe, f.now, f.loose ++ [(at_, l)]⟩ v2 HXX.out (by omega) rfl (by omega)
  rw [← hw3] at hrow3
  have hset := HD.out.set_file (w' := w3) id x { x with vl := v2 } f ⟨f.safe, f.now, f.loose ++ [(at_, l)]⟩ HXX.out rfl (hk3.mono fun k hk => ⟨hk.1, fun e => hk.2.1 (by rw [HFV.out, e]; rfl), hk.2.2.2.2⟩)
    (by rw [HFV.out]; exact hrow3) (own_kept HFA.out.vs hk3 fun k e => ⟨own_lt HFA.out.vs k e, fun ep => hsfb (by rw [← ep]; exact e), HSL.out k e⟩)
    (own_kept HFA.out.vn hk3 fun k e => ⟨own_lt HFA.out.vn k e, fun ep => hnfb (by rw [← ep]; exact e), HNL.out k e⟩) ho3 (fun k e => .inl e) (fun k e => .inl e) (fun k e => (hm3.at_ k e).imp (fun h => h) (fun h => h.1))
    HSN.out (fun k e e' => by rcases hm3.at_ k e' with h | h; exact HSL.out k e h; have := own_lt HFA.out.vs k e; omega) (fun k e e' => by rcases hm3.at_ k e' with h | h; exact HNL.out k e h; have := own_lt HFA.out.vn k e; omega)
  obtain ⟨w4, hw4⟩ : ∃ w4, w4 = w3.drew := ⟨_, rfl⟩
  have hd4 := hset.1.drew
  rw [← hw4] at hd4
  have hk34 : Below w3.heap.size w3 w4 := by subst hw4; exact (Below.refl _ _).drew
  have hs4 : w4.heap.size = w3.heap.size := by subst hw4; rfl
  have hb4 : w4.heap[fb]? = some (.cells (cur.setIfInBounds (id * 3 + 2) v2) 59 (0, 0)) := by subst hw4; subst hw3; exact blk_set HB3.out _
  have hc4' : w4.cell? ⟨bf, 0, none⟩ = some (.pointer (some ⟨fb, id * 3, none⟩)) := by subst hw4; subst hw3; rw [hv2]; exact hc4
  have hx4 : w4.heap[w.heap.size]? = some (.cells #[.int .i64 (at_ : Int), .string (strB l)] 63 (0, 0)) := by subst hw4; subst hw3; exact (Below.heap_setCell _ _ _ _ hne).trans HX3.out
  have hn4 : OwnB w4 0 5 x.vn f.now := own_kept HFA.out.vn (hk3.trans (Kept.of hk34 fun k hk => by have := hk3.size; omega)) fun k e => ⟨own_lt HFA.out.vn k e, fun ep => hnfb (by rw [← ep]; exact e), HNL.out k e⟩
  have hcur4 : (cur.setIfInBounds (id * 3 + 2) v2)[id * 3 + 1]? = some x.vn := by rw [Array.getElem?_setIfInBounds_ne (by omega)]; exact HCUR1.out
  have c1' : w4.cell? ⟨fb, id * 3 + 1, none⟩ = some x.vn := (blk_cell hb4).trans hcur4
  have q0 : w4.cell? ⟨w.heap.size, 0, none⟩ = some (.int .i64 (at_ : Int)) := blk_cell hx4
  have q1 : w4.cell? ⟨w.heap.size, 1, none⟩ = some (.string (strB l)) := blk_cell hx4
  have hst4 : Step g _ w w4 := hset.2.trans (Step.below hk34)
  have hsz4 := hk3.size
  have Hw4 := Lib.hid hw4
  have HB4 := Lib.hid hb4
  have HC4 := Lib.hid hc4'
  have HN4 := Lib.hid hn4
  have HCUR4 := Lib.hid hcur4
  have HD4 := Lib.hid hd4
  have HST4 := Lib.hid hst4
  have hc4x := hc4'
  have HS4 := Lib.hid hs4
  have HROW3 := Lib.hid hrow3
  have HK34 := Lib.hid hk34
  have hx4l := blk_lt hx4
  clear hset hd4 hst4 hw4 hb4 hc4' hn4 hcur4 hx4 hrow2 hrow3 ho3 hs3 hk3 hm3 HM2' HO2' hc4 hw3 c5 f5 hk34 hs4 hv2
  go_wp2
  refine wp_region_two (fun wz => wz = w4) (fun wz => wz.cell? ⟨bf, 0, none⟩ = some (.pointer (some ⟨fb, id * 3, none⟩))) [(1, 0), (0, 1), (0, 2), (0, 3), (0, 4), (0, 5), (3, 6), (1, 7), (1, 8), (3, 9)] [6, 9] (by kernel_rfl) (by kernel_rfl) (by kernel_rfl) (by kernel_rfl) (by kernel_rfl) Hw4.out.symm (by rw [← Hw4.out]; exact HC4.out) ?_
  simp only [planT, List.drop_succ_cons, List.drop_zero]
  rw [← Hw4.out]
  refine PlanT.take1 (v := ?vB0) (by kernel_rfl) ?yB0 ?rB0
  case yB0 => (intro wz hz; go_simp; try with_reducible rfl)
  (try simp only [Act.put, List.setIfInBounds_toArray, List.set_cons_zero, List.set_cons_succ])
  refine PlanT.take0 (v := ?vB1) (by kernel_rfl) ?yB1 ?rB1
  case yB1 => (intro wz hz; subst hz; go_simp; try with_reducible rfl)
  (try simp only [Act.put, List.setIfInBounds_toArray, List.set_cons_zero, List.set_cons_succ])
  refine PlanT.take0 (v := ?vB2) (by kernel_rfl) ?yB2 ?rB2
  case yB2 => (intro wz hz; subst hz; go_simp; try with_reducible rfl)
  (try simp only [Act.put, List.setIfInBounds_toArray, List.set_cons_zero, List.set_cons_succ])
  refine PlanT.take0 (v := ?vB3) (by kernel_rfl) ?yB3 ?rB3
  case yB3 => (intro wz hz; subst hz; go_simp; try with_reducible rfl)
  (try simp only [Act.put, List.setIfInBounds_toArray, List.set_cons_zero, List.set_cons_succ])
  refine PlanT.take0 (v := ?vB4) (by kernel_rfl) ?yB4 ?rB4
  case yB4 => (intro wz hz; subst hz; go_simp; try with_reducible rfl)
  (try simp only [Act.put, List.setIfInBounds_toArray, List.set_cons_zero, List.set_cons_succ])
  refine PlanT.take0 (v := ?vB5) (by kernel_rfl) ?yB5 ?rB5
  case yB5 => (intro wz hz; subst hz; go_simp; try with_reducible rfl)
  (try simp only [Act.put, List.setIfInBounds_toArray, List.set_cons_zero, List.set_cons_succ])
  refine PlanT.exec3 (fun K hK => ⟨by kernel_rfl, ?_⟩)
  go_simp
  refine (over_any w4 at_ l x.vn f.now HN4.out hat (by omega)).mono ?_
  rintro e w5 ⟨v5, rfl, ho5, hm5⟩
  obtain ⟨av5, cv5, hv5, _, _⟩ := ho5.read.form
  subst hv5
  have hb6 := (hm5.grown.block fb (blk_lt HB4.out) (fun e => hnfb e.symm)).trans HB4.out
  have hc6 : w5.cell? ⟨bf, 0, none⟩ = some (.pointer (some ⟨fb, id * 3, none⟩)) := (World.cell?_of_block (a := ⟨bf, 0, none⟩) (hm5.grown.block bf (World.block_lt_of_cell? _ _ HC4.out) (fun e => hnbf e.symm))).trans HC4.out
  have c6 : w5.cell? ⟨fb, id * 3 + 1, none⟩ = some x.vn := (blk_cell hb6).trans HCUR4.out
  have f6 : w5.frozen? ⟨fb, id * 3 + 1, none⟩ = false := blk_free hb6
  have HM5 := Lib.hid hm5
  have HO5 := Lib.hid ho5
  have HB6 := Lib.hid hb6
  have HC6 := Lib.hid hc6
  clear hm5 ho5 hb6 hc6
  refine hK.out _ _ HC6.out ?_
  clear hK K
  (try simp only [Act.put, List.setIfInBounds_toArray, List.set_cons_zero, List.set_cons_succ])
  refine PlanT.take1 (v := ?vB7) (by kernel_rfl) ?yB7 ?rB7
  case yB7 => (intro wz hz; go_simp; try with_reducible rfl)
  (try simp only [Act.put, List.setIfInBounds_toArray, List.set_cons_zero, List.set_cons_succ])
  refine PlanT.take1 (v := ?vB8) (by kernel_rfl) ?yB8 ?rB8
  case yB8 => (intro wz hz; go_simp; try with_reducible rfl)
  (try simp only [Act.put, List.setIfInBounds_toArray, List.set_cons_zero, List.set_cons_succ])
  refine PlanT.exec3 (fun K hK => ⟨by kernel_rfl, ?_⟩)
  go_simp
  have hc7 : (w5.setCell ⟨fb, id * 3 + 1, none⟩ (.slice av5 (wr f.now at_ l).length cv5)).cell? ⟨bf, 0, none⟩ = some (.pointer (some ⟨fb, id * 3, none⟩)) := (World.cell?_setCell_far _ _ _ _ hfbbf).trans HC6.out
  refine hK.out _ _ hc7 ?_
  clear hK K
  (try simp only [Act.put, List.setIfInBounds_toArray, List.set_cons_zero, List.set_cons_succ])
  refine PlanT.done (NoPanic.normal ?_)
  obtain ⟨v5, hv5⟩ : ∃ v5, v5 = Value.slice av5 (wr f.now at_ l).length cv5 := ⟨_, rfl⟩
  rw [← hv5]
  have HM5' := HM5.out
  have HO5' := HO5.out
  rw [← hv5] at HM5' HO5'
  have Hv5 := Lib.hid hv5
  clear hv5
  have hin2 : id < (g.l.set id ({ x with vl := v2 }, ⟨f.safe, f.now, f.loose ++ [(at_, l)]⟩)).length := by rw [List.length_set]; exact hin
  have hx6 : (g.l.set id ({ x with vl := v2 }, (⟨f.safe, f.now, f.loose ++ [(at_, l)]⟩ : PF)))[id]? = some ({ x with vl := v2 }, ⟨f.safe, f.now, f.loose ++ [(at_, l)]⟩) := by
    rw [List.getElem?_set, if_pos rfl, if_pos hin]
  have hfa6 := HD4.out.fa _ (List.mem_of_getElem? hx6)
  have hv5fb : v5.ownBlock ≠ some fb := fun e => by
    rcases HM5'.at_ fb e with h | h
    · exact hnfb h
    · have := HS4.out; omega
  have hk6 : Kept (fun k => k < w4.heap.size ∧ k ≠ fb ∧ x.vn.ownBlock ≠ some k) w4 (w5.setCell ⟨fb, id * 3 + 1, none⟩ v5) := (HM5'.kept fun k hk => ⟨hk.1, hk.2.2⟩).setCell (fun h => h.2.1 rfl) _
  have hrow4 : w5.ownsRow 0 59 3 (.slice (some ⟨fb, 0, none⟩) g.l.length cap) g.l.length (gfCells (g.l.set id ({ x with vl := v2 }, ⟨f.safe, f.now, f.loose ++ [(at_, l)]⟩))) :=
    own_kept HROW3.out (R := fun k => k = fb) ((Kept.of HK34.out fun k hk => by subst hk; omega).trans (HM5'.kept fun k hk => by subst hk; exact ⟨by have := HS4.out; omega, hnfb⟩)) fun k e => by cases e; rfl
  have hrow6 := row_stored hrow4 id 1 { x with vl := v2 } { x with vl := v2, vn := v5 } ⟨f.safe, f.now, f.loose ++ [(at_, l)]⟩ (f.wrote at_ l) v5 hx6 (by omega) rfl (by omega)
  have hset6 := HD4.out.set_file (w' := w5.setCell ⟨fb, id * 3 + 1, none⟩ v5) id { x with vl := v2 } { x with vl := v2, vn := v5 } ⟨f.safe, f.now, f.loose ++ [(at_, l)]⟩ (f.wrote at_ l) hx6 rfl (hk6.mono fun k hk => ⟨hk.1, fun e => hk.2.1 (by show g.fv.ownBlock = _; rw [HFV.out, e]; rfl), hk.2.2.2.1⟩)
    (by show World.ownsRow _ _ _ _ g.fv _ _; rw [HFV.out, List.length_set]; exact hrow6)
    (own_kept hfa6.vs hk6 fun k e => ⟨own_lt hfa6.vs k e, fun ep => hsfb (by rw [← ep]; exact e), HSN.out k e⟩)
    (own_kept HO5' (R := fun k => k ≠ fb) ((Kept.refl _ w5).setCell (fun h => h rfl) _) fun k e ep => hv5fb (by rw [← ep]; exact e))
    (own_kept hfa6.vl hk6 fun k e => ⟨own_lt hfa6.vl k e, fun ep => hv2fb (by rw [← ep]; exact e), fun e' => by have h1 := hfa6.ol k e; have h2 := hfa6.on k e'; rw [h1] at h2; cases h2⟩)
    (fun k e => .inl e) (fun k e => (HM5'.at_ k e).imp (fun h => h) (fun h => h.1)) (fun k e => .inl e)
    (fun k e e' => by rcases HM5'.at_ k e' with h | h; exact HSN.out k e h; have := own_lt hfa6.vs k e; omega) (fun k e e' => by have h1 := hfa6.os k e; have h2 := hfa6.ol k e'; rw [h1] at h2; cases h2)
    (fun k e e' => by rcases HM5'.at_ k e with h | h; exact (fun h1 h2 => by rw [h1] at h2; cases h2) (hfa6.on k h) (hfa6.ol k e'); have := own_lt hfa6.vl k e'; omega)
  go_wp2
  go_end0
  refine ⟨rfl, _, ?_, HST4.out.trans hset6.2⟩
  have := hset6.1
  rw [show (d.files.set id (⟨f.safe, f.now, f.loose ++ [(at_, l)]⟩ : PF)).set id (f.wrote at_ l) = d.files.set id (f.wrote at_ l) from by rw [List.set_set]] at this
  exact this
end Go.Proofs.Ytfeogoihkpclcaa

/-
  What a Safe does, once it is counted; Safe.
-/
namespace Go.Proofs.Ytfeogoihkpclcaa
open Go.RowKit

def PF.safed (f : PF) : PF := ⟨kept f.loose (manyL f.loose) f.safe, f.now, []⟩

theorem gf_set2 (l : List (GF × PF)) (i : Nat) (x : GF) (f f' : PF) (a c : Value) (hx : l[i]? = some (x, f)) : gfCells (l.set i ({ x with vs := a, vl := c }, f')) = ((gfCells l).set (i * 3 + 0) a).set (i * 3 + 2) c := by
  have h1 : gfCells (l.set i ({ x with vs := a }, f)) = (gfCells l).set (i * 3 + 0) a := flat_set (fun x : GF × PF => [x.1.vs, x.1.vn, x.1.vl]) 3 (fun _ => rfl) l i 0 (x, f) ({ x with vs := a }, f) a (by omega) hx rfl
  have hl : i < l.length := (List.getElem?_eq_some_iff.1 hx).1
  have h2 : gfCells ((l.set i ({ x with vs := a }, f)).set i ({ x with vs := a, vl := c }, f')) = (gfCells (l.set i ({ x with vs := a }, f))).set (i * 3 + 2) c :=
    flat_set (fun x : GF × PF => [x.1.vs, x.1.vn, x.1.vl]) 3 (fun _ => rfl) _ i 2 ({ x with vs := a }, f) ({ x with vs := a, vl := c }, f') c (by omega) (by rw [List.getElem?_set, if_pos rfl, if_pos hl]) rfl
  rw [List.set_set, h1] at h2
  exact h2

/-- A file of a disk is made safe, the first bytes of its loose writes. -/
theorem fsettle_at {g : Gh} {w : World} {p : Nat} {d : PD} (h : DiskAt g w p d) (hsm : Small d) (id fb cap left : Nat) (x : GF) (f : PF) (hfv : g.fv = .slice (some ⟨fb, 0, none⟩) g.l.length cap) (hx : g.l[id]? = some (x, f)) (hleft : left < 1000000000000) :
    Calls Try.prog 55 #[.pointer (some ⟨fb, id * 3, none⟩), .int .i64 (left : Int)] w fun e w' => e = .returned (.tuple #[]) ∧ ∃ g', DiskAt g' w' p { d with files := d.files.set id ⟨kept f.loose left f.safe, f.now, []⟩ } ∧ Step g g' w w' ∧ g'.fv = g.fv ∧ g'.l.length = g.l.length ∧ Kept (fun k => k < w.heap.size ∧ g.o k = .out) w w' := by
  have hmem : (x, f) ∈ g.l := List.mem_of_getElem? hx
  have hfa := h.fa _ hmem
  have hfd : f ∈ d.files := by rw [h.fl]; exact List.mem_map.2 ⟨_, hmem, rfl⟩
  obtain ⟨s1, s2, s3, s4, s5, s6⟩ := hsm.fl f hfd
  have hin : id < g.l.length := (List.getElem?_eq_some_iff.1 hx).1
  have hfrow := h.fr
  rw [hfv] at hfrow
  obtain ⟨fb', cap', cur, hv', _, _, hfb, hcur, _⟩ := own_form hfrow (by omega)
  cases hv'
  have hofb : g.o fb = .files := h.of fb (by rw [hfv]; rfl)
  have hat2 := fun j hj => flat_at (fun x : GF × PF => [x.1.vs, x.1.vn, x.1.vl]) 3 (fun _ => rfl) g.l id j hj
  rw [hx] at hat2
  have hcur0 : cur[id * 3]? = some x.vs := by rw [← blk_cell hfb]; exact hcur _ _ (hat2 0 (by omega))
  have hcur2 : cur[id * 3 + 2]? = some x.vl := by rw [← blk_cell hfb]; exact hcur _ _ (hat2 2 (by omega))
  have hsfb : x.vs.ownBlock ≠ some fb := fun e => by have := hfa.os fb e; rw [hofb] at this; cases this
  have hlfb : x.vl.ownBlock ≠ some fb := fun e => by have := hfa.ol fb e; rw [hofb] at this; cases this
  have hnfb : x.vn.ownBlock ≠ some fb := fun e => by have := hfa.on fb e; rw [hofb] at this; cases this
  have hsl : ∀ k, x.vs.ownBlock = some k → x.vl.ownBlock ≠ some k := fun k e e' => by have := hfa.os k e; rw [hfa.ol k e'] at this; cases this
  have hsn : ∀ k, x.vs.ownBlock = some k → x.vn.ownBlock ≠ some k := fun k e e' => by have := hfa.os k e; rw [hfa.on k e'] at this; cases this
  refine (fsettle_any w fb (id * 3) left cur 59 x.vs x.vl f.safe f.loose hfb hcur0 hcur2 hfa.vs hfa.vl hsfb hlfb hsl s5 (by omega) (by omega) hleft).mono ?_
  rintro e w3 ⟨rfl, vs', r1, r2, r3, r4⟩
  have hnvs' : ∀ k, vs'.ownBlock = some k → x.vn.ownBlock ≠ some k := fun k e e' => by
    rcases r4 k e with h1 | h1
    · exact hsn k h1 e'
    · have := own_lt hfa.vn k e'; omega
  have hrow := own_set hfrow hfb r2 (by simp) (gfCells (g.l.set id ({ x with vs := vs', vl := .slice none 0 0 }, ⟨kept f.loose left f.safe, f.now, []⟩))) (by rw [gf_set2 _ _ _ f _ _ _ hx]; simp)
    (fun ht => by rw [gf_set2 _ _ _ f _ _ _ hx, take_set, take_set, ht]; rfl)
  rw [← hfv] at hrow
  have hset := h.set_file (w' := w3) id x { x with vs := vs', vl := .slice none 0 0 } f ⟨kept f.loose left f.safe, f.now, []⟩ hx rfl (r3.mono fun k hk => ⟨hk.1, fun e => hk.2.1 (by rw [hfv, e]; rfl), hk.2.2.1⟩) hrow r1
    (own_kept hfa.vn r3 fun k e => ⟨own_lt hfa.vn k e, fun ep => hnfb (by rw [← ep]; exact e), fun e' => hsn k e' e⟩) (World.ownsRow_nil _ _ _ _)
    (fun k e => (r4 k e).imp (fun h => h) (fun h => h.1)) (fun k e => .inl e) (fun k e => (by cases e)) hnvs' (fun k e e' => (by cases e')) (fun k e e' => (by cases e'))
  exact ⟨rfl, _, hset.1, hset.2, rfl, by simp, r3.mono fun k hk => ⟨hk.1, fun e => (by subst e; rw [hofb] at hk; exact absurd hk.2 (by simp)), fun e => (by have := hfa.os k e; rw [hk.2] at this; cases this)⟩⟩

set_option maxRecDepth 100000 in
set_option maxHeartbeats 4000000 in
set_option linter.unusedSimpArgs false in
theorem safe1_at {g : Gh} {w : World} {p : Nat} {d : PD} (h : DiskAt g w p d) (hsm : Small d) (id fb cap : Nat) (x : GF) (f : PF) (hfv : g.fv = .slice (some ⟨fb, 0, none⟩) g.l.length cap) (hx : g.l[id]? = some (x, f)) (bf : Nat) (hbf : w.cell? ⟨bf, 0, none⟩ = some (.pointer (some ⟨fb, id * 3, none⟩))) (obf : g.o bf = .out) :
    Calls Try.prog 54 #[.pointer (some ⟨bf, 0, none⟩)] w fun e w' => e = .returned (.tuple #[]) ∧ ∃ g', DiskAt g' w' p { d with files := d.files.set id f.safed } ∧ Step g g' w w' := by
  have hmem : (x, f) ∈ g.l := List.mem_of_getElem? hx
  have hfd : f ∈ d.files := by rw [h.fl]; exact List.mem_map.2 ⟨_, hmem, rfl⟩
  obtain ⟨s1, s2, s3, s4, s5, s6⟩ := hsm.fl f hfd
  obtain ⟨w1, hw1⟩ : ∃ w1, w1 = w.drew := ⟨_, rfl⟩
  have hd1 : DiskAt g w1 p d := by subst hw1; exact h.drew
  have hb1 : Below w.heap.size w w1 := by subst hw1; exact (Below.refl _ _).drew
  have hfa1 := hd1.fa _ hmem
  have hcf : w1.cell? ⟨bf, 0, none⟩ = some (.pointer (some ⟨fb, id * 3, none⟩)) := by subst hw1; exact hbf
  obtain ⟨fb2, cap2, x2, hfv2, _, hx2, _, _, _, e0, e1, e2, _⟩ := hd1.file (i := id) (f := f) (by rw [h.fl, List.getElem?_map, hx]; rfl)
  rw [hfv] at hfv2
  cases hfv2
  rw [hx] at hx2
  cases hx2
  have hset : ∀ w2, Below w1.heap.size w1 w2 → Calls Try.prog 55 #[.pointer (some ⟨fb, id * 3, none⟩), .int .i64 (((f.loose.map fun p => p.2.length).sum : Nat) : Int)] w2 fun e w' => e = .returned (.tuple #[]) ∧ ∃ g', DiskAt g' w' p { d with files := d.files.set id f.safed } ∧ Step g g' w w' ∧ w'.cell? ⟨bf, 0, none⟩ = some (.pointer (some ⟨fb, id * 3, none⟩)) := by
    intro w2 hB
    have hd2 : DiskAt g w2 p d := hd1.below hB
    refine (fsettle_at hd2 hsm id fb cap (manyL f.loose) x f hfv hx (by omega)).mono ?_
    rintro e w3 ⟨rfl, g3, r1, r2, _, _, r5⟩
    refine ⟨rfl, g3, r1, ((Step.below hb1).trans (Step.below hB)).trans r2, ?_⟩
    have hl1 := World.block_lt_of_cell? _ _ hcf
    exact (r5.cell (p := ⟨bf, 0, none⟩) ⟨Nat.lt_of_lt_of_le hl1 hB.size, obf⟩).trans ((hB.cell (p := ⟨bf, 0, none⟩) hl1).trans hcf)
  have Hw1 := Lib.hid hw1
  have HCF := Lib.hid hcf
  have HCL := Lib.hid e2
  have HFA1 := Lib.hid hfa1.vl
  have HSET := Lib.hid hset
  clear hw1 hcf e2 e0 e1 hfa1 hset hd1 h hsm hfv hx s5 s6 hb1 hmem hfd hbf
  go_enter Try.func54, Try.ntmps54
  go_wp2
  refine wp_region_two (fun wz => wz.cell? ⟨bf, 0, none⟩ = some (.pointer (some ⟨fb, id * 3, none⟩))) (fun wz => wz.cell? ⟨bf, 0, none⟩ = some (.pointer (some ⟨fb, id * 3, none⟩))) [(0, 0), (0, 1), (2, 2), (3, 3)] [3] (by kernel_rfl) (by kernel_rfl) (by kernel_rfl) (by kernel_rfl) (by kernel_rfl) (by rw [← Hw1.out]; exact HCF.out) (by rw [← Hw1.out]; exact HCF.out) ?_
  simp only [planT, List.drop_succ_cons, List.drop_zero]
  rw [← Hw1.out]
  refine PlanT.take0 (v := ?v0) (by kernel_rfl) ?y0 ?r0
  case y0 => (intro wz hz; go_simp; try with_reducible rfl)
  (try simp only [Act.put, List.setIfInBounds_toArray, List.set_cons_zero, List.set_cons_succ])
  refine PlanT.take0 (v := ?v1) (by kernel_rfl) ?y1 ?r1
  case y1 => (intro wz hz; go_simp; try with_reducible rfl)
  (try simp only [Act.put, List.setIfInBounds_toArray, List.set_cons_zero, List.set_cons_succ])
  refine PlanT.exec2 (fun K hK => ⟨by kernel_rfl, ?_⟩)
  go_simp
  refine (pending_any w1 fb (id * 3) x.vl f.loose HCL.out HFA1.out (by show manyL f.loose < _; omega) (by omega)).mono ?_
  rintro e w2 ⟨rfl, hB2⟩
  have hc2 : w2.cell? ⟨bf, 0, none⟩ = some (.pointer (some ⟨fb, id * 3, none⟩)) := (hB2.cell (p := ⟨bf, 0, none⟩) (World.block_lt_of_cell? _ _ HCF.out)).trans HCF.out
  refine hK.out _ _ hc2 hc2 ?_
  clear hK K
  (try simp only [Act.put, List.setIfInBounds_toArray, List.set_cons_zero, List.set_cons_succ])
  refine PlanT.exec3 (fun K hK => ⟨by kernel_rfl, ?_⟩)
  go_simp
  refine (HSET.out w2 hB2).mono ?_
  rintro e w3 ⟨rfl, g3, hd3, hst3, hc3⟩
  refine hK.out _ _ hc3 ?_
  clear hK K
  (try simp only [Act.put, List.setIfInBounds_toArray, List.set_cons_zero, List.set_cons_succ])
  refine PlanT.done (NoPanic.normal ?_)
  go_end0
  exact ⟨rfl, g3, hd3, hst3⟩

def PD.file (d : PD) (id : Nat) : PF := d.files.getD id PF.new

def PD.makeSafe (d : PD) (n : List UInt8) : Nat × PD :=
  if d.down then (7, d) else match dfind d.names n with
  | none => (2, d)
  | some id => (d.err, d.after fun d => { d with files := d.files.set id (d.file id).safed })

theorem enters_safe1 : Enters Try.prog 54 := enters_of Try.func54 (by kernel_rfl) rfl
theorem eqf_nil (w : World) (a : Addr) : (binOp .eql 83 (.pointer (some a)) (.pointer none)).run Try.prog w = .ok (.bool false) w := by kernel_rfl
theorem eqf_nil2 (w : World) : (binOp .eql 83 (.pointer none) (.pointer none)).run Try.prog w = .ok (.bool true) w := by kernel_rfl

set_option maxRecDepth 100000 in
set_option maxHeartbeats 2000000 in
theorem safe_at {g : Gh} {w : World} {p : Nat} {d : PD} (h : DiskAt g w p d) (hsm : Small d) (hcl : d.calls + 1 < 10000) (s : ByteArray) (hs : s.size ≤ maxLen) :
    Calls Try.prog 19 #[.pointer (some ⟨p, 0, none⟩), .string s] w fun e w' => e = .returned (.int .i64 ((d.makeSafe s.data.toList).1 : Int)) ∧ ∃ g', DiskAt g' w' p (d.makeSafe s.data.toList).2 ∧ Step g g' w w' := by
  have c4 : w.cell? ⟨p, 4, none⟩ = some (.bool d.down) := blk_cell h.blk
  have hpw := blk_lt h.blk
  cases hdn : d.down with
  | true =>
    rw [show d.makeSafe s.data.toList = (7, d) by unfold PD.makeSafe; simp [hdn]]
    dsimp only
    rw [hdn] at c4
    have HSH := Lib.hid (shut_any w p true c4)
    clear hsm hdn c4
    have HH := Lib.hid h
    clear h
    go_enter Try.func19, Try.ntmps19
    go_wp2_with (go_at_call 46; refine HSH.out.mono ?_; rintro e w5 ⟨rfl, rfl⟩)
    go_ret
    exact ⟨rfl, g, HH.out, Step.refl _ _⟩
  | false =>
    rw [hdn] at c4
    have HSH := Lib.hid (shut_any w p false c4)
    rcases find_at h s hs hsm.idn with ⟨hf, hcall⟩ | ⟨id, fb, cap, x, f, hf, hidl, hfv, hx, hff, _, _, _, _, _, _, _, hcall⟩
    · rw [show d.makeSafe s.data.toList = (2, d) by unfold PD.makeSafe; simp [hdn, hf]]
      dsimp only
      have HC := Lib.hid hcall
      have hq := eqf_nil2
      have HH := Lib.hid h
      clear hcall hf hsm hdn c4 h
      go_enter Try.func19, Try.ntmps19
      go_wp2_with (first | (go_at_call 46; refine HSH.out.mono ?_; rintro e w5 ⟨rfl, rfl⟩) | (go_at_call 42; refine HC.out.mono ?_; rintro e w5 ⟨rfl, rfl⟩))
      go_ret
      have hb : Below w.heap.size w (w.alloc (.cells #[.pointer none] 83)) := (Below.refl _ _).alloc (Nat.le_refl _) _
      exact ⟨rfl, g, HH.out.below hb, Step.below hb⟩
    · rw [show d.makeSafe s.data.toList = (d.err, d.after fun d => { d with files := d.files.set id (d.file id).safed }) by unfold PD.makeSafe; simp [hdn, hf]]
      dsimp only
      have hfile : d.file id = f := by unfold PD.file; rw [List.getD_eq_getElem?_getD, hff]; rfl
      have HC := Lib.hid hcall
      have hq := eqf_nil
      have hb : Below w.heap.size w (w.alloc (.cells #[.pointer (some ⟨fb, id * 3, none⟩)] 83)) := (Below.refl _ _).alloc (Nat.le_refl _) _
      have hcn := counted (k := 54) (fst := #[]) (caps := #[.pointer (some ⟨w.heap.size, 0, none⟩)]) (h.below hb) (by omega) enters_safe1 (fun d => { d with files := d.files.set id (d.file id).safed }) rfl
        (fun _ w2 hd2 hk2 hs2 => by
          have hc := (hk2.cell (p := ⟨w.heap.size, 0, none⟩) ⟨by simp, by show w.heap.size ≠ p; omega⟩).trans (blk_cell (heap_alloc_new w (.cells #[.pointer (some ⟨fb, id * 3, none⟩)] 83)))
          have := safe1_at hd2 (hsm.cnt hcl) id fb cap x f hfv hx w.heap.size hc (out_of h (Nat.le_refl _))
          show Calls _ _ _ _ fun e w2 => e = .returned (.tuple #[]) ∧ ∃ g', DiskAt g' w2 p { d.cnt with files := d.files.set id (d.file id).safed } ∧ _
          rw [hfile]
          exact this)
      have HCN := Lib.hid hcn
      have HB := Lib.hid hb
      clear hcall hf hcn hsm hdn c4 h hfv hx hff hfile hb
      go_enter Try.func19, Try.ntmps19
      go_wp2_with (first | (go_at_call 46; refine HSH.out.mono ?_; rintro e w5 ⟨rfl, rfl⟩) | (go_at_call 42; refine HC.out.mono ?_; rintro e w5 ⟨rfl, rfl⟩) | (go_at_call 48; (with_reducible refine HCN.out.mono ?_); rintro e w5 ⟨rfl, g5, hd5, hst5⟩))
      go_ret
      exact ⟨rfl, g5, hd5, (Step.below HB.out).trans hst5⟩
end Go.Proofs.Ytfeogoihkpclcaa
