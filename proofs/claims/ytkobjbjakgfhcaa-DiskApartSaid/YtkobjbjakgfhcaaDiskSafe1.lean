/-
  What a Safe does, once it is counted; Safe.
-/
import Derived.Test.YtkobjbjakgfhcaaDiskWrite1
namespace Go.Proofs.Ytkobjbjakgfhcaa
open Go.RowKit

def PF.safed (f : PF) : PF := ⟨kept f.loose (manyL f.loose) f.safe, f.now, []⟩

theorem gf_set2 (l : List (GF × PF)) (i : Nat) (x : GF) (f f' : PF) (a c : Value) (hx : l[i]? = some (x, f)) : gfCells (l.set i ({ x with vs := a, vl := c }, f')) = ((gfCells l).set (i * 3 + 0) a).set (i * 3 + 2) c := by
  have h1 : gfCells (l.set i ({ x with vs := a }, f)) = (gfCells l).set (i * 3 + 0) a := flat_set (fun x : GF × PF => [x.1.vs, x.1.vn, x.1.vl]) 3 (fun _ => rfl) l i 0 (x, f) ({ x with vs := a }, f) a (by omega) hx rfl
  have hl : i < l.length := (List.getElem?_eq_some_iff.1 hx).1
  have h2 : gfCells ((l.set i ({ x with vs := a }, f)).set i ({ x with vs := a, vl := c }, f')) = (gfCells (l.set i ({ x with vs := a }, f))).set (i * 3 + 2) c :=
    flat_set (fun x : GF × PF => [x.1.vs, x.1.vn, x.1.vl]) 3 (fun _ => rfl) _ i 2 ({ x with vs := a }, f) ({ x with vs := a, vl := c }, f') c (by omega) (by rw [List.getElem?_set, if_pos rfl, if_pos hl]) rfl
  rw [List.set_set, h1] at h2
  exact h2

/-- A file of a disk is made safe, the first bytes of its loose writes. -/
theorem fsettle_at {g : Gh} {w : World} {p : Nat} {d : PD} (h : DiskAt g w p d) (hsm : Small d) (id fb cap left : Nat) (x : GF) (f : PF) (hfv : g.fv = .slice (some ⟨fb, 0, none⟩) g.l.length cap) (hx : g.l[id]? = some (x, f)) (hleft : left < 1000000000000) :
    Calls Try.prog 56 #[.pointer (some ⟨fb, id * 3, none⟩), .int .i64 (left : Int)] w fun e w' => e = .returned (.tuple #[]) ∧ ∃ g', DiskAt g' w' p { d with files := d.files.set id ⟨kept f.loose left f.safe, f.now, []⟩ } ∧ Step g g' w w' ∧ g'.fv = g.fv ∧ g'.l.length = g.l.length ∧ Kept (fun k => k < w.heap.size ∧ g.o k = .out) w w' := by
  have hmem : (x, f) ∈ g.l := List.mem_of_getElem? hx
  have hfa := h.fa _ hmem
  have hfd : f ∈ d.files := by rw [h.fl]; exact List.mem_map.2 ⟨_, hmem, rfl⟩
  obtain ⟨s1, s2, s3, s4, s5, s6⟩ := hsm.fl f hfd
  have hin : id < g.l.length := (List.getElem?_eq_some_iff.1 hx).1
  have hfrow := h.fr
  rw [hfv] at hfrow
  obtain ⟨fb', cap', cur, hv', _, _, hfb, hcur, _⟩ := own_form hfrow (by omega)
  cases hv'
  have hofb : g.o fb = .files := h.of fb (by rw [hfv]; rfl)
  have hat2 := fun j hj => flat_at (fun x : GF × PF => [x.1.vs, x.1.vn, x.1.vl]) 3 (fun _ => rfl) g.l id j hj
  rw [hx] at hat2
  have hcur0 : cur[id * 3]? = some x.vs := by rw [← blk_cell hfb]; exact hcur _ _ (hat2 0 (by omega))
  have hcur2 : cur[id * 3 + 2]? = some x.vl := by rw [← blk_cell hfb]; exact hcur _ _ (hat2 2 (by omega))
  have hsfb : x.vs.ownBlock ≠ some fb := fun e => by have := hfa.os fb e; rw [hofb] at this; cases this
  have hlfb : x.vl.ownBlock ≠ some fb := fun e => by have := hfa.ol fb e; rw [hofb] at this; cases this
  have hnfb : x.vn.ownBlock ≠ some fb := fun e => by have := hfa.on fb e; rw [hofb] at this; cases this
  have hsl : ∀ k, x.vs.ownBlock = some k → x.vl.ownBlock ≠ some k := fun k e e' => by have := hfa.os k e; rw [hfa.ol k e'] at this; cases this
  have hsn : ∀ k, x.vs.ownBlock = some k → x.vn.ownBlock ≠ some k := fun k e e' => by have := hfa.os k e; rw [hfa.on k e'] at this; cases this
  refine (fsettle_any w fb (id * 3) left cur 62 x.vs x.vl f.safe f.loose hfb hcur0 hcur2 hfa.vs hfa.vl hsfb hlfb hsl s5 (by omega) (by omega) hleft).mono ?_
  rintro e w3 ⟨rfl, vs', r1, r2, r3, r4⟩
  have hnvs' : ∀ k, vs'.ownBlock = some k → x.vn.ownBlock ≠ some k := fun k e e' => by
    rcases r4 k e with h1 | h1
    · exact hsn k h1 e'
    · have := own_lt hfa.vn k e'; omega
  have hrow := own_set hfrow hfb r2 (by simp) (gfCells (g.l.set id ({ x with vs := vs', vl := .slice none 0 0 }, ⟨kept f.loose left f.safe, f.now, []⟩))) (by rw [gf_set2 _ _ _ f _ _ _ hx]; simp)
    (fun ht => by rw [gf_set2 _ _ _ f _ _ _ hx, take_set, take_set, ht]; rfl)
  rw [← hfv] at hrow
  have hset := h.set_file (w' := w3) id x { x with vs := vs', vl := .slice none 0 0 } f ⟨kept f.loose left f.safe, f.now, []⟩ hx rfl (r3.mono fun k hk => ⟨hk.1, fun e => hk.2.1 (by rw [hfv, e]; rfl), hk.2.2.1⟩) hrow r1
    (own_kept hfa.vn r3 fun k e => ⟨own_lt hfa.vn k e, fun ep => hnfb (by rw [← ep]; exact e), fun e' => hsn k e' e⟩) (World.ownsRow_nil _ _ _ _)
    (fun k e => (r4 k e).imp (fun h => h) (fun h => h.1)) (fun k e => .inl e) (fun k e => (by cases e)) hnvs' (fun k e e' => (by cases e')) (fun k e e' => (by cases e'))
  exact ⟨rfl, _, hset.1, hset.2, rfl, by simp, r3.mono fun k hk => ⟨hk.1, fun e => (by subst e; rw [hofb] at hk; exact absurd hk.2 (by simp)), fun e => (by have := hfa.os k e; rw [hk.2] at this; cases this)⟩⟩

set_option maxRecDepth 100000 in
set_option maxHeartbeats 4000000 in
set_option linter.unusedSimpArgs false in
theorem safe1_at {g : Gh} {w : World} {p : Nat} {d : PD} (h : DiskAt g w p d) (hsm : Small d) (id fb cap : Nat) (x : GF) (f : PF) (hfv : g.fv = .slice (some ⟨fb, 0, none⟩) g.l.length cap) (hx : g.l[id]? = some (x, f)) (bf : Nat) (hbf : w.cell? ⟨bf, 0, none⟩ = some (.pointer (some ⟨fb, id * 3, none⟩))) (obf : g.o bf = .out) :
    Calls Try.prog 55 #[.pointer (some ⟨bf, 0, none⟩)] w fun e w' => e = .returned (.tuple #[]) ∧ ∃ g', DiskAt g' w' p { d with files := d.files.set id f.safed } ∧ Step g g' w w' := by
  have hmem : (x, f) ∈ g.l := List.mem_of_getElem? hx
  have hfd : f ∈ d.files := by rw [h.fl]; exact List.mem_map.2 ⟨_, hmem, rfl⟩
  obtain ⟨s1, s2, s3, s4, s5, s6⟩ := hsm.fl f hfd
  obtain ⟨w1, hw1⟩ : ∃ w1, w1 = w.drew := ⟨_, rfl⟩
  have hd1 : DiskAt g w1 p d := by subst hw1; exact h.drew
  have hb1 : Below w.heap.size w w1 := by subst hw1; exact (Below.refl _ _).drew
  have hfa1 := hd1.fa _ hmem
  have hcf : w1.cell? ⟨bf, 0, none⟩ = some (.pointer (some ⟨fb, id * 3, none⟩)) := by subst hw1; exact hbf
  obtain ⟨fb2, cap2, x2, hfv2, _, hx2, _, _, _, e0, e1, e2, _⟩ := hd1.file (i := id) (f := f) (by rw [h.fl, List.getElem?_map, hx]; rfl)
  rw [hfv] at hfv2
  cases hfv2
  rw [hx] at hx2
  cases hx2
  have hset : ∀ w2, Below w1.heap.size w1 w2 → Calls Try.prog 56 #[.pointer (some ⟨fb, id * 3, none⟩), .int .i64 (((f.loose.map fun p => p.2.length).sum : Nat) : Int)] w2 fun e w' => e = .returned (.tuple #[]) ∧ ∃ g', DiskAt g' w' p { d with files := d.files.set id f.safed } ∧ Step g g' w w' ∧ w'.cell? ⟨bf, 0, none⟩ = some (.pointer (some ⟨fb, id * 3, none⟩)) := by
    intro w2 hB
    have hd2 : DiskAt g w2 p d := hd1.below hB
    refine (fsettle_at hd2 hsm id fb cap (manyL f.loose) x f hfv hx (by omega)).mono ?_
    rintro e w3 ⟨rfl, g3, r1, r2, _, _, r5⟩
    refine ⟨rfl, g3, r1, ((Step.below hb1).trans (Step.below hB)).trans r2, ?_⟩
    have hl1 := World.block_lt_of_cell? _ _ hcf
    exact (r5.cell (p := ⟨bf, 0, none⟩) ⟨Nat.lt_of_lt_of_le hl1 hB.size, obf⟩).trans ((hB.cell (p := ⟨bf, 0, none⟩) hl1).trans hcf)
  have Hw1 := Lib.hid hw1
  have HCF := Lib.hid hcf
  have HCL := Lib.hid e2
  have HFA1 := Lib.hid hfa1.vl
  have HSET := Lib.hid hset
  clear hw1 hcf e2 e0 e1 hfa1 hset hd1 h hsm hfv hx s5 s6 hb1 hmem hfd hbf
  go_enter Try.func55, Try.ntmps55
  go_wp2
  refine wp_region_two (fun wz => wz.cell? ⟨bf, 0, none⟩ = some (.pointer (some ⟨fb, id * 3, none⟩))) (fun wz => wz.cell? ⟨bf, 0, none⟩ = some (.pointer (some ⟨fb, id * 3, none⟩))) [(0, 0), (0, 1), (2, 2), (3, 3)] [3] (by kernel_rfl) (by kernel_rfl) (by kernel_rfl) (by kernel_rfl) (by kernel_rfl) (by rw [← Hw1.out]; exact HCF.out) (by rw [← Hw1.out]; exact HCF.out) ?_
  simp only [planT, List.drop_succ_cons, List.drop_zero]
  rw [← Hw1.out]
  refine PlanT.take0 (v := ?v0) (by kernel_rfl) ?y0 ?r0
  case y0 => (intro wz hz; go_simp; try with_reducible rfl)
  (try simp only [Act.put, List.setIfInBounds_toArray, List.set_cons_zero, List.set_cons_succ])
  refine PlanT.take0 (v := ?v1) (by kernel_rfl) ?y1 ?r1
  case y1 => (intro wz hz; go_simp; try with_reducible rfl)
  (try simp only [Act.put, List.setIfInBounds_toArray, List.set_cons_zero, List.set_cons_succ])
  refine PlanT.exec2 (fun K hK => ⟨by kernel_rfl, ?_⟩)
  go_simp
  refine (pending_any w1 fb (id * 3) x.vl f.loose HCL.out HFA1.out (by show manyL f.loose < _; omega) (by omega)).mono ?_
  rintro e w2 ⟨rfl, hB2⟩
  have hc2 : w2.cell? ⟨bf, 0, none⟩ = some (.pointer (some ⟨fb, id * 3, none⟩)) := (hB2.cell (p := ⟨bf, 0, none⟩) (World.block_lt_of_cell? _ _ HCF.out)).trans HCF.out
  refine hK.out _ _ hc2 hc2 ?_
  clear hK K
  (try simp only [Act.put, List.setIfInBounds_toArray, List.set_cons_zero, List.set_cons_succ])
  refine PlanT.exec3 (fun K hK => ⟨by kernel_rfl, ?_⟩)
  go_simp
  refine (HSET.out w2 hB2).mono ?_
  rintro e w3 ⟨rfl, g3, hd3, hst3, hc3⟩
  refine hK.out _ _ hc3 ?_
  clear hK K
  (try simp only [Act.put, List.setIfInBounds_toArray, List.set_cons_zero, List.set_cons_succ])
  refine PlanT.done (NoPanic.normal ?_)
  go_end0
  exact ⟨rfl, g3, hd3, hst3⟩

def PD.file (d : PD) (id : Nat) : PF := d.files.getD id PF.new

def PD.makeSafe (d : PD) (n : List UInt8) : Nat × PD :=
  if d.down then (7, d) else match dfind d.names n with
  | none => (2, d)
  | some id => (d.err, d.after fun d => { d with files := d.files.set id (d.file id).safed })

theorem enters_safe1 : Enters Try.prog 55 := enters_of Try.func55 (by kernel_rfl) rfl
theorem eqf_nil (w : World) (a : Addr) : (binOp .eql 84 (.pointer (some a)) (.pointer none)).run Try.prog w = .ok (.bool false) w := by kernel_rfl
theorem eqf_nil2 (w : World) : (binOp .eql 84 (.pointer none) (.pointer none)).run Try.prog w = .ok (.bool true) w := by kernel_rfl

set_option maxRecDepth 100000 in
set_option maxHeartbeats 2000000 in
theorem safe_at {g : Gh} {w : World} {p : Nat} {d : PD} (h : DiskAt g w p d) (hsm : Small d) (hcl : d.calls + 1 < 10000) (s : ByteArray) (hs : s.size ≤ maxLen) :
    Calls Try.prog 22 #[.pointer (some ⟨p, 0, none⟩), .string s] w fun e w' => e = .returned (.int .i64 ((d.makeSafe s.data.toList).1 : Int)) ∧ ∃ g', DiskAt g' w' p (d.makeSafe s.data.toList).2 ∧ Step g g' w w' := by
  have c4 : w.cell? ⟨p, 4, none⟩ = some (.bool d.down) := blk_cell h.blk
  have hpw := blk_lt h.blk
  cases hdn : d.down with
  | true =>
    rw [show d.makeSafe s.data.toList = (7, d) by unfold PD.makeSafe; simp [hdn]]
    dsimp only
    rw [hdn] at c4
    have HSH := Lib.hid (shut_any w p true c4)
    clear hsm hdn c4
    have HH := Lib.hid h
    clear h
    go_enter Try.func22, Try.ntmps22
    go_wp2_with (go_at_call 47; refine HSH.out.mono ?_; rintro e w5 ⟨rfl, rfl⟩)
    go_ret
    exact ⟨rfl, g, HH.out, Step.refl _ _⟩
  | false =>
    rw [hdn] at c4
    have HSH := Lib.hid (shut_any w p false c4)
    rcases find_at h s hs hsm.idn with ⟨hf, hcall⟩ | ⟨id, fb, cap, x, f, hf, hidl, hfv, hx, hff, _, _, _, _, _, _, _, hcall⟩
    · rw [show d.makeSafe s.data.toList = (2, d) by unfold PD.makeSafe; simp [hdn, hf]]
      dsimp only
      have HC := Lib.hid hcall
      have hq := eqf_nil2
      have HH := Lib.hid h
      clear hcall hf hsm hdn c4 h
      go_enter Try.func22, Try.ntmps22
      go_wp2_with (first | (go_at_call 47; refine HSH.out.mono ?_; rintro e w5 ⟨rfl, rfl⟩) | (go_at_call 43; refine HC.out.mono ?_; rintro e w5 ⟨rfl, rfl⟩))
      go_ret
      have hb : Below w.heap.size w (w.alloc (.cells #[.pointer none] 84)) := (Below.refl _ _).alloc (Nat.le_refl _) _
      exact ⟨rfl, g, HH.out.below hb, Step.below hb⟩
    · rw [show d.makeSafe s.data.toList = (d.err, d.after fun d => { d with files := d.files.set id (d.file id).safed }) by unfold PD.makeSafe; simp [hdn, hf]]
      dsimp only
      have hfile : d.file id = f := by unfold PD.file; rw [List.getD_eq_getElem?_getD, hff]; rfl
      have HC := Lib.hid hcall
      have hq := eqf_nil
      have hb : Below w.heap.size w (w.alloc (.cells #[.pointer (some ⟨fb, id * 3, none⟩)] 84)) := (Below.refl _ _).alloc (Nat.le_refl _) _
      have hcn := counted (k := 55) (fst := #[]) (caps := #[.pointer (some ⟨w.heap.size, 0, none⟩)]) (h.below hb) (by omega) enters_safe1 (fun d => { d with files := d.files.set id (d.file id).safed }) rfl
        (fun _ w2 hd2 hk2 hs2 => by
          have hc := (hk2.cell (p := ⟨w.heap.size, 0, none⟩) ⟨by simp, by show w.heap.size ≠ p; omega⟩).trans (blk_cell (heap_alloc_new w (.cells #[.pointer (some ⟨fb, id * 3, none⟩)] 84)))
          have := safe1_at hd2 (hsm.cnt hcl) id fb cap x f hfv hx w.heap.size hc (out_of h (Nat.le_refl _))
          show Calls _ _ _ _ fun e w2 => e = .returned (.tuple #[]) ∧ ∃ g', DiskAt g' w2 p { d.cnt with files := d.files.set id (d.file id).safed } ∧ _
          rw [hfile]
          exact this)
      have HCN := Lib.hid hcn
      have HB := Lib.hid hb
      clear hcall hf hcn hsm hdn c4 h hfv hx hff hfile hb
      go_enter Try.func22, Try.ntmps22
      go_wp2_with (first | (go_at_call 47; refine HSH.out.mono ?_; rintro e w5 ⟨rfl, rfl⟩) | (go_at_call 43; refine HC.out.mono ?_; rintro e w5 ⟨rfl, rfl⟩) | (go_at_call 49; (with_reducible refine HCN.out.mono ?_); rintro e w5 ⟨rfl, g5, hd5, hst5⟩))
      go_ret
      exact ⟨rfl, g5, hd5, (Step.below HB.out).trans hst5⟩
end Go.Proofs.Ytkobjbjakgfhcaa
