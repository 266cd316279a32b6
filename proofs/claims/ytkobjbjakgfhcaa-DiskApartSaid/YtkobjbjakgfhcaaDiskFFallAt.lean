/-
  A file of a disk falls.
-/
import Derived.Test.YtkobjbjakgfhcaaDiskSettleAll
namespace Go.Proofs.Ytkobjbjakgfhcaa
open Go.RowKit

def PF.fallen (f : PF) (n : Int) : PF := ⟨kept f.loose (rest n (manyL f.loose)) f.safe, kept f.loose (rest n (manyL f.loose)) f.safe, []⟩

theorem gf_set3 (l : List (GF × PF)) (i : Nat) (x : GF) (f f' : PF) (a b c : Value) (hx : l[i]? = some (x, f)) : gfCells (l.set i (⟨x.tok, a, b, c⟩, f')) = (((gfCells l).set (i * 3) a).set (i * 3 + 2) c).set (i * 3 + 1) b := by
  have h1 := gf_set2 l i x f f a c hx
  have hl : i < l.length := (List.getElem?_eq_some_iff.1 hx).1
  have h2 : gfCells ((l.set i ({ x with vs := a, vl := c }, f)).set i (⟨x.tok, a, b, c⟩, f')) = (gfCells (l.set i ({ x with vs := a, vl := c }, f))).set (i * 3 + 1) b :=
    flat_set (fun x : GF × PF => [x.1.vs, x.1.vn, x.1.vl]) 3 (fun _ => rfl) _ i 1 ({ x with vs := a, vl := c }, f) (⟨x.tok, a, b, c⟩, f') b (by omega) (by rw [List.getElem?_set, if_pos rfl, if_pos hl]) rfl
  rw [List.set_set, h1] at h2
  exact h2

theorem ffall_at {g : Gh} {w : World} {p : Nat} {d : PD} (h : DiskAt g w p d) (hsm : Small d) (id fb cap : Nat) (n : Int) (hn : (Lit.int .i64 n).wf = true) (x : GF) (f : PF) (hfv : g.fv = .slice (some ⟨fb, 0, none⟩) g.l.length cap) (hx : g.l[id]? = some (x, f)) :
    Calls Try.prog 59 #[.pointer (some ⟨fb, id * 3, none⟩), .int .i64 n] w fun e w' => e = .returned (.tuple #[]) ∧ ∃ g', DiskAt g' w' p { d with files := d.files.set id (f.fallen n) } ∧ Step g g' w w' := by
  have hmem : (x, f) ∈ g.l := List.mem_of_getElem? hx
  have hfa := h.fa _ hmem
  have hfd : f ∈ d.files := by rw [h.fl]; exact List.mem_map.2 ⟨_, hmem, rfl⟩
  obtain ⟨s1, s2, s3, s4, s5, s6⟩ := hsm.fl f hfd
  have hin : id < g.l.length := (List.getElem?_eq_some_iff.1 hx).1
  have hfrow := h.fr
  rw [hfv] at hfrow
  obtain ⟨fb', cap', cur, hv', _, _, hfb, hcur, _⟩ := own_form hfrow (by omega)
  cases hv'
  have hofb : g.o fb = .files := h.of fb (by rw [hfv]; rfl)
  have hat2 := fun j hj => flat_at (fun x : GF × PF => [x.1.vs, x.1.vn, x.1.vl]) 3 (fun _ => rfl) g.l id j hj
  rw [hx] at hat2
  have hcur0 : cur[id * 3]? = some x.vs := by rw [← blk_cell hfb]; exact hcur _ _ (hat2 0 (by omega))
  have hcur1 : cur[id * 3 + 1]? = some x.vn := by rw [← blk_cell hfb]; exact hcur _ _ (hat2 1 (by omega))
  have hcur2 : cur[id * 3 + 2]? = some x.vl := by rw [← blk_cell hfb]; exact hcur _ _ (hat2 2 (by omega))
  have hsfb : x.vs.ownBlock ≠ some fb := fun e => by have := hfa.os fb e; rw [hofb] at this; cases this
  have hlfb : x.vl.ownBlock ≠ some fb := fun e => by have := hfa.ol fb e; rw [hofb] at this; cases this
  have hsl : ∀ k, x.vs.ownBlock = some k → x.vl.ownBlock ≠ some k := fun k e e' => by have := hfa.os k e; rw [hfa.ol k e'] at this; cases this
  have hs6 := s6 (rest n (manyL f.loose))
  refine (ffall_any w fb (id * 3) n cur 62 x.vs x.vn x.vl f.safe f.loose hfb hcur0 hcur1 hcur2 hfa.vs hfa.vl hsfb hlfb hsl s5 (by omega) (by omega) hn (by omega)).mono ?_
  rintro e w3 ⟨rfl, vs', vn', r1, r1', r2, r3, r4, r5⟩
  have hrow := own_set hfrow hfb r2 (by simp) (gfCells (g.l.set id (⟨x.tok, vs', vn', .slice none 0 0⟩, f.fallen n))) (by rw [gf_set3 _ _ _ f _ _ _ _ hx]; simp)
    (fun ht => by rw [gf_set3 _ _ _ f _ _ _ _ hx, take_set, take_set, take_set, ht])
  rw [← hfv] at hrow
  have hset := h.set_file (w' := w3) id x ⟨x.tok, vs', vn', .slice none 0 0⟩ f (f.fallen n) hx rfl (r3.mono fun k hk => ⟨hk.1, fun e => hk.2.1 (by rw [hfv, e]; rfl), hk.2.2.1⟩) hrow r1 r1' (World.ownsRow_nil _ _ _ _)
    (fun k e => (r4 k e).imp (fun h => h) (fun h => h.1)) (fun k e => .inr (r5 k e).1) (fun k e => (by cases e)) (fun k e e' => (r5 k e').2.2 e) (fun k e e' => (by cases e')) (fun k e e' => (by cases e'))
  exact ⟨rfl, _, hset.1, hset.2⟩
end Go.Proofs.Ytkobjbjakgfhcaa
