/-
  The walk of BatchAll: what the program tells of operations, batches, bytes is the document's.
-/
import Derived.Test.YtmcdkdoickbnlaaBatchREnt
import Derived.Test.YtmcdkdoickbnlaaBatchRGet
import Derived.Test.YtmcdkdoickbnlaaBatchRPut
import Derived.Test.YtmcdkdoickbnlaaBatchSame
import Derived.Test.YtmcdkdoickbnlaaBatchAwake
import Derived.Test.YtmcdkdoickbnlaaFork
import Derived.Test.YtmcdkdoickbnlaaRegion
import Derived.Deep.Cut
namespace Go.Proofs.Ytmcdkdoickbnlaa
open Go.RowKit

/-- The answer, whether bytes are a batch or not. -/
theorem ansGet_any (x : Option (Nat × List Ope)) (hf : ∀ y, x = some y → ∀ o ∈ y.2, o.fits) : ∃ (ys : Int) (yo : List Ope) (ok : Bool), ∀ B e w', AnsGet x B e w' → ∃ a c, e = .returned (.tuple #[.agg #[.int .i64 ys, .slice a yo.length c], .bool ok]) ∧ RdO w' (.slice a yo.length c) yo := by
  cases x with
  | none => exact ⟨0, [], false, fun B e w' h => ⟨none, 0, h, Rd.nil _ _, by simp⟩⟩
  | some y =>
    obtain ⟨ys, yo⟩ := y
    refine ⟨ys, yo, true, fun B e w' h => ?_⟩
    obtain ⟨v, he, ho⟩ := h
    obtain ⟨a, c, rfl, _, _⟩ := ho.form
    exact ⟨a, c, he, ho.read (hf _ rfl)⟩

theorem getBat_fits {l : List UInt8} : ∀ y, getBat l = some y → ∀ o ∈ y.2, o.fits := by
  intro y h o ho
  obtain ⟨ys, yo⟩ := y
  obtain ⟨_, _, hp3⟩ := getBat_some h
  obtain ⟨_, _, hp4, _⟩ := mayBt_true hp3
  obtain ⟨k1, k2, k3, _⟩ := mayO_zero ((mayOs_zero hp4).2.2 o ho)
  refine ⟨by rcases k1 with k | k <;> rw [k] <;> decide, by unfold maxLen; omega, by unfold maxLen; omega⟩

set_option maxRecDepth 100000 in
set_option maxHeartbeats 16000000 in
theorem batchAll_walk (s : Int) (z : Value) (l : List Ope) (vb : Value) (bs : List UInt8) (W : World) (_ : (Lit.int .i64 s).wf = true) (hz : RdO W z l) (hb : RdB W vb bs) :
    Calls Try.prog 3 #[.agg #[.int .i64 s, z], vb] W fun e W' => e = .returned (.bool true) ∧ Below W.heap.size W W' := by
  obtain ⟨a, cap, rfl, hc1, hc2⟩ := hz.form
  obtain ⟨ab, capb, rfl, hcb1, hcb2⟩ := hb.form
  unfold maxLen at hc2 hcb2
  have hw1 : Below W.heap.size W (W.alloc (.cells #[.int .i64 s, .slice a l.length cap] 24)) := (Below.refl _ _).alloc (Nat.le_refl _) _
  have hg := great_any (.slice a l.length cap) l (W.alloc (.cells #[.int .i64 s, .slice a l.length cap] 24)) (hz.below hw1 (Nat.le_refl _))
  have HW1 := Lib.hid hw1
  clear hw1
  by_cases hgr : greatL l = true ∨ 3000 < bs.length
  · have HG := Lib.hid hg
    cases hgl : greatL l with
    | true =>
      rw [hgl] at HG
      clear hg hgr hgl hz hb
      go_enter Try.func3, Try.ntmps3
      go_wp2_with (first | (go_at_call 7; refine HG.out.mono ?_; rintro e w1 ⟨rfl, hg1⟩; have HB1 := Lib.hid (HW1.out.trans (hg1.mono (by simp))); clear hg1) | (go_at_call 8; refine (awake8_any _).mono ?_; rintro e w3 ⟨rfl, hb3⟩; have HB3 := Lib.hid (HB1.out.trans (hb3.mono HB1.out.size)); clear hb3))
      go_ret
      exact ⟨rfl, HB3.out⟩
    | false =>
      rw [hgl] at HG hgr
      have h3 : (3000 : Int) < (bs.length : Int) := by
        rcases hgr with h | h
        · cases h
        · omega
      clear hg hgr hgl hz hb
      go_enter Try.func3, Try.ntmps3
      go_wp2_with (first | (go_at_call 7; refine HG.out.mono ?_; rintro e w1 ⟨rfl, hg1⟩; have HB1 := Lib.hid (HW1.out.trans (hg1.mono (by simp))); clear hg1) | (go_at_call 8; refine (awake8_any _).mono ?_; rintro e w3 ⟨rfl, hb3⟩; have HB3 := Lib.hid (HB1.out.trans (hb3.mono HB1.out.size)); clear hb3))
      go_ret
      exact ⟨rfl, HB3.out⟩
  · have hgl : greatL l = false := by cases h : greatL l with | true => exact absurd (.inl h) hgr | false => rfl
    have h3 : (bs.length : Int) ≤ 3000 := by
      rcases Nat.lt_or_ge 3000 bs.length with h | h
      · exact absurd (.inr h) hgr
      · omega
    rw [hgl] at hg
    obtain ⟨hl60, _⟩ := greatL_false hgl
    have hnl := normL_len l
    have HG := Lib.hid hg
    have HV := Lib.hid hz
    have HVB := Lib.hid hb
    have HFN : Hid (∀ o ∈ normL l, o.fits) := Lib.hid fun o ho => hz.2 o (normL_mem ho)
    have HNL : Hid ((normL l).length < 1000000) := Lib.hid (by omega)
    have HNORM := Lib.hid (fun w (h : RdO w (.slice a l.length cap) l) => bnorm_any (.slice a l.length cap) l w h (by omega))
    have HNORMR := Lib.hid (fun w (h : RdO w (.slice a l.length cap) l) => rnorm_any (.slice a l.length cap) l w h (by omega))
    have HPUT1 := Lib.hid (fun w (h : RdO w (.slice a l.length cap) l) => bput_any s (.slice a l.length cap) l w h (by omega))
    have HPUT2 := Lib.hid (fun w (h : RdO w (.slice a l.length cap) l) => rputB_any s (.slice a l.length cap) l w h (by omega))
    have HPUT3 := Lib.hid (fun w v (h : RdO w v (normL l)) => bput_any s v (normL l) w h (by omega))
    have HPUT4 := Lib.hid (fun w v (h : RdO w v (normL l)) => rputB_any s v (normL l) w h (by omega))
    have HENT1 := Lib.hid (fun w (h : RdO w (.slice a l.length cap) l) => bent_any s (.slice a l.length cap) l w h (by omega))
    have HENT2 := Lib.hid (fun w (h : RdO w (.slice a l.length cap) l) => rent_any s (.slice a l.length cap) l w h (by omega))
    clear hg hgr hgl hz hb hnl
    generalize normL l = N at *
    generalize putBat s l = P1 at *
    generalize putBat s N = P2 at *
    obtain ⟨ys, yo, ok, hans⟩ := ansGet_any (getBat bs) getBat_fits
    have HANS := Lib.hid hans
    clear hans
    go_enter Try.func3, Try.ntmps3
    go_upto_region 5 with (first | (go_at_call 7; refine HG.out.mono ?_; rintro e w1 ⟨rfl, hg1⟩; have es0 := (hg1.cell (p := ⟨W.heap.size, 0, none⟩) (by simp)).trans (by go_simp : _ = some (Value.int .i64 s)); have es1 := (hg1.cell (p := ⟨W.heap.size, 1, none⟩) (by simp)).trans (by go_simp : _ = some (Value.slice a l.length cap)); have hyW : W.heap.size < w1.heap.size := Nat.lt_of_lt_of_le (by simp) hg1.size; have HB1 := Lib.hid (HW1.out.trans (hg1.mono (by simp))); clear hg1) | (go_at_call 9; refine (bget_any _ _ _ (HVB.out.below HB1.out (Nat.le_refl _))).mono ?_; rintro e w2 ⟨he, hb2⟩; obtain ⟨xa, xc, he, hx⟩ := HANS.out _ _ _ he; subst he; have HX2 := Lib.hid hx; clear hx; have es0 := (hb2.cell (p := ⟨W.heap.size, 0, none⟩) (hyW)).trans es0; have es1 := (hb2.cell (p := ⟨W.heap.size, 1, none⟩) (hyW)).trans es1; have hyW : W.heap.size < w2.heap.size := Nat.lt_of_lt_of_le hyW hb2.size; have HB2 := Lib.hid (HB1.out.trans (hb2.mono HB1.out.size)); clear hb2) | (go_at_call 10; refine (rgetB_any _ _ _ (HVB.out.below (HB2.out.alloc HB2.out.size _) (Nat.le_refl _))).mono ?_; rintro e w3 ⟨he, hb3⟩; obtain ⟨ya, yc, he, hy⟩ := HANS.out _ _ _ he; subst he; have HY3 := Lib.hid hy; clear hy; have es0 := (hb3.cell (p := ⟨W.heap.size, 0, none⟩) (by simp; omega)).trans (by go_simp : _ = some (Value.int .i64 s)); have es1 := (hb3.cell (p := ⟨W.heap.size, 1, none⟩) (by simp; omega)).trans (by go_simp : _ = some (Value.slice a l.length cap)); have ex0 := (hb3.cell (p := ⟨w2.heap.size, 0, none⟩) (by simp)).trans (by go_simp : _ = some (Value.int .i64 ys)); have ex1 := (hb3.cell (p := ⟨w2.heap.size, 1, none⟩) (by simp)).trans (by go_simp : _ = some (Value.slice xa yo.length xc)); have hyX : w2.heap.size < w3.heap.size := Nat.lt_of_lt_of_le (by simp) hb3.size; have HX3 := Lib.hid ((HX2.out.below ((Below.refl _ _).alloc (Nat.le_refl _) _) (Nat.le_refl _)).below hb3 (Nat.le_refl _)); have HB3 := Lib.hid ((HB2.out.alloc HB2.out.size _).trans (hb3.mono (by have := HB2.out.size; simp; omega))); clear hb3))
    obtain ⟨w5, hw5⟩ : ∃ w5, w5 = w3.alloc (.cells #[.int .i64 ys, .slice ya yo.length yc] 24) := ⟨_, rfl⟩
    rw [← hw5]
    have HBW5 : Hid (Below W.heap.size W w5) := Lib.hid (by rw [hw5]; exact HB3.out.alloc HB3.out.size _)
    have hb5 : Below w3.heap.size w3 w5 := by rw [hw5]; exact (Below.refl _ _).alloc (Nat.le_refl _) _
    have ey0 : w5.cell? ⟨w3.heap.size, 0, none⟩ = some (.int .i64 ys) := by rw [hw5]; go_simp
    have ey1 : w5.cell? ⟨w3.heap.size, 1, none⟩ = some (.slice ya yo.length yc) := by rw [hw5]; go_simp
    have hyY : w3.heap.size < w5.heap.size := by rw [hw5]; simp
    clear hw5
    have hyW3 : W.heap.size < w3.heap.size := by omega
    have es0 := (hb5.cell (p := ⟨W.heap.size, 0, none⟩) hyW3).trans es0
    have es1 := (hb5.cell (p := ⟨W.heap.size, 1, none⟩) hyW3).trans es1
    have ex0 := (hb5.cell (p := ⟨w2.heap.size, 0, none⟩) hyX).trans ex0
    have ex1 := (hb5.cell (p := ⟨w2.heap.size, 1, none⟩) hyX).trans ex1
    have HX5 := Lib.hid (HX3.out.below hb5 (Nat.le_refl _))
    have HY5 := Lib.hid (HY3.out.below hb5 (Nat.le_refl _))
    clear hb5
    have hyW : W.heap.size < w5.heap.size := by omega
    have hyX : w2.heap.size < w5.heap.size := by omega
    refine wp_region_fork (fun wz => Below w5.heap.size w5 wz) (fun wz => Below w5.heap.size w5 wz) [(0, 0), (0, 1), (0, 2), (0, 3)] 4 6 [(0, 5), (2, 6), (3, 7)] [(2, 4), (0, 5), (3, 7)] [7] (by kernel_rfl) (by kernel_rfl) (by kernel_rfl) (by kernel_rfl) (by kernel_rfl) (Below.refl _ _).drew (Below.refl _ _).drew ?_
    simp only [planT, List.drop_succ_cons, List.drop_zero]
    refine ForkV.take (v := ?vts0) (by kernel_rfl) ?yts0 ?rts0
    case yts0 => (intro wz hz; go_simp; try with_reducible rfl)
    (try simp only [Act.put, List.setIfInBounds_toArray, List.set_cons_zero, List.set_cons_succ])
    refine ForkV.take (v := ?vts1) (by kernel_rfl) ?yts1 ?rts1
    case yts1 => (intro wz hz; have k0 := (hz.cell (p := ⟨W.heap.size, 0, none⟩) hyW).trans es0; have k1 := (hz.cell (p := ⟨W.heap.size, 1, none⟩) hyW).trans es1; go_simp; try with_reducible rfl)
    (try simp only [Act.put, List.setIfInBounds_toArray, List.set_cons_zero, List.set_cons_succ])
    refine ForkV.take (v := ?vts2) (by kernel_rfl) ?yts2 ?rts2
    case yts2 => (intro wz hz; go_simp; try with_reducible rfl)
    (try simp only [Act.put, List.setIfInBounds_toArray, List.set_cons_zero, List.set_cons_succ])
    refine ForkV.take (v := ?vts3) (by kernel_rfl) ?yts3 ?rts3
    case yts3 => (intro wz hz; have k0 := (hz.cell (p := ⟨W.heap.size, 0, none⟩) hyW).trans es0; have k1 := (hz.cell (p := ⟨W.heap.size, 1, none⟩) hyW).trans es1; go_simp; try with_reducible rfl)
    (try simp only [Act.put, List.setIfInBounds_toArray, List.set_cons_zero, List.set_cons_succ])
    refine ForkV.both ?_ ?_
    · skip
      refine PlanV.exec2 (fun K hK => ⟨by kernel_rfl, ?_⟩)
      go_simp
      go_at_call 11
      refine (HNORMR.out _ (RdO.below HV.out HBW5.out.drew (Nat.le_refl _))).mono ?_
      rintro e u1 ⟨nv, rfl, hon, hbn⟩
      obtain ⟨na, nc, rfl, _, _⟩ := hon.form
      have HON := Lib.hid hon
      have HN4 := Lib.hid (hon.read HFN.out)
      clear hon
      go_wp2_with fail
      have HC1 : Hid (Below w5.heap.size w5 u1) := Lib.hid (below_draw hbn)
      clear hbn
      refine hK.out _ _ (fun z => Below u1.heap.size u1 z) HC1.out (Below.refl _ _) HC1.out ?_
      clear hK K
      (try simp only [Act.put, List.setIfInBounds_toArray, List.set_cons_zero, List.set_cons_succ])
      refine PlanV.take0 (v := .agg #[.int .i64 s, .slice na N.length nc]) (by kernel_rfl) ?yfsA5 ?rfsA5
      case yfsA5 => (intro wz hz; go_simp)
      (try simp only [Act.put, List.setIfInBounds_toArray, List.set_cons_zero, List.set_cons_succ])
      refine PlanV.exec2 (fun K hK => ⟨by kernel_rfl, ?_⟩)
      go_simp
      obtain ⟨u2, hu2⟩ : ∃ u2, u2 = u1.alloc (.cells #[.int .i64 0, .slice none 0 0] 24) := ⟨_, rfl⟩
      rw [← hu2]
      have p0 : u2.heap[u1.heap.size]? = some (.cells #[.int .i64 0, .slice none 0 0] 24 (0, 0)) := by rw [hu2]; exact heap_alloc_new u1 _
      have HC2 : Hid (Below u1.heap.size u1 u2) := Lib.hid (by rw [hu2]; exact (Below.refl _ _).alloc (Nat.le_refl _) _)
      clear hu2
      refine hK.out _ _ (fun z => True) ⟨HC1.out.trans (HC2.out.mono HC1.out.size), HC2.out⟩ trivial (HC1.out.trans (HC2.out.mono HC1.out.size)) ?_
      clear hK K
      (try simp only [Act.put, List.setIfInBounds_toArray, List.set_cons_zero, List.set_cons_succ])
      have hqlt : w5.heap.size ≤ u1.heap.size := HC1.out.size
      have r0 : u2.cell? ⟨u1.heap.size, 0, none⟩ = some (.int .i64 0) := blk_cell p0
      have r1 : u2.cell? ⟨u1.heap.size, 1, none⟩ = some (.slice none 0 0) := blk_cell p0
      have r2 : u2.frozen? ⟨u1.heap.size, 0, none⟩ = false := blk_free p0
      have r3 : u2.frozen? ⟨u1.heap.size, 1, none⟩ = false := blk_free p0
      refine PlanV.exec3 (fun K hK => ⟨by kernel_rfl, ?_⟩)
      go_simp
      obtain ⟨u3, hu3⟩ : ∃ u3, u3 = (u2.setCell ⟨u1.heap.size, 0, none⟩ (.int .i64 s)).setCell ⟨u1.heap.size, 1, none⟩ (.slice na N.length nc) := ⟨_, rfl⟩
      rw [← hu3]
      have en : u3.heap[u1.heap.size]? = some (.cells #[.int .i64 s, .slice na N.length nc] 24 (0, 0)) := by rw [hu3]; exact (blk_set (blk_set p0 _) _)
      have en0 : u3.cell? ⟨u1.heap.size, 0, none⟩ = some (.int .i64 s) := blk_cell en
      have en1 : u3.cell? ⟨u1.heap.size, 1, none⟩ = some (.slice na N.length nc) := blk_cell en
      have HB5 : Hid (Below w5.heap.size w5 u3) := Lib.hid (by rw [hu3]; exact ((HC1.out.trans (HC2.out.mono HC1.out.size)).setCell hqlt _).setCell hqlt _)
      have HN3 : Hid (RdO u3 (.slice na N.length nc) N) := Lib.hid (by rw [hu3]; exact HN4.out.below ((HC2.out.setCell (Nat.le_refl _) _).setCell (Nat.le_refl _) _) (Nat.le_refl _))
      clear hu3
      refine hK.out _ _ HB5.out ?_
      clear hK K
      (try simp only [Act.put, List.setIfInBounds_toArray, List.set_cons_zero, List.set_cons_succ])
      refine PlanV.done (NoPanic.normal ?_)
      clear r0 r1 r2 r3 p0 en
      go_upto_region 6 with (fail)
      have hE : Ext u3.drew u3.drew := Ext.refl _
      have es0 : u3.drew.cell? ⟨W.heap.size, 0, none⟩ = some (.int .i64 s) := (HB5.out.cell (p := ⟨W.heap.size, 0, none⟩) hyW).trans es0
      have es1 : u3.drew.cell? ⟨W.heap.size, 1, none⟩ = some (.slice a l.length cap) := (HB5.out.cell (p := ⟨W.heap.size, 1, none⟩) hyW).trans es1
      have ex0 : u3.drew.cell? ⟨w2.heap.size, 0, none⟩ = some (.int .i64 ys) := (HB5.out.cell (p := ⟨w2.heap.size, 0, none⟩) hyX).trans ex0
      have ex1 : u3.drew.cell? ⟨w2.heap.size, 1, none⟩ = some (.slice xa yo.length xc) := (HB5.out.cell (p := ⟨w2.heap.size, 1, none⟩) hyX).trans ex1
      have ey0 : u3.drew.cell? ⟨w3.heap.size, 0, none⟩ = some (.int .i64 ys) := (HB5.out.cell (p := ⟨w3.heap.size, 0, none⟩) hyY).trans ey0
      have ey1 : u3.drew.cell? ⟨w3.heap.size, 1, none⟩ = some (.slice ya yo.length yc) := (HB5.out.cell (p := ⟨w3.heap.size, 1, none⟩) hyY).trans ey1
      have en0 : u3.drew.cell? ⟨u1.heap.size, 0, none⟩ = some (.int .i64 s) := en0
      have en1 : u3.drew.cell? ⟨u1.heap.size, 1, none⟩ = some (.slice na N.length nc) := en1
      have HN9 : Hid (RdO u3.drew (.slice na N.length nc) N) := Lib.hid (RdO.below HN3.out (Below.refl _ _).drew (Nat.le_refl _))
      have HZ6 : Hid (RdO u3.drew (.slice a l.length cap) l) := Lib.hid (RdO.below HV.out (HBW5.out.trans (HB5.out.mono HBW5.out.size)).drew (Nat.le_refl _))
      have HX6 : Hid (RdO u3.drew (.slice xa yo.length xc) yo) := Lib.hid (RdO.below HX5.out HB5.out.drew (Nat.le_refl _))
      have HY6 : Hid (RdO u3.drew (.slice ya yo.length yc) yo) := Lib.hid (RdO.below HY5.out HB5.out.drew (Nat.le_refl _))
      refine wp_region_plan [(true, 0), (true, 1), (true, 4), (true, 5), (false, 2), (false, 3), (false, 6), (true, 7), (true, 8), (true, 9), (true, 10), (true, 12), (true, 13), (false, 11), (false, 14), (true, 15), (true, 16), (true, 17), (true, 20), (false, 18), (true, 19), (false, 21), (true, 22), (true, 23), (true, 24), (true, 25), (true, 26), (true, 29), (false, 27), (true, 28), (false, 30), (true, 31), (true, 32), (true, 33), (true, 34), (true, 35), (true, 36), (false, 37), (true, 38), (true, 39), (true, 40), (true, 41), (true, 42), (true, 43), (true, 44), (true, 45), (true, 47), (false, 46), (false, 48), (false, 49), (true, 50), (true, 51), (false, 52), (true, 53), (true, 54)] (by kernel_rfl) (by kernel_rfl) (by kernel_rfl) (by kernel_rfl) (by kernel_rfl) ?_
      simp only [planO, List.drop_succ_cons, List.drop_zero]
      refine PlanO.take (v := ?vsA0) (by kernel_rfl) ?ysA0 ?rsA0
      case ysA0 => (intro wz hz; go_simp; try with_reducible rfl)
      (try simp only [Act.put, List.setIfInBounds_toArray, List.set_cons_zero, List.set_cons_succ])
      refine PlanO.take (v := ?vsA1) (by kernel_rfl) ?ysA1 ?rsA1
      case ysA1 => (intro wz hz; have hw := Ext.trans hE hz; have k0 := Ext.at_ hw es0; have k1 := Ext.at_ hw es1; go_simp; try with_reducible rfl)
      (try simp only [Act.put, List.setIfInBounds_toArray, List.set_cons_zero, List.set_cons_succ])
      refine PlanO.take (v := ?vsA4) (by kernel_rfl) ?ysA4 ?rsA4
      case ysA4 => (intro wz hz; go_simp; try with_reducible rfl)
      (try simp only [Act.put, List.setIfInBounds_toArray, List.set_cons_zero, List.set_cons_succ])
      refine PlanO.take (v := ?vsA5) (by kernel_rfl) ?ysA5 ?rsA5
      case ysA5 => (intro wz hz; have hw := Ext.trans hE hz; have k0 := Ext.at_ hw es0; have k1 := Ext.at_ hw es1; go_simp; try with_reducible rfl)
      (try simp only [Act.put, List.setIfInBounds_toArray, List.set_cons_zero, List.set_cons_succ])
      refine PlanO.exec (fun K hK => ?_)
      go_simp
      go_at_call 13
      refine (bmay_any _ l _ (HZ6.out.below hE (Nat.le_refl _))).mono ?_
      rintro e uu ⟨rfl, hbb⟩
      have hE := Ext.trans hE hbb
      go_wp2_with fail
      refine hK.out _ _ hbb ?_
      clear hK K
      (try simp only [Act.put, List.setIfInBounds_toArray, List.set_cons_zero, List.set_cons_succ])
      refine PlanO.exec (fun K hK => ?_)
      go_simp
      go_at_call 12
      refine (num8_any _ _).mono ?_
      rintro e uu ⟨rfl, rfl⟩
      go_wp2_with fail
      refine hK.out _ _ (Below.refl _ _) ?_
      clear hK K
      (try simp only [Act.put, List.setIfInBounds_toArray, List.set_cons_zero, List.set_cons_succ])
      refine PlanO.exec (fun K hK => ?_)
      go_simp
      go_at_call 14
      refine (rmayO_any _ l _ (HZ6.out.below hE (Nat.le_refl _))).mono ?_
      rintro e uu ⟨rfl, hbb⟩
      have hE := Ext.trans hE hbb
      go_wp2_with fail
      refine hK.out _ _ hbb ?_
      clear hK K
      (try simp only [Act.put, List.setIfInBounds_toArray, List.set_cons_zero, List.set_cons_succ])
      refine PlanO.take (v := .bool true) (by kernel_rfl) ?ysA7 ?rsA7
      case ysA7 => (intro wz hz; go_simp)
      (try simp only [Act.put, List.setIfInBounds_toArray, List.set_cons_zero, List.set_cons_succ])
      refine PlanO.take (v := ?vsA8) (by kernel_rfl) ?ysA8 ?rsA8
      case ysA8 => (intro wz hz; go_simp; try with_reducible rfl)
      (try simp only [Act.put, List.setIfInBounds_toArray, List.set_cons_zero, List.set_cons_succ])
      refine PlanO.take (v := ?vsA9) (by kernel_rfl) ?ysA9 ?rsA9
      case ysA9 => (intro wz hz; go_simp; try with_reducible rfl)
      (try simp only [Act.put, List.setIfInBounds_toArray, List.set_cons_zero, List.set_cons_succ])
      refine PlanO.take (v := ?vsA10) (by kernel_rfl) ?ysA10 ?rsA10
      case ysA10 => (intro wz hz; have hw := Ext.trans hE hz; have k0 := Ext.at_ hw es0; have k1 := Ext.at_ hw es1; go_simp; try with_reducible rfl)
      (try simp only [Act.put, List.setIfInBounds_toArray, List.set_cons_zero, List.set_cons_succ])
      refine PlanO.take (v := ?vsA12) (by kernel_rfl) ?ysA12 ?rsA12
      case ysA12 => (intro wz hz; go_simp; try with_reducible rfl)
      (try simp only [Act.put, List.setIfInBounds_toArray, List.set_cons_zero, List.set_cons_succ])
      refine PlanO.take (v := ?vsA13) (by kernel_rfl) ?ysA13 ?rsA13
      case ysA13 => (intro wz hz; have hw := Ext.trans hE hz; have k0 := Ext.at_ hw en0; have k1 := Ext.at_ hw en1; go_simp; try with_reducible rfl)
      (try simp only [Act.put, List.setIfInBounds_toArray, List.set_cons_zero, List.set_cons_succ])
      refine PlanO.exec (fun K hK => ?_)
      go_simp
      go_at_call 16
      refine (HNORM.out _ (HZ6.out.below hE (Nat.le_refl _))).mono ?_
      rintro e uu ⟨v46, rfl, hop, hbb⟩
      have HV46 := Lib.hid (hop.read HFN.out)
      have hE := Ext.trans hE hbb
      clear hop
      go_wp2_with fail
      refine hK.out _ _ hbb ?_
      clear hK K
      (try simp only [Act.put, List.setIfInBounds_toArray, List.set_cons_zero, List.set_cons_succ])
      refine PlanO.exec (fun K hK => ?_)
      go_simp
      go_at_call 15
      refine (rsame_any _ _ N N _ HV46.out (HN9.out.below hE (Nat.le_refl _))).mono ?_
      rw [sameL_refl]
      rintro e uu ⟨rfl, hbb⟩
      have hE := Ext.trans hE hbb
      go_wp2_with fail
      refine hK.out _ _ hbb ?_
      clear hK K
      (try simp only [Act.put, List.setIfInBounds_toArray, List.set_cons_zero, List.set_cons_succ])
      refine PlanO.take (v := ?vsA15) (by kernel_rfl) ?ysA15 ?rsA15
      case ysA15 => (intro wz hz; go_simp; try with_reducible rfl)
      (try simp only [Act.put, List.setIfInBounds_toArray, List.set_cons_zero, List.set_cons_succ])
      refine PlanO.take (v := ?vsA16) (by kernel_rfl) ?ysA16 ?rsA16
      case ysA16 => (intro wz hz; go_simp; try with_reducible rfl)
      (try simp only [Act.put, List.setIfInBounds_toArray, List.set_cons_zero, List.set_cons_succ])
      refine PlanO.take (v := ?vsA17) (by kernel_rfl) ?ysA17 ?rsA17
      case ysA17 => (intro wz hz; have hw := Ext.trans hE hz; have k0 := Ext.at_ hw es0; have k1 := Ext.at_ hw es1; go_simp; try with_reducible rfl)
      (try simp only [Act.put, List.setIfInBounds_toArray, List.set_cons_zero, List.set_cons_succ])
      refine PlanO.take (v := ?vsA20) (by kernel_rfl) ?ysA20 ?rsA20
      case ysA20 => (intro wz hz; have hw := Ext.trans hE hz; have k0 := Ext.at_ hw es0; have k1 := Ext.at_ hw es1; go_simp; try with_reducible rfl)
      (try simp only [Act.put, List.setIfInBounds_toArray, List.set_cons_zero, List.set_cons_succ])
      refine PlanO.exec (fun K hK => ?_)
      go_simp
      go_at_call 17
      refine (HPUT1.out _ (HZ6.out.below hE (Nat.le_refl _))).mono ?_
      rintro e uu ⟨pp, rfl, hop, hbb⟩
      have HP := Lib.hid hop.read
      have hE := Ext.trans hE hbb
      clear hop
      go_wp2_with fail
      refine hK.out _ _ hbb ?_
      clear hK K
      (try simp only [Act.put, List.setIfInBounds_toArray, List.set_cons_zero, List.set_cons_succ])
      refine PlanO.take (v := .string (strB P1)) (by kernel_rfl) ?ysA19 ?rsA19
      case ysA19 => (intro wz hz; have q := rdB_convert (P := Try.prog) (RdB.below HP.out hz (Nat.le_refl _)) 25 5 9 Try.underlying25 Try.underlying5 Try.underlying9; go_simp)
      (try simp only [Act.put, List.setIfInBounds_toArray, List.set_cons_zero, List.set_cons_succ])
      refine PlanO.exec (fun K hK => ?_)
      go_simp
      go_at_call 18
      refine (HPUT2.out _ (HZ6.out.below hE (Nat.le_refl _))).mono ?_
      rintro e uu ⟨pp, rfl, hop, hbb⟩
      have HP := Lib.hid hop.read
      have hE := Ext.trans hE hbb
      clear hop
      go_wp2_with fail
      refine hK.out _ _ hbb ?_
      clear hK K
      (try simp only [Act.put, List.setIfInBounds_toArray, List.set_cons_zero, List.set_cons_succ])
      refine PlanO.take (v := .string (strB P1)) (by kernel_rfl) ?ysA22 ?rsA22
      case ysA22 => (intro wz hz; have q := rdB_convert (P := Try.prog) (RdB.below HP.out hz (Nat.le_refl _)) 25 5 9 Try.underlying25 Try.underlying5 Try.underlying9; go_simp)
      (try simp only [Act.put, List.setIfInBounds_toArray, List.set_cons_zero, List.set_cons_succ])
      refine PlanO.take (v := .bool true) (by kernel_rfl) ?ysA23 ?rsA23
      case ysA23 => (intro wz hz; go_simp)
      (try simp only [Act.put, List.setIfInBounds_toArray, List.set_cons_zero, List.set_cons_succ])
      refine PlanO.take (v := ?vsA24) (by kernel_rfl) ?ysA24 ?rsA24
      case ysA24 => (intro wz hz; go_simp; try with_reducible rfl)
      (try simp only [Act.put, List.setIfInBounds_toArray, List.set_cons_zero, List.set_cons_succ])
      refine PlanO.take (v := ?vsA25) (by kernel_rfl) ?ysA25 ?rsA25
      case ysA25 => (intro wz hz; go_simp; try with_reducible rfl)
      (try simp only [Act.put, List.setIfInBounds_toArray, List.set_cons_zero, List.set_cons_succ])
      refine PlanO.take (v := ?vsA26) (by kernel_rfl) ?ysA26 ?rsA26
      case ysA26 => (intro wz hz; have hw := Ext.trans hE hz; have k0 := Ext.at_ hw en0; have k1 := Ext.at_ hw en1; go_simp; try with_reducible rfl)
      (try simp only [Act.put, List.setIfInBounds_toArray, List.set_cons_zero, List.set_cons_succ])
      refine PlanO.take (v := ?vsA29) (by kernel_rfl) ?ysA29 ?rsA29
      case ysA29 => (intro wz hz; have hw := Ext.trans hE hz; have k0 := Ext.at_ hw en0; have k1 := Ext.at_ hw en1; go_simp; try with_reducible rfl)
      (try simp only [Act.put, List.setIfInBounds_toArray, List.set_cons_zero, List.set_cons_succ])
      refine PlanO.exec (fun K hK => ?_)
      go_simp
      go_at_call 17
      refine (HPUT3.out _ _ (HN9.out.below hE (Nat.le_refl _))).mono ?_
      rintro e uu ⟨pp, rfl, hop, hbb⟩
      have HP := Lib.hid hop.read
      have hE := Ext.trans hE hbb
      clear hop
      go_wp2_with fail
      refine hK.out _ _ hbb ?_
      clear hK K
      (try simp only [Act.put, List.setIfInBounds_toArray, List.set_cons_zero, List.set_cons_succ])
      refine PlanO.take (v := .string (strB P2)) (by kernel_rfl) ?ysA28 ?rsA28
      case ysA28 => (intro wz hz; have q := rdB_convert (P := Try.prog) (RdB.below HP.out hz (Nat.le_refl _)) 25 5 9 Try.underlying25 Try.underlying5 Try.underlying9; go_simp)
      (try simp only [Act.put, List.setIfInBounds_toArray, List.set_cons_zero, List.set_cons_succ])
      refine PlanO.exec (fun K hK => ?_)
      go_simp
      go_at_call 18
      refine (HPUT4.out _ _ (HN9.out.below hE (Nat.le_refl _))).mono ?_
      rintro e uu ⟨pp, rfl, hop, hbb⟩
      have HP := Lib.hid hop.read
      have hE := Ext.trans hE hbb
      clear hop
      go_wp2_with fail
      refine hK.out _ _ hbb ?_
      clear hK K
      (try simp only [Act.put, List.setIfInBounds_toArray, List.set_cons_zero, List.set_cons_succ])
      refine PlanO.take (v := .string (strB P2)) (by kernel_rfl) ?ysA31 ?rsA31
      case ysA31 => (intro wz hz; have q := rdB_convert (P := Try.prog) (RdB.below HP.out hz (Nat.le_refl _)) 25 5 9 Try.underlying25 Try.underlying5 Try.underlying9; go_simp)
      (try simp only [Act.put, List.setIfInBounds_toArray, List.set_cons_zero, List.set_cons_succ])
      refine PlanO.take (v := .bool true) (by kernel_rfl) ?ysA32 ?rsA32
      case ysA32 => (intro wz hz; go_simp)
      (try simp only [Act.put, List.setIfInBounds_toArray, List.set_cons_zero, List.set_cons_succ])
      refine PlanO.take (v := ?vsA33) (by kernel_rfl) ?ysA33 ?rsA33
      case ysA33 => (intro wz hz; go_simp; try with_reducible rfl)
      (try simp only [Act.put, List.setIfInBounds_toArray, List.set_cons_zero, List.set_cons_succ])
      refine PlanO.take (v := ?vsA34) (by kernel_rfl) ?ysA34 ?rsA34
      case ysA34 => (intro wz hz; go_simp; try with_reducible rfl)
      (try simp only [Act.put, List.setIfInBounds_toArray, List.set_cons_zero, List.set_cons_succ])
      refine PlanO.take (v := ?vsA35) (by kernel_rfl) ?ysA35 ?rsA35
      case ysA35 => (intro wz hz; have hw := Ext.trans hE hz; have k0 := Ext.at_ hw ex0; have k1 := Ext.at_ hw ex1; go_simp; try with_reducible rfl)
      (try simp only [Act.put, List.setIfInBounds_toArray, List.set_cons_zero, List.set_cons_succ])
      refine PlanO.take (v := ?vsA36) (by kernel_rfl) ?ysA36 ?rsA36
      case ysA36 => (intro wz hz; have hw := Ext.trans hE hz; have k0 := Ext.at_ hw ey0; have k1 := Ext.at_ hw ey1; go_simp; try with_reducible rfl)
      (try simp only [Act.put, List.setIfInBounds_toArray, List.set_cons_zero, List.set_cons_succ])
      refine PlanO.exec (fun K hK => ?_)
      go_simp
      go_at_call 19
      refine (rsameB_any _ _ _ _ yo yo _ (HX6.out.below hE (Nat.le_refl _)) (HY6.out.below hE (Nat.le_refl _))).mono ?_
      rw [sameL_refl, show ((ys : Int) == (ys : Int) && true) = true by simp]
      rintro e uu ⟨rfl, hbb⟩
      have hE := Ext.trans hE hbb
      go_wp2_with fail
      refine hK.out _ _ hbb ?_
      clear hK K
      (try simp only [Act.put, List.setIfInBounds_toArray, List.set_cons_zero, List.set_cons_succ])
      refine PlanO.take (v := ?vsA38) (by kernel_rfl) ?ysA38 ?rsA38
      case ysA38 => (intro wz hz; go_simp; try with_reducible rfl)
      (try simp only [Act.put, List.setIfInBounds_toArray, List.set_cons_zero, List.set_cons_succ])
      refine PlanO.take (v := ?vsA39) (by kernel_rfl) ?ysA39 ?rsA39
      case ysA39 => (intro wz hz; go_simp; try with_reducible rfl)
      (try simp only [Act.put, List.setIfInBounds_toArray, List.set_cons_zero, List.set_cons_succ])
      refine PlanO.take (v := ?vsA40) (by kernel_rfl) ?ysA40 ?rsA40
      case ysA40 => (intro wz hz; go_simp; try with_reducible rfl)
      (try simp only [Act.put, List.setIfInBounds_toArray, List.set_cons_zero, List.set_cons_succ])
      refine PlanO.take (v := ?vsA41) (by kernel_rfl) ?ysA41 ?rsA41
      case ysA41 => (intro wz hz; go_simp; try with_reducible rfl)
      (try simp only [Act.put, List.setIfInBounds_toArray, List.set_cons_zero, List.set_cons_succ])
      refine PlanO.take (v := .bool true) (by kernel_rfl) ?ysA42 ?rsA42
      case ysA42 => (intro wz hz; go_simp)
      (try simp only [Act.put, List.setIfInBounds_toArray, List.set_cons_zero, List.set_cons_succ])
      refine PlanO.take (v := ?vsA43) (by kernel_rfl) ?ysA43 ?rsA43
      case ysA43 => (intro wz hz; go_simp; try with_reducible rfl)
      (try simp only [Act.put, List.setIfInBounds_toArray, List.set_cons_zero, List.set_cons_succ])
      refine PlanO.take (v := ?vsA44) (by kernel_rfl) ?ysA44 ?rsA44
      case ysA44 => (intro wz hz; go_simp; try with_reducible rfl)
      (try simp only [Act.put, List.setIfInBounds_toArray, List.set_cons_zero, List.set_cons_succ])
      refine PlanO.take (v := ?vsA45) (by kernel_rfl) ?ysA45 ?rsA45
      case ysA45 => (intro wz hz; have hw := Ext.trans hE hz; have k0 := Ext.at_ hw es0; have k1 := Ext.at_ hw es1; go_simp; try with_reducible rfl)
      (try simp only [Act.put, List.setIfInBounds_toArray, List.set_cons_zero, List.set_cons_succ])
      refine PlanO.take (v := ?vsA47) (by kernel_rfl) ?ysA47 ?rsA47
      case ysA47 => (intro wz hz; have hw := Ext.trans hE hz; have k0 := Ext.at_ hw es0; have k1 := Ext.at_ hw es1; go_simp; try with_reducible rfl)
      (try simp only [Act.put, List.setIfInBounds_toArray, List.set_cons_zero, List.set_cons_succ])
      refine PlanO.exec (fun K hK => ?_)
      go_simp
      go_at_call 21
      refine (HENT1.out _ (HZ6.out.below hE (Nat.le_refl _))).mono ?_
      rintro e uu ⟨ev1, rfl, hop, hbb⟩
      have HE1 := Lib.hid (rd_of_own hop)
      have hE := Ext.trans hE hbb
      clear hop
      go_wp2_with fail
      refine hK.out _ _ hbb ?_
      clear hK K
      (try simp only [Act.put, List.setIfInBounds_toArray, List.set_cons_zero, List.set_cons_succ])
      refine PlanO.exec (fun K hK => ?_)
      go_simp
      go_at_call 22
      refine (HENT2.out _ (HZ6.out.below hE (Nat.le_refl _))).mono ?_
      rintro e uu ⟨ev2, rfl, hop, hbb⟩
      have HE2 := Lib.hid (rd_of_own hop)
      have HE1 := Lib.hid (Rd.below HE1.out hbb (Nat.le_refl _))
      have hE := Ext.trans hE hbb
      clear hop
      go_wp2_with fail
      refine hK.out _ _ hbb ?_
      clear hK K
      (try simp only [Act.put, List.setIfInBounds_toArray, List.set_cons_zero, List.set_cons_succ])
      refine PlanO.exec (fun K hK => ?_)
      go_simp
      go_at_call 20
      refine (rsameE_any s _ _ N _ HNL.out HE1.out HE2.out).mono ?_
      rintro e uu ⟨rfl, hbb⟩
      have hE := Ext.trans hE hbb
      go_wp2_with fail
      refine hK.out _ _ hbb ?_
      clear hK K
      (try simp only [Act.put, List.setIfInBounds_toArray, List.set_cons_zero, List.set_cons_succ])
      refine PlanO.take (v := ?vsA50) (by kernel_rfl) ?ysA50 ?rsA50
      case ysA50 => (intro wz hz; go_simp; try with_reducible rfl)
      (try simp only [Act.put, List.setIfInBounds_toArray, List.set_cons_zero, List.set_cons_succ])
      refine PlanO.take (v := ?vsA51) (by kernel_rfl) ?ysA51 ?rsA51
      case ysA51 => (intro wz hz; go_simp; try with_reducible rfl)
      (try simp only [Act.put, List.setIfInBounds_toArray, List.set_cons_zero, List.set_cons_succ])
      refine PlanO.exec (fun K hK => ?_)
      go_simp
      go_at_call 8
      refine (awake8_any _).mono ?_
      rintro e uu ⟨rfl, hbb⟩
      have hE := Ext.trans hE hbb
      go_wp2_with fail
      refine hK.out _ _ hbb ?_
      clear hK K
      (try simp only [Act.put, List.setIfInBounds_toArray, List.set_cons_zero, List.set_cons_succ])
      refine PlanO.take (v := ?vsA53) (by kernel_rfl) ?ysA53 ?rsA53
      case ysA53 => (intro wz hz; go_simp; try with_reducible rfl)
      (try simp only [Act.put, List.setIfInBounds_toArray, List.set_cons_zero, List.set_cons_succ])
      refine PlanO.take (v := ?vsA54) (by kernel_rfl) ?ysA54 ?rsA54
      case ysA54 => (intro wz hz; go_simp; try with_reducible rfl)
      (try simp only [Act.put, List.setIfInBounds_toArray, List.set_cons_zero, List.set_cons_succ])
      refine PlanO.done (NoPanic.normal ?_)
      go_wp2
      go_ret
      exact ⟨rfl, (HBW5.out.trans (HB5.out.mono HBW5.out.size)).trans ((below_draw hE).mono (Nat.le_trans HBW5.out.size HB5.out.size))⟩
    · skip
      refine PlanV.exec2 (fun K hK => ⟨by kernel_rfl, ?_⟩)
      go_simp
      obtain ⟨u1, hu1⟩ : ∃ u1, u1 = (w5.alloc (.cells #[.int .i64 0, .slice none 0 0] 24)).drew := ⟨_, rfl⟩
      rw [← hu1]
      have p0 : u1.heap[w5.heap.size]? = some (.cells #[.int .i64 0, .slice none 0 0] 24 (0, 0)) := by rw [hu1]; exact heap_alloc_new w5 _
      have hq1 : w5.heap.size < u1.heap.size := by rw [hu1]; simp
      have HC1 : Hid (Below w5.heap.size w5 u1) := Lib.hid (by rw [hu1]; exact ((Below.refl _ _).alloc (Nat.le_refl _) _).drew)
      clear hu1
      refine hK.out _ _ (fun z => Below u1.heap.size u1 z) HC1.out (Below.refl _ _) HC1.out ?_
      clear hK K
      (try simp only [Act.put, List.setIfInBounds_toArray, List.set_cons_zero, List.set_cons_succ])
      have hqlt : w5.heap.size ≤ w5.heap.size := Nat.le_refl _
      refine PlanV.exec2 (fun K hK => ⟨by kernel_rfl, ?_⟩)
      go_simp
      go_at_call 11
      refine (HNORMR.out _ (RdO.below HV.out (HBW5.out.trans (HC1.out.mono HBW5.out.size)) (Nat.le_refl _))).mono ?_
      rintro e u2 ⟨nv, rfl, hon, hbn⟩
      obtain ⟨na, nc, rfl, _, _⟩ := hon.form
      have HON := Lib.hid hon
      have HN4 := Lib.hid (hon.read HFN.out)
      clear hon
      go_wp2_with fail
      have HC2 : Hid (Below u1.heap.size u1 u2) := Lib.hid hbn
      have p0 : u2.heap[w5.heap.size]? = some (.cells #[.int .i64 0, .slice none 0 0] 24 (0, 0)) := (hbn.block w5.heap.size hq1).trans p0
      clear hbn
      refine hK.out _ _ (fun z => True) ⟨HC1.out.trans (HC2.out.mono HC1.out.size), HC2.out⟩ trivial (HC1.out.trans (HC2.out.mono HC1.out.size)) ?_
      clear hK K
      (try simp only [Act.put, List.setIfInBounds_toArray, List.set_cons_zero, List.set_cons_succ])
      refine PlanV.take0 (v := .agg #[.int .i64 s, .slice na N.length nc]) (by kernel_rfl) ?yfsB5 ?rfsB5
      case yfsB5 => (intro wz hz; go_simp)
      (try simp only [Act.put, List.setIfInBounds_toArray, List.set_cons_zero, List.set_cons_succ])
      have r0 : u2.cell? ⟨w5.heap.size, 0, none⟩ = some (.int .i64 0) := blk_cell p0
      have r1 : u2.cell? ⟨w5.heap.size, 1, none⟩ = some (.slice none 0 0) := blk_cell p0
      have r2 : u2.frozen? ⟨w5.heap.size, 0, none⟩ = false := blk_free p0
      have r3 : u2.frozen? ⟨w5.heap.size, 1, none⟩ = false := blk_free p0
      refine PlanV.exec3 (fun K hK => ⟨by kernel_rfl, ?_⟩)
      go_simp
      obtain ⟨u3, hu3⟩ : ∃ u3, u3 = (u2.setCell ⟨w5.heap.size, 0, none⟩ (.int .i64 s)).setCell ⟨w5.heap.size, 1, none⟩ (.slice na N.length nc) := ⟨_, rfl⟩
      rw [← hu3]
      have en : u3.heap[w5.heap.size]? = some (.cells #[.int .i64 s, .slice na N.length nc] 24 (0, 0)) := by rw [hu3]; exact (blk_set (blk_set p0 _) _)
      have en0 : u3.cell? ⟨w5.heap.size, 0, none⟩ = some (.int .i64 s) := blk_cell en
      have en1 : u3.cell? ⟨w5.heap.size, 1, none⟩ = some (.slice na N.length nc) := blk_cell en
      have HB5 : Hid (Below w5.heap.size w5 u3) := Lib.hid (by rw [hu3]; exact ((HC1.out.trans (HC2.out.mono HC1.out.size)).setCell hqlt _).setCell hqlt _)
      have HN3 : Hid (RdO u3 (.slice na N.length nc) N) := Lib.hid (by rw [hu3]; exact OwnO.read (own_kept HON.out (R := fun k => u1.heap.size ≤ k) (((Kept.refl _ _).setCell (by simp; omega) _).setCell (by simp; omega) _) fun k hk => (World.ownsRow.lt HON.out k hk).1) HFN.out)
      clear hu3
      refine hK.out _ _ HB5.out ?_
      clear hK K
      (try simp only [Act.put, List.setIfInBounds_toArray, List.set_cons_zero, List.set_cons_succ])
      refine PlanV.done (NoPanic.normal ?_)
      clear r0 r1 r2 r3 p0 en
      go_upto_region 6 with (fail)
      have hE : Ext u3.drew u3.drew := Ext.refl _
      have es0 : u3.drew.cell? ⟨W.heap.size, 0, none⟩ = some (.int .i64 s) := (HB5.out.cell (p := ⟨W.heap.size, 0, none⟩) hyW).trans es0
      have es1 : u3.drew.cell? ⟨W.heap.size, 1, none⟩ = some (.slice a l.length cap) := (HB5.out.cell (p := ⟨W.heap.size, 1, none⟩) hyW).trans es1
      have ex0 : u3.drew.cell? ⟨w2.heap.size, 0, none⟩ = some (.int .i64 ys) := (HB5.out.cell (p := ⟨w2.heap.size, 0, none⟩) hyX).trans ex0
      have ex1 : u3.drew.cell? ⟨w2.heap.size, 1, none⟩ = some (.slice xa yo.length xc) := (HB5.out.cell (p := ⟨w2.heap.size, 1, none⟩) hyX).trans ex1
      have ey0 : u3.drew.cell? ⟨w3.heap.size, 0, none⟩ = some (.int .i64 ys) := (HB5.out.cell (p := ⟨w3.heap.size, 0, none⟩) hyY).trans ey0
      have ey1 : u3.drew.cell? ⟨w3.heap.size, 1, none⟩ = some (.slice ya yo.length yc) := (HB5.out.cell (p := ⟨w3.heap.size, 1, none⟩) hyY).trans ey1
      have en0 : u3.drew.cell? ⟨w5.heap.size, 0, none⟩ = some (.int .i64 s) := en0
      have en1 : u3.drew.cell? ⟨w5.heap.size, 1, none⟩ = some (.slice na N.length nc) := en1
      have HN9 : Hid (RdO u3.drew (.slice na N.length nc) N) := Lib.hid (RdO.below HN3.out (Below.refl _ _).drew (Nat.le_refl _))
      have HZ6 : Hid (RdO u3.drew (.slice a l.length cap) l) := Lib.hid (RdO.below HV.out (HBW5.out.trans (HB5.out.mono HBW5.out.size)).drew (Nat.le_refl _))
      have HX6 : Hid (RdO u3.drew (.slice xa yo.length xc) yo) := Lib.hid (RdO.below HX5.out HB5.out.drew (Nat.le_refl _))
      have HY6 : Hid (RdO u3.drew (.slice ya yo.length yc) yo) := Lib.hid (RdO.below HY5.out HB5.out.drew (Nat.le_refl _))
      refine wp_region_plan [(true, 0), (true, 1), (true, 4), (true, 5), (false, 2), (false, 3), (false, 6), (true, 7), (true, 8), (true, 9), (true, 10), (true, 12), (true, 13), (false, 11), (false, 14), (true, 15), (true, 16), (true, 17), (true, 20), (false, 18), (true, 19), (false, 21), (true, 22), (true, 23), (true, 24), (true, 25), (true, 26), (true, 29), (false, 27), (true, 28), (false, 30), (true, 31), (true, 32), (true, 33), (true, 34), (true, 35), (true, 36), (false, 37), (true, 38), (true, 39), (true, 40), (true, 41), (true, 42), (true, 43), (true, 44), (true, 45), (true, 47), (false, 46), (false, 48), (false, 49), (true, 50), (true, 51), (false, 52), (true, 53), (true, 54)] (by kernel_rfl) (by kernel_rfl) (by kernel_rfl) (by kernel_rfl) (by kernel_rfl) ?_
      simp only [planO, List.drop_succ_cons, List.drop_zero]
      refine PlanO.take (v := ?vsB0) (by kernel_rfl) ?ysB0 ?rsB0
      case ysB0 => (intro wz hz; go_simp; try with_reducible rfl)
      (try simp only [Act.put, List.setIfInBounds_toArray, List.set_cons_zero, List.set_cons_succ])
      refine PlanO.take (v := ?vsB1) (by kernel_rfl) ?ysB1 ?rsB1
      case ysB1 => (intro wz hz; have hw := Ext.trans hE hz; have k0 := Ext.at_ hw es0; have k1 := Ext.at_ hw es1; go_simp; try with_reducible rfl)
      (try simp only [Act.put, List.setIfInBounds_toArray, List.set_cons_zero, List.set_cons_succ])
      refine PlanO.take (v := ?vsB4) (by kernel_rfl) ?ysB4 ?rsB4
      case ysB4 => (intro wz hz; go_simp; try with_reducible rfl)
      (try simp only [Act.put, List.setIfInBounds_toArray, List.set_cons_zero, List.set_cons_succ])
      refine PlanO.take (v := ?vsB5) (by kernel_rfl) ?ysB5 ?rsB5
      case ysB5 => (intro wz hz; have hw := Ext.trans hE hz; have k0 := Ext.at_ hw es0; have k1 := Ext.at_ hw es1; go_simp; try with_reducible rfl)
      (try simp only [Act.put, List.setIfInBounds_toArray, List.set_cons_zero, List.set_cons_succ])
      refine PlanO.exec (fun K hK => ?_)
      go_simp
      go_at_call 13
      refine (bmay_any _ l _ (HZ6.out.below hE (Nat.le_refl _))).mono ?_
      rintro e uu ⟨rfl, hbb⟩
      have hE := Ext.trans hE hbb
      go_wp2_with fail
      refine hK.out _ _ hbb ?_
      clear hK K
      (try simp only [Act.put, List.setIfInBounds_toArray, List.set_cons_zero, List.set_cons_succ])
      refine PlanO.exec (fun K hK => ?_)
      go_simp
      go_at_call 12
      refine (num8_any _ _).mono ?_
      rintro e uu ⟨rfl, rfl⟩
      go_wp2_with fail
      refine hK.out _ _ (Below.refl _ _) ?_
      clear hK K
      (try simp only [Act.put, List.setIfInBounds_toArray, List.set_cons_zero, List.set_cons_succ])
      refine PlanO.exec (fun K hK => ?_)
      go_simp
      go_at_call 14
      refine (rmayO_any _ l _ (HZ6.out.below hE (Nat.le_refl _))).mono ?_
      rintro e uu ⟨rfl, hbb⟩
      have hE := Ext.trans hE hbb
      go_wp2_with fail
      refine hK.out _ _ hbb ?_
      clear hK K
      (try simp only [Act.put, List.setIfInBounds_toArray, List.set_cons_zero, List.set_cons_succ])
      refine PlanO.take (v := .bool true) (by kernel_rfl) ?ysB7 ?rsB7
      case ysB7 => (intro wz hz; go_simp)
      (try simp only [Act.put, List.setIfInBounds_toArray, List.set_cons_zero, List.set_cons_succ])
      refine PlanO.take (v := ?vsB8) (by kernel_rfl) ?ysB8 ?rsB8
      case ysB8 => (intro wz hz; go_simp; try with_reducible rfl)
      (try simp only [Act.put, List.setIfInBounds_toArray, List.set_cons_zero, List.set_cons_succ])
      refine PlanO.take (v := ?vsB9) (by kernel_rfl) ?ysB9 ?rsB9
      case ysB9 => (intro wz hz; go_simp; try with_reducible rfl)
      (try simp only [Act.put, List.setIfInBounds_toArray, List.set_cons_zero, List.set_cons_succ])
      refine PlanO.take (v := ?vsB10) (by kernel_rfl) ?ysB10 ?rsB10
      case ysB10 => (intro wz hz; have hw := Ext.trans hE hz; have k0 := Ext.at_ hw es0; have k1 := Ext.at_ hw es1; go_simp; try with_reducible rfl)
      (try simp only [Act.put, List.setIfInBounds_toArray, List.set_cons_zero, List.set_cons_succ])
      refine PlanO.take (v := ?vsB12) (by kernel_rfl) ?ysB12 ?rsB12
      case ysB12 => (intro wz hz; go_simp; try with_reducible rfl)
      (try simp only [Act.put, List.setIfInBounds_toArray, List.set_cons_zero, List.set_cons_succ])
      refine PlanO.take (v := ?vsB13) (by kernel_rfl) ?ysB13 ?rsB13
      case ysB13 => (intro wz hz; have hw := Ext.trans hE hz; have k0 := Ext.at_ hw en0; have k1 := Ext.at_ hw en1; go_simp; try with_reducible rfl)
      (try simp only [Act.put, List.setIfInBounds_toArray, List.set_cons_zero, List.set_cons_succ])
      refine PlanO.exec (fun K hK => ?_)
      go_simp
      go_at_call 16
      refine (HNORM.out _ (HZ6.out.below hE (Nat.le_refl _))).mono ?_
      rintro e uu ⟨v46, rfl, hop, hbb⟩
      have HV46 := Lib.hid (hop.read HFN.out)
      have hE := Ext.trans hE hbb
      clear hop
      go_wp2_with fail
      refine hK.out _ _ hbb ?_
      clear hK K
      (try simp only [Act.put, List.setIfInBounds_toArray, List.set_cons_zero, List.set_cons_succ])
      refine PlanO.exec (fun K hK => ?_)
      go_simp
      go_at_call 15
      refine (rsame_any _ _ N N _ HV46.out (HN9.out.below hE (Nat.le_refl _))).mono ?_
      rw [sameL_refl]
      rintro e uu ⟨rfl, hbb⟩
      have hE := Ext.trans hE hbb
      go_wp2_with fail
      refine hK.out _ _ hbb ?_
      clear hK K
      (try simp only [Act.put, List.setIfInBounds_toArray, List.set_cons_zero, List.set_cons_succ])
      refine PlanO.take (v := ?vsB15) (by kernel_rfl) ?ysB15 ?rsB15
      case ysB15 => (intro wz hz; go_simp; try with_reducible rfl)
      (try simp only [Act.put, List.setIfInBounds_toArray, List.set_cons_zero, List.set_cons_succ])
      refine PlanO.take (v := ?vsB16) (by kernel_rfl) ?ysB16 ?rsB16
      case ysB16 => (intro wz hz; go_simp; try with_reducible rfl)
      (try simp only [Act.put, List.setIfInBounds_toArray, List.set_cons_zero, List.set_cons_succ])
      refine PlanO.take (v := ?vsB17) (by kernel_rfl) ?ysB17 ?rsB17
      case ysB17 => (intro wz hz; have hw := Ext.trans hE hz; have k0 := Ext.at_ hw es0; have k1 := Ext.at_ hw es1; go_simp; try with_reducible rfl)
      (try simp only [Act.put, List.setIfInBounds_toArray, List.set_cons_zero, List.set_cons_succ])
      refine PlanO.take (v := ?vsB20) (by kernel_rfl) ?ysB20 ?rsB20
      case ysB20 => (intro wz hz; have hw := Ext.trans hE hz; have k0 := Ext.at_ hw es0; have k1 := Ext.at_ hw es1; go_simp; try with_reducible rfl)
      (try simp only [Act.put, List.setIfInBounds_toArray, List.set_cons_zero, List.set_cons_succ])
      refine PlanO.exec (fun K hK => ?_)
      go_simp
      go_at_call 17
      refine (HPUT1.out _ (HZ6.out.below hE (Nat.le_refl _))).mono ?_
      rintro e uu ⟨pp, rfl, hop, hbb⟩
      have HP := Lib.hid hop.read
      have hE := Ext.trans hE hbb
      clear hop
      go_wp2_with fail
      refine hK.out _ _ hbb ?_
      clear hK K
      (try simp only [Act.put, List.setIfInBounds_toArray, List.set_cons_zero, List.set_cons_succ])
      refine PlanO.take (v := .string (strB P1)) (by kernel_rfl) ?ysB19 ?rsB19
      case ysB19 => (intro wz hz; have q := rdB_convert (P := Try.prog) (RdB.below HP.out hz (Nat.le_refl _)) 25 5 9 Try.underlying25 Try.underlying5 Try.underlying9; go_simp)
      (try simp only [Act.put, List.setIfInBounds_toArray, List.set_cons_zero, List.set_cons_succ])
      refine PlanO.exec (fun K hK => ?_)
      go_simp
      go_at_call 18
      refine (HPUT2.out _ (HZ6.out.below hE (Nat.le_refl _))).mono ?_
      rintro e uu ⟨pp, rfl, hop, hbb⟩
      have HP := Lib.hid hop.read
      have hE := Ext.trans hE hbb
      clear hop
      go_wp2_with fail
      refine hK.out _ _ hbb ?_
      clear hK K
      (try simp only [Act.put, List.setIfInBounds_toArray, List.set_cons_zero, List.set_cons_succ])
      refine PlanO.take (v := .string (strB P1)) (by kernel_rfl) ?ysB22 ?rsB22
      case ysB22 => (intro wz hz; have q := rdB_convert (P := Try.prog) (RdB.below HP.out hz (Nat.le_refl _)) 25 5 9 Try.underlying25 Try.underlying5 Try.underlying9; go_simp)
      (try simp only [Act.put, List.setIfInBounds_toArray, List.set_cons_zero, List.set_cons_succ])
      refine PlanO.take (v := .bool true) (by kernel_rfl) ?ysB23 ?rsB23
      case ysB23 => (intro wz hz; go_simp)
      (try simp only [Act.put, List.setIfInBounds_toArray, List.set_cons_zero, List.set_cons_succ])
      refine PlanO.take (v := ?vsB24) (by kernel_rfl) ?ysB24 ?rsB24
      case ysB24 => (intro wz hz; go_simp; try with_reducible rfl)
      (try simp only [Act.put, List.setIfInBounds_toArray, List.set_cons_zero, List.set_cons_succ])
      refine PlanO.take (v := ?vsB25) (by kernel_rfl) ?ysB25 ?rsB25
      case ysB25 => (intro wz hz; go_simp; try with_reducible rfl)
      (try simp only [Act.put, List.setIfInBounds_toArray, List.set_cons_zero, List.set_cons_succ])
      refine PlanO.take (v := ?vsB26) (by kernel_rfl) ?ysB26 ?rsB26
      case ysB26 => (intro wz hz; have hw := Ext.trans hE hz; have k0 := Ext.at_ hw en0; have k1 := Ext.at_ hw en1; go_simp; try with_reducible rfl)
      (try simp only [Act.put, List.setIfInBounds_toArray, List.set_cons_zero, List.set_cons_succ])
      refine PlanO.take (v := ?vsB29) (by kernel_rfl) ?ysB29 ?rsB29
      case ysB29 => (intro wz hz; have hw := Ext.trans hE hz; have k0 := Ext.at_ hw en0; have k1 := Ext.at_ hw en1; go_simp; try with_reducible rfl)
      (try simp only [Act.put, List.setIfInBounds_toArray, List.set_cons_zero, List.set_cons_succ])
      refine PlanO.exec (fun K hK => ?_)
      go_simp
      go_at_call 17
      refine (HPUT3.out _ _ (HN9.out.below hE (Nat.le_refl _))).mono ?_
      rintro e uu ⟨pp, rfl, hop, hbb⟩
      have HP := Lib.hid hop.read
      have hE := Ext.trans hE hbb
      clear hop
      go_wp2_with fail
      refine hK.out _ _ hbb ?_
      clear hK K
      (try simp only [Act.put, List.setIfInBounds_toArray, List.set_cons_zero, List.set_cons_succ])
      refine PlanO.take (v := .string (strB P2)) (by kernel_rfl) ?ysB28 ?rsB28
      case ysB28 => (intro wz hz; have q := rdB_convert (P := Try.prog) (RdB.below HP.out hz (Nat.le_refl _)) 25 5 9 Try.underlying25 Try.underlying5 Try.underlying9; go_simp)
      (try simp only [Act.put, List.setIfInBounds_toArray, List.set_cons_zero, List.set_cons_succ])
      refine PlanO.exec (fun K hK => ?_)
      go_simp
      go_at_call 18
      refine (HPUT4.out _ _ (HN9.out.below hE (Nat.le_refl _))).mono ?_
      rintro e uu ⟨pp, rfl, hop, hbb⟩
      have HP := Lib.hid hop.read
      have hE := Ext.trans hE hbb
      clear hop
      go_wp2_with fail
      refine hK.out _ _ hbb ?_
      clear hK K
      (try simp only [Act.put, List.setIfInBounds_toArray, List.set_cons_zero, List.set_cons_succ])
      refine PlanO.take (v := .string (strB P2)) (by kernel_rfl) ?ysB31 ?rsB31
      case ysB31 => (intro wz hz; have q := rdB_convert (P := Try.prog) (RdB.below HP.out hz (Nat.le_refl _)) 25 5 9 Try.underlying25 Try.underlying5 Try.underlying9; go_simp)
      (try simp only [Act.put, List.setIfInBounds_toArray, List.set_cons_zero, List.set_cons_succ])
      refine PlanO.take (v := .bool true) (by kernel_rfl) ?ysB32 ?rsB32
      case ysB32 => (intro wz hz; go_simp)
      (try simp only [Act.put, List.setIfInBounds_toArray, List.set_cons_zero, List.set_cons_succ])
      refine PlanO.take (v := ?vsB33) (by kernel_rfl) ?ysB33 ?rsB33
      case ysB33 => (intro wz hz; go_simp; try with_reducible rfl)
      (try simp only [Act.put, List.setIfInBounds_toArray, List.set_cons_zero, List.set_cons_succ])
      refine PlanO.take (v := ?vsB34) (by kernel_rfl) ?ysB34 ?rsB34
      case ysB34 => (intro wz hz; go_simp; try with_reducible rfl)
      (try simp only [Act.put, List.setIfInBounds_toArray, List.set_cons_zero, List.set_cons_succ])
      refine PlanO.take (v := ?vsB35) (by kernel_rfl) ?ysB35 ?rsB35
      case ysB35 => (intro wz hz; have hw := Ext.trans hE hz; have k0 := Ext.at_ hw ex0; have k1 := Ext.at_ hw ex1; go_simp; try with_reducible rfl)
      (try simp only [Act.put, List.setIfInBounds_toArray, List.set_cons_zero, List.set_cons_succ])
      refine PlanO.take (v := ?vsB36) (by kernel_rfl) ?ysB36 ?rsB36
      case ysB36 => (intro wz hz; have hw := Ext.trans hE hz; have k0 := Ext.at_ hw ey0; have k1 := Ext.at_ hw ey1; go_simp; try with_reducible rfl)
      (try simp only [Act.put, List.setIfInBounds_toArray, List.set_cons_zero, List.set_cons_succ])
      refine PlanO.exec (fun K hK => ?_)
      go_simp
      go_at_call 19
      refine (rsameB_any _ _ _ _ yo yo _ (HX6.out.below hE (Nat.le_refl _)) (HY6.out.below hE (Nat.le_refl _))).mono ?_
      rw [sameL_refl, show ((ys : Int) == (ys : Int) && true) = true by simp]
      rintro e uu ⟨rfl, hbb⟩
      have hE := Ext.trans hE hbb
      go_wp2_with fail
      refine hK.out _ _ hbb ?_
      clear hK K
      (try simp only [Act.put, List.setIfInBounds_toArray, List.set_cons_zero, List.set_cons_succ])
      refine PlanO.take (v := ?vsB38) (by kernel_rfl) ?ysB38 ?rsB38
      case ysB38 => (intro wz hz; go_simp; try with_reducible rfl)
      (try simp only [Act.put, List.setIfInBounds_toArray, List.set_cons_zero, List.set_cons_succ])
      refine PlanO.take (v := ?vsB39) (by kernel_rfl) ?ysB39 ?rsB39
      case ysB39 => (intro wz hz; go_simp; try with_reducible rfl)
      (try simp only [Act.put, List.setIfInBounds_toArray, List.set_cons_zero, List.set_cons_succ])
      refine PlanO.take (v := ?vsB40) (by kernel_rfl) ?ysB40 ?rsB40
      case ysB40 => (intro wz hz; go_simp; try with_reducible rfl)
      (try simp only [Act.put, List.setIfInBounds_toArray, List.set_cons_zero, List.set_cons_succ])
      refine PlanO.take (v := ?vsB41) (by kernel_rfl) ?ysB41 ?rsB41
      case ysB41 => (intro wz hz; go_simp; try with_reducible rfl)
      (try simp only [Act.put, List.setIfInBounds_toArray, List.set_cons_zero, List.set_cons_succ])
      refine PlanO.take (v := .bool true) (by kernel_rfl) ?ysB42 ?rsB42
      case ysB42 => (intro wz hz; go_simp)
      (try simp only [Act.put, List.setIfInBounds_toArray, List.set_cons_zero, List.set_cons_succ])
      refine PlanO.take (v := ?vsB43) (by kernel_rfl) ?ysB43 ?rsB43
      case ysB43 => (intro wz hz; go_simp; try with_reducible rfl)
      (try simp only [Act.put, List.setIfInBounds_toArray, List.set_cons_zero, List.set_cons_succ])
      refine PlanO.take (v := ?vsB44) (by kernel_rfl) ?ysB44 ?rsB44
      case ysB44 => (intro wz hz; go_simp; try with_reducible rfl)
      (try simp only [Act.put, List.setIfInBounds_toArray, List.set_cons_zero, List.set_cons_succ])
      refine PlanO.take (v := ?vsB45) (by kernel_rfl) ?ysB45 ?rsB45
      case ysB45 => (intro wz hz; have hw := Ext.trans hE hz; have k0 := Ext.at_ hw es0; have k1 := Ext.at_ hw es1; go_simp; try with_reducible rfl)
      (try simp only [Act.put, List.setIfInBounds_toArray, List.set_cons_zero, List.set_cons_succ])
      refine PlanO.take (v := ?vsB47) (by kernel_rfl) ?ysB47 ?rsB47
      case ysB47 => (intro wz hz; have hw := Ext.trans hE hz; have k0 := Ext.at_ hw es0; have k1 := Ext.at_ hw es1; go_simp; try with_reducible rfl)
      (try simp only [Act.put, List.setIfInBounds_toArray, List.set_cons_zero, List.set_cons_succ])
      refine PlanO.exec (fun K hK => ?_)
      go_simp
      go_at_call 21
      refine (HENT1.out _ (HZ6.out.below hE (Nat.le_refl _))).mono ?_
      rintro e uu ⟨ev1, rfl, hop, hbb⟩
      have HE1 := Lib.hid (rd_of_own hop)
      have hE := Ext.trans hE hbb
      clear hop
      go_wp2_with fail
      refine hK.out _ _ hbb ?_
      clear hK K
      (try simp only [Act.put, List.setIfInBounds_toArray, List.set_cons_zero, List.set_cons_succ])
      refine PlanO.exec (fun K hK => ?_)
      go_simp
      go_at_call 22
      refine (HENT2.out _ (HZ6.out.below hE (Nat.le_refl _))).mono ?_
      rintro e uu ⟨ev2, rfl, hop, hbb⟩
      have HE2 := Lib.hid (rd_of_own hop)
      have HE1 := Lib.hid (Rd.below HE1.out hbb (Nat.le_refl _))
      have hE := Ext.trans hE hbb
      clear hop
      go_wp2_with fail
      refine hK.out _ _ hbb ?_
      clear hK K
      (try simp only [Act.put, List.setIfInBounds_toArray, List.set_cons_zero, List.set_cons_succ])
      refine PlanO.exec (fun K hK => ?_)
      go_simp
      go_at_call 20
      refine (rsameE_any s _ _ N _ HNL.out HE1.out HE2.out).mono ?_
      rintro e uu ⟨rfl, hbb⟩
      have hE := Ext.trans hE hbb
      go_wp2_with fail
      refine hK.out _ _ hbb ?_
      clear hK K
      (try simp only [Act.put, List.setIfInBounds_toArray, List.set_cons_zero, List.set_cons_succ])
      refine PlanO.take (v := ?vsB50) (by kernel_rfl) ?ysB50 ?rsB50
      case ysB50 => (intro wz hz; go_simp; try with_reducible rfl)
      (try simp only [Act.put, List.setIfInBounds_toArray, List.set_cons_zero, List.set_cons_succ])
      refine PlanO.take (v := ?vsB51) (by kernel_rfl) ?ysB51 ?rsB51
      case ysB51 => (intro wz hz; go_simp; try with_reducible rfl)
      (try simp only [Act.put, List.setIfInBounds_toArray, List.set_cons_zero, List.set_cons_succ])
      refine PlanO.exec (fun K hK => ?_)
      go_simp
      go_at_call 8
      refine (awake8_any _).mono ?_
      rintro e uu ⟨rfl, hbb⟩
      have hE := Ext.trans hE hbb
      go_wp2_with fail
      refine hK.out _ _ hbb ?_
      clear hK K
      (try simp only [Act.put, List.setIfInBounds_toArray, List.set_cons_zero, List.set_cons_succ])
      refine PlanO.take (v := ?vsB53) (by kernel_rfl) ?ysB53 ?rsB53
      case ysB53 => (intro wz hz; go_simp; try with_reducible rfl)
      (try simp only [Act.put, List.setIfInBounds_toArray, List.set_cons_zero, List.set_cons_succ])
      refine PlanO.take (v := ?vsB54) (by kernel_rfl) ?ysB54 ?rsB54
      case ysB54 => (intro wz hz; go_simp; try with_reducible rfl)
      (try simp only [Act.put, List.setIfInBounds_toArray, List.set_cons_zero, List.set_cons_succ])
      refine PlanO.done (NoPanic.normal ?_)
      go_wp2
      go_ret
      exact ⟨rfl, (HBW5.out.trans (HB5.out.mono HBW5.out.size)).trans ((below_draw hE).mono (Nat.le_trans HBW5.out.size HB5.out.size))⟩
end Go.Proofs.Ytmcdkdoickbnlaa
