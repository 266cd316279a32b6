import Derived.Test.YtfeogoihkpclcaaMg03
import Derived.Test.YtfeogoihkpclcaaMg23
import Derived.Test.YtfeogoihkpclcaaMg16

/-
  As XTwo, but the class of worlds that holds till the last ones come up may be made smaller by a call.
-/
namespace Go.Proofs.Ytfeogoihkpclcaa
open Go.RowKit
section
variable {P : Program} {ops : Array Oper} {Q : Exit → Act → World → Prop} {S1 S2 : World → Prop} {E : Nat → Bool}

theorem wpAny2_mono {S1' : World → Prop} (hle : ∀ z, S1' z → S1 z) : ∀ (fuel : Nat) (listed : Array Bool) (a : Act) (w : World), wpAny2 P ops Q S1' S2 E fuel listed a w → wpAny2 P ops Q S1 S2 E fuel listed a w
  | 0, _, _, _, h => h
  | fuel + 1, _, _, _, h => ⟨h.1, fun i hi => wpOp_mono (fun a' w' h' => ⟨⟨h'.1.1, fun hn => hle _ (h'.1.2 hn)⟩, wpAny2_mono hle fuel _ a' w' h'.2⟩) (h.2 i hi)⟩

def PlanV (P : Program) (ops : Array Oper) (Q : Exit → Act → World → Prop) (S2 : World → Prop) : (World → Prop) → List (Nat × Oper) → Act → World → Prop
  | _, [], a, w => Q .normal a w
  | S1, (0, o) :: r, a, w => ∃ v : Value, YieldsIf P ops S1 o v a ∧ PlanV P ops Q S2 S1 r (a.put o.dst v) w
  | S1, (1, o) :: r, a, w => ∃ v : Value, YieldsIf P ops S2 o v a ∧ PlanV P ops Q S2 S1 r (a.put o.dst v) w
  | S1, (2, o) :: r, a, w => if Region.wanted o (yielded ops a.tmps) then o.wp P a w (fun a' w' => ∃ S1' : World → Prop, (∀ z, S1' z → S1 z) ∧ (S2 w' ∧ S1' w') ∧ PlanV P ops Q S2 S1' r a' w') Q ∨ (o.asks P a w ∧ LetsOut Q) else PlanV P ops Q S2 S1 r (a.put o.dst undef) w
  | S1, (_ + 3, o) :: r, a, w => if Region.wanted o (yielded ops a.tmps) then o.wp P a w (fun a' w' => S2 w' ∧ PlanV P ops Q S2 S1 r a' w') Q ∨ (o.asks P a w ∧ LetsOut Q) else PlanV P ops Q S2 S1 r (a.put o.dst undef) w

theorem planV_sound {l : List Oper} {EL : List Nat} (hs : Region.noSelect l.toArray = true) (hQ : ∀ (c : List PanicEntry) (a a' : Act) (w : World), Q (.panic c) a' w → Q (.panic c) a w) :
    ∀ (p : List (Nat × Nat)) (S1 : World → Prop) (b : Bool) (listed : Array Bool) (a : Act) (w : World), Closed l.toArray listed → S2 w → (b = false → S1 w) → (b = true → ∃ j, EL.contains j = true ∧ listed.getD j false = true) → (p.all fun x => decide (x.2 < l.length)) = true → planTB l.toArray EL b p listed = true → (listed.size = l.length) →
      PlanV P l.toArray Q S2 S1 (planT l p) a w → wpAny2 P l.toArray Q S1 S2 (fun j => EL.contains j) p.length listed a w
  | [], _, b, listed, a, w, _, _, _, _, _, hb, _, h => by
    have hb' : Region.ready .any l.toArray listed = [] := by simpa [planTB] using hb
    exact ⟨hb', h⟩
  | (k, i) :: r, S1, b, listed, a, w, hc, hS2, hS1, hE, hi, hb, hz, h => by
    simp only [List.all_cons, Bool.and_eq_true, decide_eq_true_eq] at hi
    have hz' : (listed.setIfInBounds i true).size = l.length := by simpa using hz
    have hset : (listed.setIfInBounds i true).getD i false = true := by simp [hz, hi.1]
    have hS1' : NoE (fun j => EL.contains j) listed → S1 w := fun hn => by
      cases b with
      | false => exact hS1 rfl
      | true =>
        obtain ⟨j, h1, h2⟩ := hE rfl
        rw [hn j h1] at h2
        cases h2
    unfold planT at h
    split at h
    case h_2 hd =>
      have := congrArg List.length hd
      simp at this
      omega
    case h_1 o t hd =>
      match k, h, hb with
      | 0, h, hb =>
        simp only [planTB, Bool.and_eq_true, Bool.not_eq_true', List.all_eq_true] at hb
        obtain ⟨v, hy, h⟩ := h
        obtain ⟨⟨⟨⟨⟨hb0, hb1⟩, hb2⟩, hb3⟩, hb4⟩, hb5⟩ := hb
        subst hb0
        have hr : i ∈ Region.ready .any l.toArray listed := by simpa using hb2
        exact first1 (drop_head hd) (Region.noSelect_spec hs) (fun c a w h => hQ c _ _ w h) hb3 (fun j hj => hb4 j (by simpa using hj)) _ listed a w hc (Region.free_spec (drop_head hd) hb1) hr hy hS2 (hS1 rfl)
          (planV_sound hs hQ r S1 _ _ _ w (hc.set hr) hS2 hS1 (fun h => by cases h) hi.2 hb5 hz' h)
      | 1, h, hb =>
        simp only [planTB, Bool.and_eq_true, Bool.not_eq_true'] at hb
        obtain ⟨v, hy, h⟩ := h
        obtain ⟨⟨⟨hb1, hb2⟩, hb3⟩, hb5⟩ := hb
        have hr : i ∈ Region.ready .any l.toArray listed := by simpa using hb2
        exact first2 (drop_head hd) (Region.noSelect_spec hs) (fun c a w h => hQ c _ _ w h) hb3 _ listed a w hc (Region.free_spec (drop_head hd) hb1) hr hy hS2 hS1'
          (planV_sound hs hQ r S1 b _ _ w (hc.set hr) hS2 hS1 (fun h => by obtain ⟨j, h1, h2⟩ := hE h; exact ⟨j, h1, getD_set_true h2⟩) hi.2 hb5 hz' h)
      | 2, h, hb =>
        simp only [planTB, Bool.and_eq_true, Bool.not_eq_true', beq_iff_eq] at hb
        obtain ⟨⟨⟨hb0, hb3⟩, hb2⟩, hb5⟩ := hb
        subst hb0
        have hr : i ∈ Region.ready .any l.toArray listed := by rw [hb2]; simp
        refine ⟨fun h0 => by (rw [h0] at hr; cases hr), fun j hj => ?_⟩
        obtain rfl : j = i := by rw [hb2] at hj; simpa using hj
        unfold wpOp
        rw [drop_head hd]
        simp only
        unfold PlanV at h
        split at h
        · rename_i hw
          rw [if_pos hw]
          exact h.imp (fun h => Oper.wp_mono (fun a' w' ⟨S1', hle, ⟨h2, h1⟩, hp⟩ => ⟨⟨h2, fun _ => hle _ h1⟩, wpAny2_mono hle _ _ _ _ (planV_sound hs hQ r S1' _ _ a' w' (hc.set hr) h2 (fun _ => h1) (fun h => by cases h) hi.2 hb5 hz' hp)⟩) h) id
        · rename_i hw
          rw [if_neg hw]
          exact ⟨⟨hS2, fun _ => hS1 rfl⟩, planV_sound hs hQ r S1 _ _ _ w (hc.set hr) hS2 hS1 (fun h => by cases h) hi.2 hb5 hz' h⟩
      | k + 3, h, hb =>
        simp only [planTB, Bool.and_eq_true, beq_iff_eq] at hb
        obtain ⟨⟨hb3, hb2⟩, hb5⟩ := hb
        have hr : i ∈ Region.ready .any l.toArray listed := by rw [hb2]; simp
        have hno : ¬ NoE (fun j => EL.contains j) (listed.setIfInBounds i true) := fun hn => by
          have := hn i hb3
          rw [hset] at this
          cases this
        refine ⟨fun h0 => by (rw [h0] at hr; cases hr), fun j hj => ?_⟩
        obtain rfl : j = i := by rw [hb2] at hj; simpa using hj
        unfold wpOp
        rw [drop_head hd]
        simp only
        unfold PlanV at h
        split at h
        · rename_i hw
          rw [if_pos hw]
          exact h.imp (fun h => Oper.wp_mono (fun a' w' ⟨h2, hp⟩ => ⟨⟨h2, fun hn => absurd hn hno⟩, planV_sound hs hQ r S1 true _ a' w' (hc.set hr) h2 (fun h => by cases h) (fun _ => ⟨j, hb3, hset⟩) hi.2 hb5 hz' hp⟩) h) id
        · rename_i hw
          rw [if_neg hw]
          exact ⟨⟨hS2, fun hn => absurd hn hno⟩, planV_sound hs hQ r S1 true _ _ w (hc.set hr) hS2 (fun h => by cases h) (fun _ => ⟨j, hb3, hset⟩) hi.2 hb5 hz' h⟩

/-- **The region**, by a plan; 'EL': the last ones. (It must be shown not to panic.) -/
theorem wp_region_three {l : List Oper} {id : Nat} {a : Act} {w : World} (S1 S2 : World → Prop) (p : List (Nat × Nat)) (EL : List Nat) (hm : P.follows .mixedOrders = true) (hs : Region.noSelect l.toArray = true) (hn : (p.length == l.toArray.size) = true)
    (hi : (p.all fun x => decide (x.2 < l.length)) = true) (hb : planTB l.toArray EL false p (Array.replicate l.toArray.size false) = true) (h1 : S1 w.drew) (h2 : S2 w.drew)
    (h : PlanV P l.toArray (NoPanic Q) S2 S1 (planT l p) a w.drew) : (Code.region id l.toArray true).wp P Q a w := by
  refine wp_region_noPanic ?_
  refine wp_region_any hm ?_
  have h1 := planV_sound (S2 := S2) (EL := EL) hs (Q := NoPanic Q) (fun _ _ _ _ h => h) p S1 false _ a w.drew (Closed.start _) h2 (fun _ => h1) (fun h => by cases h) hi hb (by simp) h
  rw [beq_iff_eq.1 hn] at h1
  exact wpAny_of_two _ _ _ _ h1

theorem PlanV.take0 {o : Oper} {r : List (Nat × Oper)} {a : Act} {w : World} {v : Value} (hw : Region.wanted o (yielded ops a.tmps) = true)
    (hy : ∀ w', S1 w' → (execOp a.eval o).run P w' = .ok (.value v) w') (h : PlanV P ops Q S2 S1 r (a.put o.dst v) w) : PlanV P ops Q S2 S1 ((0, o) :: r) a w :=
  ⟨v, .inl ⟨hw, hy⟩, h⟩
theorem PlanV.take1 {o : Oper} {r : List (Nat × Oper)} {a : Act} {w : World} {v : Value} (hw : Region.wanted o (yielded ops a.tmps) = true)
    (hy : ∀ w', S2 w' → (execOp a.eval o).run P w' = .ok (.value v) w') (h : PlanV P ops Q S2 S1 r (a.put o.dst v) w) : PlanV P ops Q S2 S1 ((1, o) :: r) a w :=
  ⟨v, .inl ⟨hw, hy⟩, h⟩
/-- Carried out; from there on the class is 'T' as well. -/
theorem PlanV.exec2 {o : Oper} {r : List (Nat × Oper)} {a : Act} {w : World}
    (h : ∀ K : Act → World → Prop, Shut (∀ a w' (T : World → Prop), S1 w' → T w' → S2 w' → PlanV P ops Q S2 (fun z => S1 z ∧ T z) r a w' → K a w') → Region.wanted o (yielded ops a.tmps) = true ∧ Oper.wp P o a w K Q) : PlanV P ops Q S2 S1 ((2, o) :: r) a w := by
  have := h (fun a' w' => ∃ S1' : World → Prop, (∀ z, S1' z → S1 z) ∧ (S2 w' ∧ S1' w') ∧ PlanV P ops Q S2 S1' r a' w') (fun a w' T h1 hT h2 hP => ⟨fun z => S1 z ∧ T z, fun z h => h.1, ⟨h2, h1, hT⟩, hP⟩)
  unfold PlanV
  rw [if_pos this.1]
  exact .inl this.2
theorem PlanV.exec3 {o : Oper} {r : List (Nat × Oper)} {a : Act} {w : World}
    (h : ∀ K : Act → World → Prop, Shut (∀ a w', S2 w' → PlanV P ops Q S2 S1 r a w' → K a w') → Region.wanted o (yielded ops a.tmps) = true ∧ Oper.wp P o a w K Q) : PlanV P ops Q S2 S1 ((3, o) :: r) a w := by
  have := h (fun a' w' => S2 w' ∧ PlanV P ops Q S2 S1 r a' w') (fun a w' h2 hT => ⟨h2, hT⟩)
  unfold PlanV
  rw [if_pos this.1]
  exact .inl this.2
theorem PlanV.done {a : Act} {w : World} (h : Q .normal a w) : PlanV P ops Q S2 S1 [] a w := h
end
end Go.Proofs.Ytfeogoihkpclcaa

/-
  The document's disk: Files.
-/
namespace Go.Proofs.Ytfeogoihkpclcaa
open Go.RowKit

theorem GDAt.below7 {o : Nat → DR} {w w' : World} {i : Nat} {g : GD} (h : GDAt o w i g ∧ ∀ k, o k ≠ .out → k < w.heap.size) (hb : Below w.heap.size w w') : GDAt o w' i g :=
  h.1.kept (R := fun k => k < w.heap.size) (Kept.of hb fun _ h => h) fun k e => h.2 k (by rcases e with e | e | e <;> rw [e] <;> simp)

theorem dmany_at {o : Nat → DR} {w : World} {i : Nat} {g : GD} (h : GDAt o w i g) (hok : FOkD g.df) :
    Calls Try.prog 45 #[.pointer (some ⟨g.fp, 0, none⟩)] w fun e w' => e = .returned (.int .i64 ((g.df.many : Nat) : Int)) ∧ w = w' := by
  have hn := hok.num
  have hs := hok.size
  have e1 : g.df.loose.length = g.ps.length := by unfold GD.df pwL; rw [List.length_map]
  have e2 : g.df.safe.length + manyL g.df.loose = g.safe.length + manyL (pwL g.ps) := rfl
  exact dmany_any w g.fp g.sv g.pv g.ps (by omega) (fun j => by
    have : pwL (g.ps.take j) = (pwL g.ps).take j := by unfold pwL; rw [List.map_take]
    rw [this]
    have := many_take_le (pwL g.ps) j
    omega) h.blk ⟨rd_of_own h.row, h.each⟩

theorem dlist_step (m : DM) {k : Nat} {x : List UInt8 × Nat} (hx : m.now[k]? = some x) : m.list.take (k + 1) = m.list.take k ++ [(x.1, (m.file x.2).all, (m.file x.2).many)] := by
  have h1 : m.list[k]? = some (x.1, (m.file x.2).all, (m.file x.2).many) := by unfold DM.list; rw [List.getElem?_map, hx]; rfl
  obtain ⟨hk, h2⟩ := List.getElem?_eq_some_iff.1 h1
  rw [List.take_succ_eq_append_getElem hk, h2]

set_option maxRecDepth 100000 in
set_option maxHeartbeats 8000000 in
set_option linter.unusedSimpArgs false in
theorem dfiles_any {o : Nat → DR} {v : DV} {gs : List GD} {w : World} {q : Nat} {m : DM} (h : DocAt o v gs w q m) (hsm : DSm m) (hfo : DFo m m.now) :
    Calls Try.prog 12 #[.pointer (some ⟨q, 0, none⟩)] w fun e w' => ∃ u, e = .returned u ∧ w'.ownsRow w.heap.size 80 3 u m.list.length (fiCells m.list) ∧ Below w.heap.size w w' := by
  have q1 : w.cell? ⟨q, 1, none⟩ = some v.nv := blk_cell h.blk
  have q10 : w.cell? ⟨q, 10, none⟩ = some (.bool m.down) := blk_cell h.blk
  have HH := Lib.hid h
  obtain ⟨na, nc, hnv, _, _⟩ := h.now
  rw [hnv] at q1
  have HNW := Lib.hid (show Rd w 2 (.slice na m.now.length nc) m.now.length (bCells m.now) by rw [← hnv]; exact h.now)
  clear hnv h
  have hnl := hsm.now
  have HFO := Lib.hid hfo
  have hqs : q < w.heap.size := blk_lt HH.out.blk
  have hml : m.list.length = m.now.length := by unfold DM.list; rw [List.length_map]
  have HML := Lib.hid hml
  clear hsm hfo q10 hml
  go_enter Try.func12, Try.ntmps12
  go_wp2
  go_loopw [3, 4] (fun lv i wr => ∃ (k : Nat) (u0 : Value), k ≤ m.now.length ∧ i = .int .i64 k ∧ u0 = lv ∧ Hid (wr.ownsRow w.heap.size 80 3 u0 k (fiCells (m.list.take k))) ∧ Hid (Below w.heap.size w wr)) (fun _ i _ => m.now.length - (intOf i).toNat)
  case atStart => exact ⟨0, _, Nat.zero_le _, rfl, rfl, Lib.hid (World.ownsRow_nil _ _ _ _), Lib.hid (Below.refl _ _)⟩
  case round =>
    obtain ⟨k, u0, hk, rfl, rfl, HL, HBR⟩ := hrel
    have r1 : wr.cell? ⟨q, 1, none⟩ = some (.slice na m.now.length nc) := (HBR.out.cell (p := ⟨q, 1, none⟩) hqs).trans q1
    by_cases hlt : k < m.now.length
    · obtain ⟨x, hx⟩ : ∃ x, m.now[k]? = some x := ⟨_, List.getElem?_eq_getElem hlt⟩
      obtain ⟨w4, hw4⟩ : ∃ w4, w4 = wr.drew := ⟨_, rfl⟩
      obtain ⟨w6, hw6⟩ : ∃ w6, w6 = w4.drew := ⟨_, rfl⟩
      have hb4 : Below w.heap.size w w4 := by rw [hw4]; exact HBR.out.drew
      have hb6 : Below w.heap.size w w6 := by rw [hw6]; exact hb4.drew
      have hD4 := HH.out.below hb4
      have hD6 := HH.out.below hb6
      have hxm := HFO.out x (List.mem_of_getElem? hx)
      obtain ⟨fb, fc, g, hfv, hg, hdf, a3, hfb, hgc, hga⟩ := hD4.file hxm.1
      have hga6 := And.intro (hD6.each x.2 g hg) hD6.lt
      have a0 : w4.cell? ⟨q, 0, none⟩ = some v.fv := blk_cell hD4.blk
      rw [hfv] at a0
      have a1 : w4.cell? ⟨q, 1, none⟩ = some (.slice na m.now.length nc) := (hb4.cell (p := ⟨q, 1, none⟩) hqs).trans q1
      have c1 : w6.cell? ⟨q, 1, none⟩ = some (.slice na m.now.length nc) := (hb6.cell (p := ⟨q, 1, none⟩) hqs).trans q1
      obtain ⟨nb, no, rfl, b2, b3, hnb⟩ := rd_bind HNW.out hx
      have a2 : w4.cell? ⟨nb, no + k * 2 + 1, none⟩ = some (.int .i64 (x.2 : Int)) := (hb4.cell (p := ⟨nb, no + k * 2 + 1, none⟩) hnb).trans b3
      have c2 : w6.cell? ⟨nb, no + k * 2, none⟩ = some (.string (strB x.1)) := (hb6.cell (p := ⟨nb, no + k * 2, none⟩) hnb).trans b2
      have hid : x.2 < gs.length := (List.getElem?_eq_some_iff.1 hg).1
      have hok := hxm.2
      rw [← hdf] at hok
      have HA := Lib.hid (dall_at hga6.1 hok)
      have hst := dlist_step m hx
      rw [← hdf] at hst
      obtain ⟨b, hb⟩ : ∃ b, g.df.all = b := ⟨_, rfl⟩
      obtain ⟨mn, hmn⟩ : ∃ mn, g.df.many = mn := ⟨_, rfl⟩
      have hdm := @dmany_at o
      rw [hb, hmn] at hst
      rw [hb] at HA
      have HMN := Lib.hid hmn
      have HST := Lib.hid hst
      have HW4 := Lib.hid hw4
      have HW6 := Lib.hid hw6
      have HB6 := Lib.hid hb6
      have HNB := Lib.hid hnb
      have HL6 : Hid (w6.ownsRow w.heap.size 80 3 u0 k (fiCells (m.list.take k))) := Lib.hid (by rw [hw6, hw4]; exact HL.out)
      obtain ⟨la0, lc0, hu0, _, _⟩ := rd_of_own HL.out
      subst hu0
      clear hx hw4 hw6 hb4 hb6 hD4 hD6 hxm hfv hg hdf hga hst hb hmn hdm hnb b2 b3
      have hga6 := Lib.hid hga6
      have hok := Lib.hid hok
      go_wp2
      refine wp_region_plan [(true, 0), (true, 1), (true, 2), (true, 3), (true, 4), (true, 5), (true, 6), (true, 7), (true, 8), (true, 9), (true, 10), (true, 11), (true, 12), (true, 13), (true, 14)] (by kernel_rfl) (by kernel_rfl) (by kernel_rfl) (by kernel_rfl) (by kernel_rfl) ?_
      simp only [planO, List.drop_succ_cons, List.drop_zero]
      rw [← HW4.out]
      refine PlanO.take (v := ?v0) (by kernel_rfl) ?y0 ?r0
      case y0 => (intro wz hz; go_simp; try with_reducible rfl)
      (try simp only [Act.put, List.setIfInBounds_toArray, List.set_cons_zero, List.set_cons_succ])
      refine PlanO.take (v := ?v1) (by kernel_rfl) ?y1 ?r1
      case y1 => (intro wz hz; go_simp; try with_reducible rfl)
      (try simp only [Act.put, List.setIfInBounds_toArray, List.set_cons_zero, List.set_cons_succ])
      refine PlanO.take (v := ?v2) (by kernel_rfl) ?y2 ?r2
      case y2 => (intro wz hz; go_simp; try with_reducible rfl)
      (try simp only [Act.put, List.setIfInBounds_toArray, List.set_cons_zero, List.set_cons_succ])
      refine PlanO.take (v := ?v3) (by kernel_rfl) ?y3 ?r3
      case y3 => (intro wz hz; have k0 := Ext.at_ hz a0; go_simp; try with_reducible rfl)
      (try simp only [Act.put, List.setIfInBounds_toArray, List.set_cons_zero, List.set_cons_succ])
      refine PlanO.take (v := ?v4) (by kernel_rfl) ?y4 ?r4
      case y4 => (intro wz hz; go_simp; try with_reducible rfl)
      (try simp only [Act.put, List.setIfInBounds_toArray, List.set_cons_zero, List.set_cons_succ])
      refine PlanO.take (v := ?v5) (by kernel_rfl) ?y5 ?r5
      case y5 => (intro wz hz; go_simp; try with_reducible rfl)
      (try simp only [Act.put, List.setIfInBounds_toArray, List.set_cons_zero, List.set_cons_succ])
      refine PlanO.take (v := ?v6) (by kernel_rfl) ?y6 ?r6
      case y6 => (intro wz hz; go_simp; try with_reducible rfl)
      (try simp only [Act.put, List.setIfInBounds_toArray, List.set_cons_zero, List.set_cons_succ])
      refine PlanO.take (v := ?v7) (by kernel_rfl) ?y7 ?r7
      case y7 => (intro wz hz; have k1 := Ext.at_ hz a1; go_simp; try with_reducible rfl)
      (try simp only [Act.put, List.setIfInBounds_toArray, List.set_cons_zero, List.set_cons_succ])
      refine PlanO.take (v := ?v8) (by kernel_rfl) ?y8 ?r8
      case y8 => (intro wz hz; go_simp; try with_reducible rfl)
      (try simp only [Act.put, List.setIfInBounds_toArray, List.set_cons_zero, List.set_cons_succ])
      refine PlanO.take (v := ?v9) (by kernel_rfl) ?y9 ?r9
      case y9 => (intro wz hz; go_simp; try with_reducible rfl)
      (try simp only [Act.put, List.setIfInBounds_toArray, List.set_cons_zero, List.set_cons_succ])
      refine PlanO.take (v := ?v10) (by kernel_rfl) ?y10 ?r10
      case y10 => (intro wz hz; go_simp; try with_reducible rfl)
      (try simp only [Act.put, List.setIfInBounds_toArray, List.set_cons_zero, List.set_cons_succ])
      refine PlanO.take (v := ?v11) (by kernel_rfl) ?y11 ?r11
      case y11 => (intro wz hz; have k2 := Ext.at_ hz a2; go_simp; try with_reducible rfl)
      (try simp only [Act.put, List.setIfInBounds_toArray, List.set_cons_zero, List.set_cons_succ])
      refine PlanO.take (v := ?v12) (by kernel_rfl) ?y12 ?r12
      case y12 => (intro wz hz; go_simp; try with_reducible rfl)
      (try simp only [Act.put, List.setIfInBounds_toArray, List.set_cons_zero, List.set_cons_succ])
      refine PlanO.take (v := ?v13) (by kernel_rfl) ?y13 ?r13
      case y13 => (intro wz hz; have k3 := Ext.at_ hz a3; go_simp; try with_reducible rfl)
      (try simp only [Act.put, List.setIfInBounds_toArray, List.set_cons_zero, List.set_cons_succ])
      refine PlanO.take (v := ?v14) (by kernel_rfl) ?y14 ?r14
      case y14 => (intro wz hz; go_simp; try with_reducible rfl)
      (try simp only [Act.put, List.setIfInBounds_toArray, List.set_cons_zero, List.set_cons_succ])
      refine PlanO.done (NoPanic.normal ?_)
      go_wp2
      refine wp_region_three (fun wz => Below w.heap.size w6 wz) (fun _ => True) [(0, 0), (0, 1), (0, 2), (0, 3), (0, 4), (0, 5), (0, 6), (0, 7), (0, 8), (0, 9), (0, 12), (2, 10), (0, 11), (2, 13), (0, 14), (2, 15), (3, 16), (1, 17)] [16] (by kernel_rfl) (by kernel_rfl) (by kernel_rfl) (by kernel_rfl) (by kernel_rfl) (by rw [← HW6.out]; exact Below.refl _ _) trivial ?_
      simp only [planT, List.drop_succ_cons, List.drop_zero]
      rw [← HW6.out]
      refine PlanV.take0 (v := ?vF0) (by kernel_rfl) ?yF0 ?rF0
      case yF0 => (intro wz hz; go_simp; try with_reducible rfl)
      (try simp only [Act.put, List.setIfInBounds_toArray, List.set_cons_zero, List.set_cons_succ])
      refine PlanV.take0 (v := ?vF1) (by kernel_rfl) ?yF1 ?rF1
      case yF1 => (intro wz hz; go_simp; try with_reducible rfl)
      (try simp only [Act.put, List.setIfInBounds_toArray, List.set_cons_zero, List.set_cons_succ])
      refine PlanV.take0 (v := ?vF2) (by kernel_rfl) ?yF2 ?rF2
      case yF2 => (intro wz hz; go_simp; try with_reducible rfl)
      (try simp only [Act.put, List.setIfInBounds_toArray, List.set_cons_zero, List.set_cons_succ])
      refine PlanV.take0 (v := ?vF3) (by kernel_rfl) ?yF3 ?rF3
      case yF3 => (intro wz hz; go_simp; try with_reducible rfl)
      (try simp only [Act.put, List.setIfInBounds_toArray, List.set_cons_zero, List.set_cons_succ])
      refine PlanV.take0 (v := ?vF4) (by kernel_rfl) ?yF4 ?rF4
      case yF4 => (intro wz hz; have k1 := (hz.cell (p := ⟨q, 1, none⟩) hqs).trans c1; go_simp; try with_reducible rfl)
      (try simp only [Act.put, List.setIfInBounds_toArray, List.set_cons_zero, List.set_cons_succ])
      refine PlanV.take0 (v := ?vF5) (by kernel_rfl) ?yF5 ?rF5
      case yF5 => (intro wz hz; go_simp; try with_reducible rfl)
      (try simp only [Act.put, List.setIfInBounds_toArray, List.set_cons_zero, List.set_cons_succ])
      refine PlanV.take0 (v := ?vF6) (by kernel_rfl) ?yF6 ?rF6
      case yF6 => (intro wz hz; go_simp; try with_reducible rfl)
      (try simp only [Act.put, List.setIfInBounds_toArray, List.set_cons_zero, List.set_cons_succ])
      refine PlanV.take0 (v := ?vF7) (by kernel_rfl) ?yF7 ?rF7
      case yF7 => (intro wz hz; go_simp; try with_reducible rfl)
      (try simp only [Act.put, List.setIfInBounds_toArray, List.set_cons_zero, List.set_cons_succ])
      refine PlanV.take0 (v := .string (strB x.1)) (by kernel_rfl) ?yF8 ?rF8
      case yF8 => (intro wz hz; have k2 := (hz.cell (p := ⟨nb, no + k * 2, none⟩) HNB.out).trans c2; go_simp)
      (try simp only [Act.put, List.setIfInBounds_toArray, List.set_cons_zero, List.set_cons_succ])
      refine PlanV.take0 (v := ?vF9) (by kernel_rfl) ?yF9 ?rF9
      case yF9 => (intro wz hz; go_simp; try with_reducible rfl)
      (try simp only [Act.put, List.setIfInBounds_toArray, List.set_cons_zero, List.set_cons_succ])
      refine PlanV.take0 (v := ?vF12) (by kernel_rfl) ?yF12 ?rF12
      case yF12 => (intro wz hz; go_simp; try with_reducible rfl)
      (try simp only [Act.put, List.setIfInBounds_toArray, List.set_cons_zero, List.set_cons_succ])
      refine PlanV.exec2 (fun K hK => ⟨by kernel_rfl, ?_⟩)
      go_simp
      go_at_call 44
      (with_reducible refine HA.out.mono ?_)
      rintro e w7 ⟨u, rfl, hu, hb7⟩
      obtain ⟨ua, uc, rfl, _, _⟩ := hu.read.form
      have HU := Lib.hid hu
      have HB7 := Lib.hid hb7
      have HB67 := Lib.hid (show Below w.heap.size w6 w7 from hb7.mono HB6.out.size)
      have HMA := Lib.hid (by have := dmany_at (GDAt.below7 hga6.out hb7) hok.out; rw [HMN.out] at this; exact this)
      clear hu hb7
      go_wp2_with fail
      refine hK.out _ _ (fun z => Below w7.heap.size w7 z) HB67.out (Below.refl _ _) trivial ?_
      clear hK K
      (try simp only [Act.put, List.setIfInBounds_toArray, List.set_cons_zero, List.set_cons_succ])
      refine PlanV.take0 (v := .string (strB b)) (by kernel_rfl) ?yF11 ?rF11
      case yF11 => (intro wz hz; have hz2 : Below w7.heap.size w7 wz := hz.2; have q2 := rdB_convert (P := Try.prog) (RdB.below HU.out.read hz2 (Nat.le_refl _)) 32 5 9 Try.underlying32 Try.underlying5 Try.underlying9; go_simp)
      (try simp only [Act.put, List.setIfInBounds_toArray, List.set_cons_zero, List.set_cons_succ])
      refine PlanV.exec2 (fun K hK => ⟨by kernel_rfl, ?_⟩)
      go_simp
      go_at_call 45
      (with_reducible refine HMA.out.mono ?_)
      rintro e w8 ⟨rfl, rfl⟩
      go_wp2_with fail
      refine hK.out _ _ (fun _ => True) ⟨HB67.out, Below.refl _ _⟩ trivial trivial ?_
      clear hK K
      (try simp only [Act.put, List.setIfInBounds_toArray, List.set_cons_zero, List.set_cons_succ])
      refine PlanV.take0 (v := ?vF14) (by kernel_rfl) ?yF14 ?rF14
      case yF14 => (intro wz hz; go_simp; try with_reducible rfl)
      (try simp only [Act.put, List.setIfInBounds_toArray, List.set_cons_zero, List.set_cons_succ])
      refine PlanV.exec2 (fun K hK => ⟨by kernel_rfl, ?_⟩)
      go_simp
      refine hK.out _ _ (fun _ => True) ⟨⟨HB67.out.alloc (by have := HB7.out.size; have := HB6.out.size; omega) _, (Below.refl _ _).alloc (Nat.le_refl _) _⟩, trivial⟩ trivial trivial ?_
      clear hK K
      (try simp only [Act.put, List.setIfInBounds_toArray, List.set_cons_zero, List.set_cons_succ])
      refine PlanV.exec3 (fun K hK => ⟨by kernel_rfl, ?_⟩)
      refine wp_append_at (.tmp 29) (.tmp 44) 38 rfl 80 3 40 (.agg #[.string ⟨#[]⟩, .string ⟨#[]⟩, .int .i64 0]) Try.underlying38 info_afile rfl (by decide) (.slice la0 k lc0) _ k 1 (fiCells (m.list.take k)) (fiCells [(x.1, b, mn)]) rfl rfl ?own ?rd (fi_one _) (by omega) (by unfold maxLen; omega) ?_
      case own => exact own_kept (own_base HL6.out fun _ _ => Nat.zero_le _) (R := fun j => j < w6.heap.size) (Kept.of (HB7.out.alloc HB7.out.size _) fun _ h => h) fun j e => own_lt HL6.out j e
      case rd => exact ⟨_, 1, rfl, Nat.le_refl _, by unfold maxLen; omega, rfl, .inr ⟨w7.heap.size, 0, rfl, by simp, fun j u hj => by rw [blk_cell (heap_alloc_new w7 _)]; simpa [fiCells] using hj⟩⟩
      intro v9 w9 ho9 hm9
      have HO9 := Lib.hid ho9
      have HM9 := Lib.hid hm9
      clear ho9 hm9
      refine hK.out _ _ trivial ?_
      clear hK K
      (try simp only [Act.put, List.setIfInBounds_toArray, List.set_cons_zero, List.set_cons_succ])
      refine PlanV.take1 (v := ?vF17) (by kernel_rfl) ?yF17 ?rF17
      case yF17 => (intro wz hz; go_simp; try with_reducible rfl)
      (try simp only [Act.put, List.setIfInBounds_toArray, List.set_cons_zero, List.set_cons_succ])
      refine PlanV.done (NoPanic.normal ?_)
      go_wp2
      go_roundw
      case rel =>
        have hB9 : Below w.heap.size w w9 := (HB6.out.trans (HB67.out.alloc (by have := HB7.out.size; have := HB6.out.size; omega) _)).grown HM9.out.grown (by have := HB7.out.size; have := HB6.out.size; simp; omega) (fun j e => (World.ownsRow.lt HL6.out j e).1)
        have e1 : fiCells (m.list.take (k + 1)) = fiCells (m.list.take k) ++ fiCells [(x.1, b, mn)] := by rw [HST.out]; simp [fiCells]
        refine ⟨k + 1, v9, by omega, by go_num, rfl, Lib.hid ?_, Lib.hid hB9⟩
        rw [e1]
        refine own_base HO9.out fun j e => ?_
        rcases HM9.out.at_ j e with h | h
        · exact (World.ownsRow.lt HL6.out j h).1
        · have h1 := h.1; have := HB7.out.size; have := HB6.out.size; simp at h1; omega
      case measure => simp [intOf]; omega
    · go_wp2
      go_ret
      refine ⟨u0, rfl, ?_, HBR.out⟩
      have hl := HL.out
      rw [show k = m.list.length from by have := HML.out; omega, List.take_length] at hl
      exact hl
end Go.Proofs.Ytfeogoihkpclcaa

/-
  The document's disk falls: plain facts.
-/
namespace Go.Proofs.Ytfeogoihkpclcaa
open Go.RowKit

theorem fall_len (p : DP) : ∀ (l : DB) (i : Nat) (fs : List DF), (fallFiles p l i fs).length = fs.length
  | [], _, _ => rfl
  | x :: r, i, fs => by
    unfold fallFiles
    rw [fall_len p r (i + 1), List.length_set]

theorem fall_other (p : DP) (id : Nat) : ∀ (l : DB) (i : Nat) (fs : List DF), (∀ x ∈ l, x.2 ≠ id) → (fallFiles p l i fs).getD id DF.none_ = fs.getD id DF.none_
  | [], _, _, _ => rfl
  | x :: r, i, fs, h => by
    unfold fallFiles
    rw [fall_other p id r (i + 1) _ (fun y hy => h y (by simp [hy])), List.getD_eq_getElem?_getD, List.getElem?_set_ne (h x (by simp)), ← List.getD_eq_getElem?_getD]

theorem fall_step (p : DP) (l : DB) (fs : List DF) {i : Nat} {x : List UInt8 × Nat} (hx : l[i]? = some x) (hnd : (l.map (·.2)).Nodup) :
    fallFiles p (l.take (i + 1)) 0 fs = (fallFiles p (l.take i) 0 fs).set x.2 ((fs.getD x.2 DF.none_).fallen (p.left i (fs.getD x.2 DF.none_).many)) ∧ (fallFiles p (l.take i) 0 fs).getD x.2 DF.none_ = fs.getD x.2 DF.none_ := by
  obtain ⟨hi, hxi⟩ := List.getElem?_eq_some_iff.1 hx
  have ho : (fallFiles p (l.take i) 0 fs).getD x.2 DF.none_ = fs.getD x.2 DF.none_ := fall_other p x.2 _ _ _ fun y hy e => by
    obtain ⟨j, hj⟩ := List.getElem?_of_mem hy
    have hj' : j < i := by
      rcases Nat.lt_or_ge j i with h | h
      · exact h
      · rw [List.getElem?_eq_none (by rw [List.length_take]; omega)] at hj; cases hj
    rw [List.getElem?_take_of_lt hj'] at hj
    have h1 : (l.map (·.2))[j]? = (l.map (·.2))[i]? := by rw [List.getElem?_map, List.getElem?_map, hj, hx]; simp [e]
    have := (List.getElem?_inj (by rw [List.length_map]; omega) hnd).1 h1
    omega
  refine ⟨?_, ho⟩
  rw [List.take_succ_eq_append_getElem hi, hxi, fallFiles_snoc, ho, List.length_take, Nat.min_eq_left (by omega), Nat.zero_add]

/-- A file that falls, behind so many of its writes. -/
structure KS (F : DF) (L k left : Nat) (b : List UInt8) : Prop where
  eq : kept (F.loose.drop k) left b = kept F.loose L F.safe
  full : 0 < left → b = (F.loose.take k).foldl (fun b p => wr b p.1 p.2) F.safe
  len : b.length ≤ F.safe.length + manyL (F.loose.take k)

theorem KS.start (F : DF) (L : Nat) : KS F L 0 L F.safe := ⟨rfl, fun _ => rfl, by simp [manyL]⟩

theorem kept_nought : ∀ (l : List (Nat × List UInt8)) (b : List UInt8), kept l 0 b = b
  | [], _ => rfl
  | _ :: _, _ => by simp [kept]

theorem KS.stop {F : DF} {L k left : Nat} {b : List UInt8} (h : KS F L k left b) (hs : F.loose.length ≤ k ∨ left = 0) : kept F.loose L F.safe = b := by
  rw [← h.eq]
  rcases hs with hs | hs
  · rw [List.drop_eq_nil_of_le hs]; rfl
  · subst hs; exact kept_nought _ _

theorem KS.at_ {F : DF} {L k left : Nat} {b : List UInt8} {x : Nat × List UInt8} (h : KS F L k left b) (hx : F.loose[k]? = some x) (hl : 0 < left) (hw : WOk F.safe F.loose) : x.1 ≤ b.length := by
  rw [h.full hl]
  exact wok_at hw hx

theorem KS.next {F : DF} {L k left : Nat} {b : List UInt8} {x : Nat × List UInt8} (h : KS F L k left b) (hx : F.loose[k]? = some x) (hl : 0 < left) (hw : WOk F.safe F.loose) :
    KS F L (k + 1) (left - min left x.2.length) (wr b x.1 (x.2.take (min left x.2.length))) := by
  obtain ⟨hk, hxk⟩ := List.getElem?_eq_some_iff.1 hx
  have hat := h.at_ hx hl hw
  have htk : x.2.take (min left x.2.length) = x.2.take left := by
    rcases Nat.le_total left x.2.length with h1 | h1
    · rw [Nat.min_eq_left h1]
    · rw [Nat.min_eq_right h1, List.take_length, List.take_of_length_le h1]
  have hlf : left - min left x.2.length = left - x.2.length := by omega
  rw [htk, hlf]
  refine ⟨?_, fun h0 => ?_, ?_⟩
  · rw [← h.eq, List.drop_eq_getElem_cons hk, hxk]
    conv => rhs; unfold kept
    rw [if_neg (by omega)]
  · rw [List.take_succ_eq_append_getElem hk, List.foldl_append, hxk, ← h.full hl, List.take_of_length_le (by omega)]
    rfl
  · rw [wr_length _ _ _ hat, List.length_take, List.take_succ_eq_append_getElem hk, hxk]
    have hm : manyL (F.loose.take k ++ [x]) = manyL (F.loose.take k) + x.2.length := by simp [manyL]
    rw [hm]
    have := h.len
    omega

theorem rd_prefix {w : World} {a : Option Addr} {cap : Nat} {l : List UInt8} (h : RdB w (.slice a l.length cap) l) (k : Nat) (hk : k ≤ l.length) : RdB w (.slice a (l.take k).length cap) (l.take k) := by
  obtain ⟨a', cap', hv, h1, h2, _, h3⟩ := h
  cases hv
  have hl : (l.take k).length = k := by rw [List.length_take]; omega
  refine ⟨a, cap, rfl, by omega, h2, by simp, ?_⟩
  rcases h3 with ⟨h3, h4⟩ | ⟨b, off, rfl, h4, h5⟩
  · exact .inl ⟨by omega, h4⟩
  · refine .inr ⟨b, off, rfl, h4, fun j u hj => h5 j u ?_⟩
    rw [List.map_take, List.getElem?_take] at hj
    split at hj
    · exact hj
    · cases hj

/-- What a fall asks of a disk. -/
structure DFa (m : DM) (p : DP) : Prop where
  sm : DSm m
  pre : ∀ j, j ≤ m.loose.length → ((m.loose.take j).foldl dchanged m.old).length < 100000 ∧ DFo m ((m.loose.take j).foldl dchanged m.old)
  cid : ∀ c ∈ m.loose, c.id < 100000
  nod : ((m.names_ p).map (·.2)).Nodup
  kl : p.keep.length < 1000000
  nn : -9223372036854775808 ≤ p.names ∧ p.names ≤ 9223372036854775807
  kn : ∀ z ∈ p.keep, -9223372036854775808 ≤ z ∧ z ≤ 9223372036854775807

theorem redo_step (m : DM) {j : Nat} {c : DC} (hc : m.loose[j]? = some c) : (m.loose.take (j + 1)).foldl dchanged m.old = dchanged ((m.loose.take j).foldl dchanged m.old) c := by
  obtain ⟨hj, hcj⟩ := List.getElem?_eq_some_iff.1 hc
  rw [List.take_succ_eq_append_getElem hj, List.foldl_append, hcj]
  rfl
theorem fall_meas {n k : Nat} (h : k < n) : n - (intOf (.int .i64 ((k + 1 : Nat) : Int))).toNat < n - (intOf (.int .i64 (k : Int))).toNat := by
  simp [intOf]
  omega
end Go.Proofs.Ytfeogoihkpclcaa

/-
  What the sizes of two disks that are alike tell: what the contracts of both ask.
-/
namespace Go.Proofs.Ytfeogoihkpclcaa

section
variable {d : PD} {m : DM} {k : Nat} {s : Nat → Nat}

theorem mp_len (s : Nat → Nat) (l : DB) : (mp s l).length = l.length := by unfold mp; rw [List.length_map]
theorem mp_mem {s : Nat → Nat} {l : DB} {x : List UInt8 × Nat} (h : x ∈ mp s l) : ∃ y ∈ l, y.1 = x.1 ∧ s y.2 = x.2 := by
  unfold mp at h
  obtain ⟨y, hy, rfl⟩ := List.mem_map.1 h
  exact ⟨y, hy, rfl, rfl⟩

theorem sim_dsm (h : Sim s d m) (hd : DInv d k) (hk : k ≤ 1000) (hf : m.files.length ≤ 1000) : DSm m := by
  have h1 := hd.calls
  have h2 := hd.names
  have h3 := names_len hd
  have hlt : ∀ {l : DB} {x : List UInt8 × Nat}, NOk l d.files.length → x ∈ mp s l → x.2 < 100000 := by
    intro l x hn hx
    obtain ⟨y, hy, _, e⟩ := mp_mem hx
    have := h.lt y.2 (hn.ids y hy)
    omega
  have h0 : NOk d.safe d.files.length := by have := hd.pre 0; simpa [PD.redone] using this
  exact ⟨by rw [h.calls]; omega, by rw [h.calls]; omega, by rw [h.now, mp_len]; omega, by rw [h.old, mp_len]; omega, by rw [h.loose, List.length_map]; omega,
    fun x hx => by rw [h.now] at hx; exact hlt hd.nok hx, fun x hx => by rw [h.old] at hx; exact hlt h0 hx, by omega⟩

theorem sim_fok (h : Sim s d m) (hd : DInv d k) (hk : k ≤ 300) {l : DB} (hl : NOk l d.files.length) : DFo m (mp s l) := by
  intro x hx
  obtain ⟨y, hy, _, e⟩ := mp_mem hx
  have hid := hl.ids y hy
  rw [← e]
  refine ⟨h.lt _ hid, ?_⟩
  rw [h.fls _ hid]
  have hb := hd.fb _ (file_of hid)
  have h1 := hb.size
  have h2 := hb.num
  exact ⟨hb.wok, by show (d.file y.2).loose.length < 1000; omega, by show (d.file y.2).safe.length + manyL (d.file y.2).loose < 100000; omega⟩

theorem sim_now (h : Sim s d m) (hd : DInv d k) (hk : k ≤ 300) : DFo m m.now := by
  rw [h.now]
  exact sim_fok h hd hk hd.nok

theorem mp_nod {n : Nat} {l : DB} (hl : NOk l n) (hinj : ∀ i j, i < n → j < n → s i = s j → i = j) : ((mp s l).map (·.2)).Nodup := by
  unfold mp
  have e : (l.map fun x => (x.1, s x.2)).map (·.2) = (l.map (·.2)).map s := by rw [List.map_map, List.map_map]; rfl
  rw [e]
  have hm : ∀ i ∈ l.map (·.2), i < n := by
    intro i hi
    obtain ⟨y, hy, rfl⟩ := List.mem_map.1 hi
    exact hl.ids y hy
  have key : ∀ (r : List Nat), r.Nodup → (∀ i ∈ r, i < n) → (r.map s).Nodup := by
    intro r
    induction r with
    | nil => intro _ _; exact List.nodup_nil
    | cons a t ih =>
      intro hn hi
      rw [List.nodup_cons] at hn
      rw [List.map_cons, List.nodup_cons]
      refine ⟨fun hmem => ?_, ih hn.2 fun i h => hi i (List.mem_cons_of_mem _ h)⟩
      obtain ⟨b, hb, e⟩ := List.mem_map.1 hmem
      have := hinj b a (hi b (List.mem_cons_of_mem _ hb)) (hi a (List.mem_cons_self ..)) e
      subst this
      exact hn.1 hb
  exact key _ hl.nod hm

theorem sim_dfa (h : Sim s d m) (hd : DInv d k) (hk : k ≤ 300) (hf : m.files.length ≤ 1000) (p : DP) (hkl : p.keep.length ≤ 50) (hnn : -9223372036854775808 ≤ p.names ∧ p.names ≤ 9223372036854775807) (hkn : ∀ z ∈ p.keep, -9223372036854775808 ≤ z ∧ z ≤ 9223372036854775807) : DFa m p := by
  have hll : m.loose.length = d.loose.length := by rw [h.loose, List.length_map]
  have hnl := hd.names
  refine ⟨sim_dsm h hd (by omega) hf, ?_, ?_, ?_, by omega, hnn, hkn⟩
  · intro j hj
    rw [redo_alike h hd j (by omega)]
    refine ⟨?_, sim_fok h hd hk (hd.pre j)⟩
    have := redone_len d j
    rw [mp_len]
    omega
  · intro c hc
    rw [h.loose] at hc
    obtain ⟨y, hy, rfl⟩ := List.mem_map.1 hc
    have hc := hd.cok y hy
    unfold cv
    by_cases e : y.kind = 0
    · rw [if_pos e]
      have := h.lt _ (hc.made e).2.2.1
      show s y.file < 100000
      omega
    · rw [if_neg e]
      by_cases e1 : y.kind = 1
      · rw [if_pos e1]; show 0 < 100000; omega
      · rw [if_neg e1]; show 0 < 100000; omega
  · have e : ∃ j, m.names_ p = (m.loose.take j).foldl dchanged m.old ∧ j ≤ d.loose.length := by
      refine ⟨rest p.names m.loose.length, rfl, ?_⟩
      rw [hll]; exact rest_le _ _
    obtain ⟨j, e1, hj⟩ := e
    rw [e1, redo_alike h hd j hj]
    exact mp_nod (hd.pre j) h.inj
end
end Go.Proofs.Ytfeogoihkpclcaa
