import Derived.Test.YteeikmpfgbfeoaaMg09
import Derived.Test.YteeikmpfgbfeoaaMg00
import Derived.Test.YteeikmpfgbfeoaaMg01
import Derived.Deep.Cut
import Derived.Test.YteeikmpfgbfeoaaMg05

/-
  Tables: open: a table is read.
-/
namespace Go.Proofs.Yteeikmpfgbfeoaa
open Go.RowKit

/-- What open tells. -/
def RetOpen (w : World) (b : List UInt8) (e : Ending) (w' : World) : Prop :=
  match getT b with
  | none => e = .returned (.tuple #[.agg #[.int .i64 0, .slice none 0 0, .slice none 0 0, .slice none 0 0], .bool false]) ∧ Below w.heap.size w w'
  | some (es, f) => ∃ (ps : List (List Ent)) (per : Nat) (ve vr vf : Value), e = .returned (.tuple #[.agg #[.int .i64 (per : Int), ve, vr, vf], .bool true]) ∧ OwnE w' w.heap.size ve es ∧ OwnR w' w.heap.size vr (rowsQ ps) ∧ OwnB w' w.heap.size 5 vf f ∧
      Seen b ps ∧ ps.flatten = es ∧ ps ≠ [] ∧ Below w.heap.size w w'

theorem atT_pos {b : List UInt8} {es : List Ent} {per : Nat} {f : List UInt8} (h : IsTabP b es per f) (hb : b.length ≤ 1000000) : 0 < atT b := by
  rw [h.at_ (by omega)]
  have h1 := (nBlk_lt (es := es) h.1 0).2 (by have := List.length_pos_iff.2 h.2.2.1.2.1; omega)
  have h2 := tabB_lt es per h1
  omega
theorem rest_rd {w : World} {bb off len cap m : Nat} {l : List UInt8} (h : RdB w (.slice (some ⟨bb, off, none⟩) len cap) l) (hm : m ≤ len) : RdB w (.slice (if cap = m then some ⟨bb, off, none⟩ else some ⟨bb, off + m, none⟩) (len - m) (cap - m)) (l.drop m) := by
  obtain ⟨a', cap', hv, h1, h2, h0, h3⟩ := h
  injection hv with hva hvl hvc
  subst hva hvc
  rw [← hvl] at h1 h0 h3
  refine ⟨_, _, by rw [List.length_drop]; congr 1; omega, by rw [List.length_drop]; omega, by omega, by simp, ?_⟩
  by_cases hc : cap = m
  · rw [if_pos hc]
    left
    refine ⟨by rw [List.length_drop]; omega, fun h => (by cases h)⟩
  · rw [if_neg hc]
    by_cases hlm : len = m
    · left
      exact ⟨by rw [List.length_drop]; omega, fun h => (by cases h)⟩
    · rcases h3 with ⟨h3, _⟩ | ⟨b', off', hb, h4, h5⟩
      · omega
      · cases hb
        refine .inr ⟨bb, off + m, rfl, h4, fun j u hj => ?_⟩
        rw [Nat.add_assoc]
        refine h5 (m + j) u ?_
        rw [List.getElem?_map, List.getElem?_drop] at hj
        rw [List.getElem?_map]
        exact hj

set_option maxRecDepth 100000 in
set_option maxHeartbeats 1000000 in
theorem open_any (v : Value) (b : List UInt8) (w : World) (hv : RdB w v b) (hl : b.length ≤ 1000000) : Calls Try.prog 29 #[v] w (RetOpen w b) := by
  have HV := Lib.hid hv
  obtain ⟨va, vc, rfl, hc1, hc2⟩ := hv.form
  unfold maxLen at hc2
  have hwf : IntKind.i64.wrap ((b.length : Int) - 16) = (b.length : Int) - 16 := IntWalk.i64_in _ (by omega)
  have hbe1 := (Below.refl w.heap.size w).alloc (Nat.le_refl _) (.cells #[.int .i64 0, .slice none 0 0, .slice none 0 0, .slice none 0 0] 74)
  have HBE1 := Lib.hid hbe1
  by_cases h16 : b.length < 16
  · have HNO : Hid (getT b = none) := Lib.hid (getT_none fun es f ⟨per, h⟩ => by have := IsTabP.len (show IsTabP b es per f from h); omega)
    have HF := Lib.hid (getFixed_out (.slice va b.length vc) b ((b.length : Int) - 16) 4 (by omega) (by omega) _ (hv.below hbe1 (Nat.le_refl _)))
    clear hv hbe1
    go_enter Try.func29, Try.ntmps29
    go_wp2_with (go_at_call 49; (refine HF.out.mono ?_); rintro e w1 ⟨rfl, rfl⟩)
    refine bodyPost_ret (results_row_tmp rfl _ _ w.heap.size 74 #[.int .i64 0, .slice none 0 0, .slice none 0 0, .slice none 0 0] (0, 0) _ rfl (heap_alloc_new w _) Try.underlying74 rfl (by kernel_rfl)) rfl ?_
    unfold RetOpen
    rw [HNO.out]
    exact ⟨rfl, HBE1.out⟩
  · obtain ⟨m, hm⟩ : ∃ m, b.length = m + 16 := ⟨b.length - 16, by omega⟩
    have hgf := getFixed_yes (.slice va b.length vc) b m 4 (by omega) (by omega) _ (hv.below hbe1 (Nat.le_refl _))
    have hat : valL ((b.drop m).take 4) = atT b := by unfold atT; rw [hm, Nat.add_sub_cancel]
    rw [hat, show (m : Int) = (b.length : Int) - 16 by omega] at hgf
    have HF := Lib.hid hgf
    have hat2 : atT b < 4294967296 := by
      have := valL_lt ((b.drop m).take 4)
      rw [hat, List.length_take, List.length_drop] at this
      have h4 : min 4 (b.length - m) = 4 := by omega
      rw [h4] at this
      omega
    clear hat hgf hm
    by_cases h0 : atT b = 0
    · have HNO : Hid (getT b = none) := Lib.hid (getT_none fun es f ⟨per, h⟩ => by have := atT_pos (show IsTabP b es per f from h) hl; omega)
      have d0 : ((atT b : Int) == 0) = true := by rw [h0]; rfl
      clear h0 hv hbe1 hat2
      go_enter Try.func29, Try.ntmps29
      go_wp2_with (go_at_call 49; (refine HF.out.mono ?_); rintro e w1 ⟨rfl, rfl⟩)
      refine bodyPost_ret (results_row_tmp rfl _ _ w.heap.size 74 #[.int .i64 0, .slice none 0 0, .slice none 0 0, .slice none 0 0] (0, 0) _ rfl (heap_alloc_new w _) Try.underlying74 rfl (by kernel_rfl)) rfl ?_
      unfold RetOpen
      rw [HNO.out]
      exact ⟨rfl, HBE1.out⟩
    · have d0 : ((atT b : Int) == 0) = false := by
        have : (atT b : Int) ≠ 0 := by omega
        simpa using this
      have HAT0 := Lib.hid h0
      clear h0 hv hbe1
      go_enter Try.func29, Try.ntmps29
      go_wp2_with (go_at_call 49; (refine HF.out.mono ?_); rintro e w1 ⟨rfl, rfl⟩)
      have hz2 := heap_new2 w (.cells #[.int .i64 0, .slice none 0 0, .slice none 0 0, .slice none 0 0] 74) (.cells #[.int .i64 0, .slice none 0 0, .slice none 0 0, .slice none 0 0] 74)
      have hOB0 : OB (w.alloc (.cells #[.int .i64 0, .slice none 0 0, .slice none 0 0, .slice none 0 0] 74)) (w.heap.size + 1) (w.heap.size + 1) ((w.alloc (.cells #[.int .i64 0, .slice none 0 0, .slice none 0 0, .slice none 0 0] 74)).alloc (.cells #[.int .i64 0, .slice none 0 0, .slice none 0 0, .slice none 0 0] 74)) (firstN []) (.slice none 0 0) (.slice none 0 0) (.slice none 0 0) ([] : List (List Ent)).flatten (rowsQ []) := ⟨hz2, World.ownsRow_nil _ _ _ _, World.ownsRow_nil _ _ _ _, (fun _ h => by cases h), (fun h => by cases h), (fun h => by cases h), (Below.refl _ _).alloc (by simp) _, by simp, Nat.le_refl _⟩
      have HOB0 := Lib.hid hOB0
      clear hz2 hOB0
      go_loopw [5, 7] (fun ok i wr => ∃ (ps : List (List Ent)) (ve vr : Value), ok = .bool true ∧ i = .int .i64 ((tabQ ps).length : Int) ∧ Hid (OB (w.alloc (.cells #[.int .i64 0, .slice none 0 0, .slice none 0 0, .slice none 0 0] 74)) (w.heap.size + 1) (w.heap.size + 1) wr (firstN ps) ve vr (.slice none 0 0) ps.flatten (rowsQ ps)) ∧ Hid (Seen b ps) ∧ Hid (Fits b ps)) (fun _ i _ => b.length - (intOf i).toNat)
      case atStart => exact ⟨[], _, _, rfl, rfl, HOB0, Lib.hid (Seen.start b), Lib.hid (Fits.start b)⟩
      case round =>
        obtain ⟨ps, ve, vr, rfl, rfl, HOB, HS, HFT⟩ := hrel
        have HVR : Hid (∀ wz, Below (w.heap.size + 1) (w.alloc (.cells #[.int .i64 0, .slice none 0 0, .slice none 0 0, .slice none 0 0] 74)) wz → RdB wz (.slice va b.length vc) b) := Lib.hid fun wz hz => (HV.out.below HBE1.out (Nat.le_refl _)).below hz (by simp)
        have HPR : Hid (∀ wz, Below (w.heap.size + 1) (w.alloc (.cells #[.int .i64 0, .slice none 0 0, .slice none 0 0, .slice none 0 0] 74)) wz → wz.heap[w.heap.size]? = some (.cells #[.int .i64 0, .slice none 0 0, .slice none 0 0, .slice none 0 0] 74 (0, 0)) ∧ Below w.heap.size w wz) := Lib.hid fun wz hz => ⟨(hz.block _ (by omega)).trans (heap_alloc_new w _), HBE1.out.trans (hz.mono (by omega))⟩
        by_cases hlt : (tabQ ps).length < atT b
        · have d1 : ((tabQ ps).length : Int) < (atT b : Int) := by omega
          by_cases hgood : ∃ x, frOk b (tabQ ps).length = true ∧ getB (frP b (tabQ ps).length) = some x ∧ NextOk ps x
          · obtain ⟨x, hf, hx, hn⟩ := hgood
            obtain ⟨hS2, hln⟩ := HS.out.more hf hx hn.1 hn.2.1 hn.2.2
            have hF2 := HFT.out.more hl hlt hx
            have hfl := frOk_le hf
            have HAD : Hid (Calls Try.prog 50 #[.pointer (some ⟨w.heap.size + 1, 0, none⟩), .slice va b.length vc, .int .i64 ((tabQ ps).length : Int)] wr fun e w' => e = .returned (.tuple #[.int .i64 ((tabQ (ps ++ [x])).length : Int), .bool true]) ∧ ∃ ve' vr', OB (w.alloc (.cells #[.int .i64 0, .slice none 0 0, .slice none 0 0, .slice none 0 0] 74)) (w.heap.size + 1) (w.heap.size + 1) w' (firstN (ps ++ [x])) ve' vr' (.slice none 0 0) (ps ++ [x]).flatten (rowsQ (ps ++ [x]))) := Lib.hid (by
              refine (add_any HOB.out (by simp) (HV.out.below HBE1.out (Nat.le_refl _)) hl HS.out).mono ?_
              rintro e w' ⟨_, ⟨y, ve', vr', _, hy, _, rfl, hob⟩ | ⟨hno, _⟩⟩
              · rw [hx] at hy
                cases hy
                exact ⟨rfl, ve', vr', hob⟩
              · rcases hno with h | h | ⟨y, hy, h⟩
                · rw [hf] at h; cases h
                · rw [hx] at h; cases h
                · rw [hx] at hy
                  cases hy
                  exact absurd hn h)
            generalize ps ++ [x] = PS at *
            have HS2 := Lib.hid hS2
            have HF2 := Lib.hid hF2
            have hgt : (tabQ ps).length < (tabQ PS).length := by omega
            have hgl : (tabQ PS).length ≤ b.length := by omega
            have HGT := Lib.hid hgt
            have HGL := Lib.hid hgl
            clear hf hx hn hS2 hln hF2 hfl hlt hgt hgl
            go_wp2_with (go_at_call 50; (refine HAD.out.mono ?_); rintro e u1 ⟨rfl, ve', vr', hob⟩; have HOB' := Lib.hid hob; clear hob)
            refine ⟨⟨PS, ve', vr', rfl, rfl, HOB', HS2, HF2⟩, ?_⟩
            have h1 := HGT.out
            have h2 := HGL.out
            simp [intOf]
            omega
          · have HNO : Hid (getT b = none) := Lib.hid (getT_none fun es f ⟨per, h⟩ => by
              obtain ⟨k1, k2, _, _⟩ := HFT.out.one hl hlt (show IsTabP b es per f from h)
              exact hgood ⟨_, k1, k2, HFT.out.takes hl hlt k2 (show IsTabP b es per f from h)⟩)
            have HAD : Hid (Calls Try.prog 50 #[.pointer (some ⟨w.heap.size + 1, 0, none⟩), .slice va b.length vc, .int .i64 ((tabQ ps).length : Int)] wr fun e w' => e = .returned (.tuple #[.int .i64 0, .bool false]) ∧ Below (w.heap.size + 1) (w.alloc (.cells #[.int .i64 0, .slice none 0 0, .slice none 0 0, .slice none 0 0] 74)) w') := Lib.hid (by
              refine (add_any HOB.out (by simp) (HV.out.below HBE1.out (Nat.le_refl _)) hl HS.out).mono ?_
              rintro e w' ⟨hb, ⟨y, _, _, hf, hy, hn, _⟩ | ⟨_, rfl⟩⟩
              · exact absurd ⟨y, hf, hy, hn⟩ hgood
              · exact ⟨rfl, hb⟩)
            clear hgood hlt
            go_wp2_with (go_at_call 50; (refine HAD.out.mono ?_); rintro e u1 ⟨rfl, hb1⟩; obtain ⟨hrow, hbu⟩ := HPR.out _ hb1; have HBU := Lib.hid hbu; clear hbu hb1; have s0 := blk_cell (i := 0) hrow; have t0 := blk_free (i := 0) hrow; have s1 := blk_cell (i := 1) hrow; have t1 := blk_free (i := 1) hrow; have s2 := blk_cell (i := 2) hrow; have t2 := blk_free (i := 2) hrow; have s3 := blk_cell (i := 3) hrow; have t3 := blk_free (i := 3) hrow; simp only [List.getElem?_toArray, List.getElem?_cons_zero, List.getElem?_cons_succ] at s0 s1 s2 s3; have HROW := Lib.hid hrow; clear hrow)
            refine bodyPost_ret (results_row_tmp rfl _ _ w.heap.size 74 #[.int .i64 0, .slice none 0 0, .slice none 0 0, .slice none 0 0] (0, 0) _ rfl ?hgC Try.underlying74 rfl (by kernel_rfl)) rfl ?_
            case hgC => exact (set4 HROW.out rfl rfl rfl rfl).1
            unfold RetOpen
            rw [HNO.out]
            exact ⟨rfl, (set4 HROW.out rfl rfl rfl rfl).2 _ (Nat.le_refl _) _ (HBU.out)⟩
        · have d1 : ¬ ((tabQ ps).length : Int) < (atT b : Int) := by omega
          have HEND := Lib.hid (fun es f per (h : IsTabP b es per f) => HFT.out.end_ hl hlt h)
          have hne : ps ≠ [] := by
            rintro rfl
            exact hlt (by show (tabQ []).length < atT b; have := HAT0.out; simp only [tabQ, List.flatMap_nil, List.length_nil]; omega)
          have HNE := Lib.hid hne
          clear hne
          have hTLb : (tabQ ps).length ≤ b.length := by
            have := congrArg List.length HS.out.bytes
            rw [List.length_take] at this
            omega
          have HTLB := Lib.hid hTLb
          have HRL : Hid ((rowsQ ps).length ≤ 256) := Lib.hid (by rw [rowsQ_len]; exact HS.out.len)
          have HRK := Lib.hid (rowsQ_ok HS.out.ok HS.out.len)
          have HTAB := Lib.hid (fun ho hr he => HS.out.table HNE.out ho hr he)
          have HOBX : Hid (∃ (FL : List Ent), ps.flatten = FL) := Lib.hid ⟨_, rfl⟩
          have hfew := HS.out.few
          have hff : ∀ e ∈ ps.flatten, e.fits := fun e he => by
            obtain ⟨p, hp, he⟩ := List.mem_flatten.1 he
            exact Ent.may_fits (rising_all (putErr_ok (HS.out.ok p hp)).1 e he)
          have HFIN := Lib.hid (fun (f : List UInt8) (hg : getT b = some (ps.flatten, f)) (w' : World) (ve' vr' vf' : Value) (h1 : OwnE w' w.heap.size ve' ps.flatten) (h2 : OwnR w' w.heap.size vr' (rowsQ ps)) (h3 : OwnB w' w.heap.size 5 vf' f) (h4 : Below w.heap.size w w') => (show RetOpen w b (.returned (.tuple #[.agg #[.int .i64 (firstN ps : Int), ve', vr', vf'], .bool true])) w' by
            unfold RetOpen
            rw [hg]
            exact ⟨ps, firstN ps, ve', vr', vf', rfl, h1, h2, h3, HS.out, rfl, HNE.out, h4⟩))
          have hg : ∀ wz, Below (w.heap.size + 1) (w.alloc (.cells #[.int .i64 0, .slice none 0 0, .slice none 0 0, .slice none 0 0] 74)) wz → Calls Try.prog 51 #[.slice va b.length vc, .int .i64 ((tabQ ps).length : Int)] wz (GetFr wz b ((tabQ ps).length : Int)) := fun wz hz => fget_any wz _ b _ (HVR.out wz hz) (by omega) (by omega)
          clear HOBX
          generalize ps.flatten = FL at *
          have HFE := Lib.hid hfew
          have HFF := Lib.hid hff
          clear hff
          clear hfew hTLb hlt
          obtain ⟨ea, ec, hve, _, _⟩ := HOB.out.ents.form
          subst hve
          obtain ⟨ra, rc, hvr, _, _⟩ := HOB.out.rows.form
          subst hvr
          cases hf : frOk b (tabQ ps).length with
          | false =>
            have HNO : Hid (getT b = none) := Lib.hid (getT_none fun es f ⟨per, h⟩ => by
              have := (HEND.out es f per h).2.1
              rw [hf] at this
              cases this)
            have HG : Hid (∀ wz, Below (w.heap.size + 1) (w.alloc (.cells #[.int .i64 0, .slice none 0 0, .slice none 0 0, .slice none 0 0] 74)) wz → Calls Try.prog 51 #[.slice va b.length vc, .int .i64 ((tabQ ps).length : Int)] wz fun e w' => e = .returned (.tuple #[.slice none 0 0, .int .i64 0, .bool false]) ∧ Below wz.heap.size wz w') := Lib.hid fun wz hz => by
              refine (hg wz hz).mono ?_
              rintro e w' (⟨_, rfl, hb⟩ | ⟨p, hp, ho, _⟩)
              · exact ⟨rfl, hb⟩
              · obtain rfl : p = (tabQ ps).length := by omega
                rw [hf] at ho
                cases ho
            clear hg hf
            go_upto_region 11 with (go_at_call 51; (refine (HG.out _ HOB.out.be).mono ?_); rintro e u5 ⟨rfl, hb5⟩; have HOB5 := Lib.hid ((HOB.out.call hb5).call (Below.refl _ _).drew); clear hb5)
            refine wp_region_two (fun wz => wz.cell? ⟨w.heap.size + 1, 1, none⟩ = some (.slice ea FL.length ec) ∧ wz.cell? ⟨w.heap.size + 1, 2, none⟩ = some (.slice ra (rowsQ ps).length rc)) (fun _ => True) [(0, 0), (0, 1), (0, 2), (0, 3), (0, 4), (2, 5), (0, 6), (0, 7), (0, 8), (0, 9), (0, 10), (0, 11), (0, 12), (0, 13), (0, 14), (0, 15), (0, 16), (0, 17), (0, 18), (2, 19), (2, 20), (0, 21), (0, 22)] [] (by kernel_rfl) (by kernel_rfl) (by kernel_rfl) (by kernel_rfl) (by kernel_rfl) ⟨HOB5.out.cell 1, HOB5.out.cell 2⟩ trivial ?_
            simp only [planT, List.drop_succ_cons, List.drop_zero]
            refine PlanT.take0 (v := ?vQ0) (by kernel_rfl) ?yQ0 ?rQ0
            case yQ0 => (intro wz hz; have z1 := hz.1; have z2 := hz.2; go_simp; try with_reducible rfl)
            (try simp only [Act.put, List.setIfInBounds_toArray, List.set_cons_zero, List.set_cons_succ])
            refine PlanT.take0 (v := .bool true) (by kernel_rfl) ?yQ1 ?rQ1
            case yQ1 => (intro wz hz; have z1 := hz.1; have z2 := hz.2; go_simp; try with_reducible rfl)
            (try simp only [Act.put, List.setIfInBounds_toArray, List.set_cons_zero, List.set_cons_succ])
            refine PlanT.take0 (v := .bool true) (by kernel_rfl) ?yQ2 ?rQ2
            case yQ2 => (intro wz hz; have z1 := hz.1; have z2 := hz.2; go_simp; try with_reducible rfl)
            (try simp only [Act.put, List.setIfInBounds_toArray, List.set_cons_zero, List.set_cons_succ])
            refine PlanT.skip (by kernel_rfl) ?_
            (try simp only [Act.put, List.setIfInBounds_toArray, List.set_cons_zero, List.set_cons_succ])
            refine PlanT.skip (by kernel_rfl) ?_
            (try simp only [Act.put, List.setIfInBounds_toArray, List.set_cons_zero, List.set_cons_succ])
            refine PlanT.skip (by kernel_rfl) ?_
            (try simp only [Act.put, List.setIfInBounds_toArray, List.set_cons_zero, List.set_cons_succ])
            refine PlanT.skip (by kernel_rfl) ?_
            (try simp only [Act.put, List.setIfInBounds_toArray, List.set_cons_zero, List.set_cons_succ])
            refine PlanT.take0 (v := .bool true) (by kernel_rfl) ?yQ7 ?rQ7
            case yQ7 => (intro wz hz; have z1 := hz.1; have z2 := hz.2; go_simp; try with_reducible rfl)
            (try simp only [Act.put, List.setIfInBounds_toArray, List.set_cons_zero, List.set_cons_succ])
            refine PlanT.take0 (v := .bool true) (by kernel_rfl) ?yQ8 ?rQ8
            case yQ8 => (intro wz hz; have z1 := hz.1; have z2 := hz.2; go_simp; try with_reducible rfl)
            (try simp only [Act.put, List.setIfInBounds_toArray, List.set_cons_zero, List.set_cons_succ])
            refine PlanT.skip (by kernel_rfl) ?_
            (try simp only [Act.put, List.setIfInBounds_toArray, List.set_cons_zero, List.set_cons_succ])
            refine PlanT.skip (by kernel_rfl) ?_
            (try simp only [Act.put, List.setIfInBounds_toArray, List.set_cons_zero, List.set_cons_succ])
            refine PlanT.skip (by kernel_rfl) ?_
            (try simp only [Act.put, List.setIfInBounds_toArray, List.set_cons_zero, List.set_cons_succ])
            refine PlanT.skip (by kernel_rfl) ?_
            (try simp only [Act.put, List.setIfInBounds_toArray, List.set_cons_zero, List.set_cons_succ])
            refine PlanT.skip (by kernel_rfl) ?_
            (try simp only [Act.put, List.setIfInBounds_toArray, List.set_cons_zero, List.set_cons_succ])
            refine PlanT.skip (by kernel_rfl) ?_
            (try simp only [Act.put, List.setIfInBounds_toArray, List.set_cons_zero, List.set_cons_succ])
            refine PlanT.skip (by kernel_rfl) ?_
            (try simp only [Act.put, List.setIfInBounds_toArray, List.set_cons_zero, List.set_cons_succ])
            refine PlanT.skip (by kernel_rfl) ?_
            (try simp only [Act.put, List.setIfInBounds_toArray, List.set_cons_zero, List.set_cons_succ])
            refine PlanT.skip (by kernel_rfl) ?_
            (try simp only [Act.put, List.setIfInBounds_toArray, List.set_cons_zero, List.set_cons_succ])
            refine PlanT.skip (by kernel_rfl) ?_
            (try simp only [Act.put, List.setIfInBounds_toArray, List.set_cons_zero, List.set_cons_succ])
            refine PlanT.skip (by kernel_rfl) ?_
            (try simp only [Act.put, List.setIfInBounds_toArray, List.set_cons_zero, List.set_cons_succ])
            refine PlanT.skip (by kernel_rfl) ?_
            (try simp only [Act.put, List.setIfInBounds_toArray, List.set_cons_zero, List.set_cons_succ])
            refine PlanT.skip (by kernel_rfl) ?_
            (try simp only [Act.put, List.setIfInBounds_toArray, List.set_cons_zero, List.set_cons_succ])
            refine PlanT.take0 (v := ?vQ22) (by kernel_rfl) ?yQ22 ?rQ22
            case yQ22 => (intro wz hz; have z1 := hz.1; have z2 := hz.2; go_simp; try with_reducible rfl)
            (try simp only [Act.put, List.setIfInBounds_toArray, List.set_cons_zero, List.set_cons_succ])
            refine PlanT.done (NoPanic.normal ?_)
            obtain ⟨uw, huw⟩ : ∃ uw, u5.drew = uw := ⟨_, rfl⟩
            rw [huw] at HOB5 ⊢
            clear huw
            obtain ⟨hrow, hbu⟩ := HPR.out _ HOB5.out.be
            have HBU := Lib.hid hbu
            clear hbu
            have s0 := blk_cell (i := 0) hrow
            have t0 := blk_free (i := 0) hrow
            have s1 := blk_cell (i := 1) hrow
            have t1 := blk_free (i := 1) hrow
            have s2 := blk_cell (i := 2) hrow
            have t2 := blk_free (i := 2) hrow
            have s3 := blk_cell (i := 3) hrow
            have t3 := blk_free (i := 3) hrow
            simp only [List.getElem?_toArray, List.getElem?_cons_zero, List.getElem?_cons_succ] at s0 s1 s2 s3
            have HROW := Lib.hid hrow
            clear hrow
            go_wp2
            refine bodyPost_ret (results_row_tmp rfl _ _ w.heap.size 74 #[.int .i64 0, .slice none 0 0, .slice none 0 0, .slice none 0 0] (0, 0) _ rfl ?hgD Try.underlying74 rfl (by kernel_rfl)) rfl ?_
            case hgD => exact (set4 HROW.out rfl rfl rfl rfl).1
            unfold RetOpen
            rw [HNO.out]
            exact ⟨rfl, (set4 HROW.out rfl rfl rfl rfl).2 _ (Nat.le_refl _) _ (HBU.out)⟩
          | true =>
            have hle := frOk_le hf
            have hfl := frP_length hle
            have HLE := Lib.hid hle
            have HG : Hid (∀ wz, Below (w.heap.size + 1) (w.alloc (.cells #[.int .i64 0, .slice none 0 0, .slice none 0 0, .slice none 0 0] 74)) wz → Calls Try.prog 51 #[.slice va b.length vc, .int .i64 ((tabQ ps).length : Int)] wz fun e w' => ∃ u, e = .returned (.tuple #[u, .int .i64 (((tabQ ps).length + 8 + frN b (tabQ ps).length : Nat) : Int), .bool true]) ∧ OwnB w' wz.heap.size 5 u (frP b (tabQ ps).length) ∧ Below wz.heap.size wz w') := Lib.hid fun wz hz => by
              refine (hg wz hz).mono ?_
              rintro e w' (⟨hno, _, _⟩ | ⟨p, hp, _, u, rfl, ho, hb⟩)
              · have := hno _ rfl
                rw [hf] at this
                cases this
              · obtain rfl : p = (tabQ ps).length := by omega
                exact ⟨u, rfl, ho, hb⟩
            have HFO := Lib.hid hf
            clear hg hf
            generalize hM : (tabQ ps).length + 8 + frN b (tabQ ps).length = M at *
            have HRI0 : ∀ xv wz B, OwnE wz B xv FL → (∀ e ∈ FL, e.fits) → Calls Try.prog 21 #[xv] wz fun e w' => e = .returned (.bool (risingB FL)) ∧ Below wz.heap.size wz w' := fun xv wz B h hf => rising_any xv FL wz (h.read hf)
            obtain ⟨bb, bo, hbv⟩ : ∃ bb bo, va = some ⟨bb, bo, none⟩ := by
              obtain ⟨bb, bo, cap, h, _⟩ := HV.out.cells (by rintro rfl; simp at h16)
              cases h
              exact ⟨bb, bo, rfl⟩
            subst hbv
            obtain ⟨sv, hsv⟩ : ∃ sv, sv = (if vc = M then some (⟨bb, bo, none⟩ : Addr) else some ⟨bb, bo + M, none⟩) := ⟨_, rfl⟩
            have HSV := Lib.hid hsv
            clear hsv
            have HEQ : Hid (∀ wz y, Below (w.heap.size + 1) (w.alloc (.cells #[.int .i64 0, .slice none 0 0, .slice none 0 0, .slice none 0 0] 74)) wz → RdB wz y (endB (rowsQ ps) ((tabQ ps).length : Int) (M : Int) (FL.length : Int)) → Calls Try.prog 52 #[.slice sv (b.length - M) (vc - M), y] wz fun e w' => e = .returned (.bool (decide (b.drop M = endB (rowsQ ps) ((tabQ ps).length : Int) (M : Int) (FL.length : Int)))) ∧ Below wz.heap.size wz w') := Lib.hid fun wz y hz hy => by
              have hr := rest_rd (m := M) (HVR.out wz hz) (by omega)
              obtain ⟨ya, yc, rfl, _, _⟩ := hy.form
              rw [← HSV.out] at hr
              have h := equal_any12 wz sv ya (vc - M) yc (b.drop M) _ (by rw [List.length_drop]; exact hr) hy
              rw [List.length_drop] at h
              exact h
            have HPE : Hid (∀ (rv : Value) (wz : World), RdR wz rv (rowsQ ps) → Calls Try.prog 28 #[rv, .int .i64 ((tabQ ps).length : Int), .int .i64 (M : Int), .int .i64 (FL.length : Int)] wz (RetB wz.heap.size wz (endB (rowsQ ps) ((tabQ ps).length : Int) (M : Int) (FL.length : Int)))) := Lib.hid fun rv wz h => putEnd_any rv _ _ _ _ wz h HRK.out HRL.out
            have hMl : M ≤ b.length := by have := HLE.out; omega
            have hM1 : (M : Int) ≤ (b.length : Int) := by omega
            clear hle hM hfl
            cases hr : risingB FL with
            | false =>
              have HNO : Hid (getT b = none) := Lib.hid (getT_none fun es f ⟨per, h⟩ => by
                have := (HEND.out es f per h).2.2.2.1
                rw [hr] at this
                cases this)
              have HRI : Hid (∀ wz, OwnE wz (w.heap.size + 1) (.slice ea FL.length ec) FL → Calls Try.prog 21 #[.slice ea FL.length ec] wz fun e w' => e = .returned (.bool false) ∧ Below wz.heap.size wz w') := Lib.hid fun wz h => by
                have h := HRI0 _ wz _ h HFF.out
                rw [hr] at h
                exact h
              clear hr HRI0
              go_upto_region 11 with (go_at_call 51; (refine (HG.out _ HOB.out.be).mono ?_); rintro e u5 ⟨y5, rfl, ho5, hb5⟩; have HOB5 := Lib.hid ((HOB.out.call hb5).call (Below.refl _ _).drew); clear hb5 ho5)
              refine wp_region_two (fun wz => wz.cell? ⟨w.heap.size + 1, 1, none⟩ = some (.slice ea FL.length ec) ∧ wz.cell? ⟨w.heap.size + 1, 2, none⟩ = some (.slice ra (rowsQ ps).length rc)) (fun _ => True) [(0, 0), (0, 1), (0, 2), (0, 3), (0, 4), (2, 5), (0, 6), (0, 7), (0, 8), (0, 9), (0, 10), (0, 11), (0, 12), (0, 13), (0, 14), (0, 15), (0, 16), (0, 17), (0, 18), (2, 19), (2, 20), (0, 21), (0, 22)] [] (by kernel_rfl) (by kernel_rfl) (by kernel_rfl) (by kernel_rfl) (by kernel_rfl) ⟨HOB5.out.cell 1, HOB5.out.cell 2⟩ trivial ?_
              simp only [planT, List.drop_succ_cons, List.drop_zero]
              refine PlanT.take0 (v := ?vR0) (by kernel_rfl) ?yR0 ?rR0
              case yR0 => (intro wz hz; have z1 := hz.1; have z2 := hz.2; go_simp; try with_reducible rfl)
              (try simp only [Act.put, List.setIfInBounds_toArray, List.set_cons_zero, List.set_cons_succ])
              refine PlanT.take0 (v := .bool false) (by kernel_rfl) ?yR1 ?rR1
              case yR1 => (intro wz hz; have z1 := hz.1; have z2 := hz.2; go_simp; try with_reducible rfl)
              (try simp only [Act.put, List.setIfInBounds_toArray, List.set_cons_zero, List.set_cons_succ])
              refine PlanT.take0 (v := .bool false) (by kernel_rfl) ?yR2 ?rR2
              case yR2 => (intro wz hz; have z1 := hz.1; have z2 := hz.2; go_simp; try with_reducible rfl)
              (try simp only [Act.put, List.setIfInBounds_toArray, List.set_cons_zero, List.set_cons_succ])
              refine PlanT.take0 (v := ?vR3) (by kernel_rfl) ?yR3 ?rR3
              case yR3 => (intro wz hz; have z1 := hz.1; have z2 := hz.2; go_simp; try with_reducible rfl)
              (try simp only [Act.put, List.setIfInBounds_toArray, List.set_cons_zero, List.set_cons_succ])
              refine PlanT.take0 (v := ?vR4) (by kernel_rfl) ?yR4 ?rR4
              case yR4 => (intro wz hz; have z1 := hz.1; have z2 := hz.2; go_simp; try with_reducible rfl)
              (try simp only [Act.put, List.setIfInBounds_toArray, List.set_cons_zero, List.set_cons_succ])
              refine PlanT.exec2 (fun K hK => ⟨by kernel_rfl, ?_⟩)
              go_simp
              refine (HRI.out _ HOB5.out.ents).mono ?_
              rintro e u6 ⟨rfl, hb6⟩
              have HOB6 := Lib.hid (HOB5.out.call hb6)
              skip
              clear hb6
              refine hK.out _ _ ⟨HOB6.out.cell 1, HOB6.out.cell 2⟩ trivial ?_
              clear hK K
              (try simp only [Act.put, List.setIfInBounds_toArray, List.set_cons_zero, List.set_cons_succ])
              refine PlanT.take0 (v := .bool true) (by kernel_rfl) ?yR6 ?rR6
              case yR6 => (intro wz hz; have z1 := hz.1; have z2 := hz.2; go_simp; try with_reducible rfl)
              (try simp only [Act.put, List.setIfInBounds_toArray, List.set_cons_zero, List.set_cons_succ])
              refine PlanT.take0 (v := .bool true) (by kernel_rfl) ?yR7 ?rR7
              case yR7 => (intro wz hz; have z1 := hz.1; have z2 := hz.2; go_simp; try with_reducible rfl)
              (try simp only [Act.put, List.setIfInBounds_toArray, List.set_cons_zero, List.set_cons_succ])
              refine PlanT.take0 (v := .bool true) (by kernel_rfl) ?yR8 ?rR8
              case yR8 => (intro wz hz; have z1 := hz.1; have z2 := hz.2; go_simp; try with_reducible rfl)
              (try simp only [Act.put, List.setIfInBounds_toArray, List.set_cons_zero, List.set_cons_succ])
              refine PlanT.skip (by kernel_rfl) ?_
              (try simp only [Act.put, List.setIfInBounds_toArray, List.set_cons_zero, List.set_cons_succ])
              refine PlanT.skip (by kernel_rfl) ?_
              (try simp only [Act.put, List.setIfInBounds_toArray, List.set_cons_zero, List.set_cons_succ])
              refine PlanT.skip (by kernel_rfl) ?_
              (try simp only [Act.put, List.setIfInBounds_toArray, List.set_cons_zero, List.set_cons_succ])
              refine PlanT.skip (by kernel_rfl) ?_
              (try simp only [Act.put, List.setIfInBounds_toArray, List.set_cons_zero, List.set_cons_succ])
              refine PlanT.skip (by kernel_rfl) ?_
              (try simp only [Act.put, List.setIfInBounds_toArray, List.set_cons_zero, List.set_cons_succ])
              refine PlanT.skip (by kernel_rfl) ?_
              (try simp only [Act.put, List.setIfInBounds_toArray, List.set_cons_zero, List.set_cons_succ])
              refine PlanT.skip (by kernel_rfl) ?_
              (try simp only [Act.put, List.setIfInBounds_toArray, List.set_cons_zero, List.set_cons_succ])
              refine PlanT.skip (by kernel_rfl) ?_
              (try simp only [Act.put, List.setIfInBounds_toArray, List.set_cons_zero, List.set_cons_succ])
              refine PlanT.skip (by kernel_rfl) ?_
              (try simp only [Act.put, List.setIfInBounds_toArray, List.set_cons_zero, List.set_cons_succ])
              refine PlanT.skip (by kernel_rfl) ?_
              (try simp only [Act.put, List.setIfInBounds_toArray, List.set_cons_zero, List.set_cons_succ])
              refine PlanT.skip (by kernel_rfl) ?_
              (try simp only [Act.put, List.setIfInBounds_toArray, List.set_cons_zero, List.set_cons_succ])
              refine PlanT.skip (by kernel_rfl) ?_
              (try simp only [Act.put, List.setIfInBounds_toArray, List.set_cons_zero, List.set_cons_succ])
              refine PlanT.skip (by kernel_rfl) ?_
              (try simp only [Act.put, List.setIfInBounds_toArray, List.set_cons_zero, List.set_cons_succ])
              refine PlanT.take0 (v := ?vR22) (by kernel_rfl) ?yR22 ?rR22
              case yR22 => (intro wz hz; have z1 := hz.1; have z2 := hz.2; go_simp; try with_reducible rfl)
              (try simp only [Act.put, List.setIfInBounds_toArray, List.set_cons_zero, List.set_cons_succ])
              refine PlanT.done (NoPanic.normal ?_)
              obtain ⟨hrow, hbu⟩ := HPR.out _ HOB6.out.be
              have HBU := Lib.hid hbu
              clear hbu
              have s0 := blk_cell (i := 0) hrow
              have t0 := blk_free (i := 0) hrow
              have s1 := blk_cell (i := 1) hrow
              have t1 := blk_free (i := 1) hrow
              have s2 := blk_cell (i := 2) hrow
              have t2 := blk_free (i := 2) hrow
              have s3 := blk_cell (i := 3) hrow
              have t3 := blk_free (i := 3) hrow
              simp only [List.getElem?_toArray, List.getElem?_cons_zero, List.getElem?_cons_succ] at s0 s1 s2 s3
              have HROW := Lib.hid hrow
              clear hrow
              go_wp2
              refine bodyPost_ret (results_row_tmp rfl _ _ w.heap.size 74 #[.int .i64 0, .slice none 0 0, .slice none 0 0, .slice none 0 0] (0, 0) _ rfl ?hgE Try.underlying74 rfl (by kernel_rfl)) rfl ?_
              case hgE => exact (set4 HROW.out rfl rfl rfl rfl).1
              unfold RetOpen
              rw [HNO.out]
              exact ⟨rfl, (set4 HROW.out rfl rfl rfl rfl).2 _ (Nat.le_refl _) _ (HBU.out)⟩
            | true =>
              have HRT := Lib.hid hr
              have HRI : Hid (∀ wz, OwnE wz (w.heap.size + 1) (.slice ea FL.length ec) FL → Calls Try.prog 21 #[.slice ea FL.length ec] wz fun e w' => e = .returned (.bool true) ∧ Below wz.heap.size wz w') := Lib.hid fun wz h => by
                have h := HRI0 _ wz _ h HFF.out
                rw [hr] at h
                exact h
              clear hr HRI0
              cases he : decide (b.drop M = endB (rowsQ ps) ((tabQ ps).length : Int) (M : Int) (FL.length : Int)) with
              | false =>
                have HNO : Hid (getT b = none) := Lib.hid (getT_none fun es f ⟨per, h⟩ => by
                  have := (HEND.out es f per h).2.2.2.2
                  exact of_decide_eq_false he this)
                rw [he] at HEQ
                clear he
                go_upto_region 11 with (go_at_call 51; (refine (HG.out _ HOB.out.be).mono ?_); rintro e u5 ⟨y5, rfl, ho5, hb5⟩; have HOB5 := Lib.hid ((HOB.out.call hb5).call (Below.refl _ _).drew); clear hb5 ho5)
                refine wp_region_two (fun wz => wz.cell? ⟨w.heap.size + 1, 1, none⟩ = some (.slice ea FL.length ec) ∧ wz.cell? ⟨w.heap.size + 1, 2, none⟩ = some (.slice ra (rowsQ ps).length rc)) (fun _ => True) [(0, 0), (0, 1), (0, 2), (0, 3), (0, 4), (2, 5), (0, 6), (0, 7), (0, 8), (0, 9), (0, 10), (0, 11), (0, 12), (0, 13), (0, 14), (0, 15), (0, 16), (0, 17), (0, 18), (2, 19), (2, 20), (0, 21), (0, 22)] [] (by kernel_rfl) (by kernel_rfl) (by kernel_rfl) (by kernel_rfl) (by kernel_rfl) ⟨HOB5.out.cell 1, HOB5.out.cell 2⟩ trivial ?_
                simp only [planT, List.drop_succ_cons, List.drop_zero]
                refine PlanT.take0 (v := ?vS0) (by kernel_rfl) ?yS0 ?rS0
                case yS0 => (intro wz hz; have z1 := hz.1; have z2 := hz.2; go_simp; try with_reducible rfl)
                (try simp only [Act.put, List.setIfInBounds_toArray, List.set_cons_zero, List.set_cons_succ])
                refine PlanT.take0 (v := .bool false) (by kernel_rfl) ?yS1 ?rS1
                case yS1 => (intro wz hz; have z1 := hz.1; have z2 := hz.2; go_simp; try with_reducible rfl)
                (try simp only [Act.put, List.setIfInBounds_toArray, List.set_cons_zero, List.set_cons_succ])
                refine PlanT.take0 (v := .bool false) (by kernel_rfl) ?yS2 ?rS2
                case yS2 => (intro wz hz; have z1 := hz.1; have z2 := hz.2; go_simp; try with_reducible rfl)
                (try simp only [Act.put, List.setIfInBounds_toArray, List.set_cons_zero, List.set_cons_succ])
                refine PlanT.take0 (v := ?vS3) (by kernel_rfl) ?yS3 ?rS3
                case yS3 => (intro wz hz; have z1 := hz.1; have z2 := hz.2; go_simp; try with_reducible rfl)
                (try simp only [Act.put, List.setIfInBounds_toArray, List.set_cons_zero, List.set_cons_succ])
                refine PlanT.take0 (v := ?vS4) (by kernel_rfl) ?yS4 ?rS4
                case yS4 => (intro wz hz; have z1 := hz.1; have z2 := hz.2; go_simp; try with_reducible rfl)
                (try simp only [Act.put, List.setIfInBounds_toArray, List.set_cons_zero, List.set_cons_succ])
                refine PlanT.exec2 (fun K hK => ⟨by kernel_rfl, ?_⟩)
                go_simp
                refine (HRI.out _ HOB5.out.ents).mono ?_
                rintro e u6 ⟨rfl, hb6⟩
                have HOB6 := Lib.hid (HOB5.out.call hb6)
                skip
                clear hb6
                refine hK.out _ _ ⟨HOB6.out.cell 1, HOB6.out.cell 2⟩ trivial ?_
                clear hK K
                (try simp only [Act.put, List.setIfInBounds_toArray, List.set_cons_zero, List.set_cons_succ])
                refine PlanT.take0 (v := .bool false) (by kernel_rfl) ?yS6 ?rS6
                case yS6 => (intro wz hz; have z1 := hz.1; have z2 := hz.2; go_simp; try with_reducible rfl)
                (try simp only [Act.put, List.setIfInBounds_toArray, List.set_cons_zero, List.set_cons_succ])
                refine PlanT.take0 (v := .bool false) (by kernel_rfl) ?yS7 ?rS7
                case yS7 => (intro wz hz; have z1 := hz.1; have z2 := hz.2; go_simp; try with_reducible rfl)
                (try simp only [Act.put, List.setIfInBounds_toArray, List.set_cons_zero, List.set_cons_succ])
                refine PlanT.take0 (v := .bool false) (by kernel_rfl) ?yS8 ?rS8
                case yS8 => (intro wz hz; have z1 := hz.1; have z2 := hz.2; go_simp; try with_reducible rfl)
                (try simp only [Act.put, List.setIfInBounds_toArray, List.set_cons_zero, List.set_cons_succ])
                refine PlanT.take0 (v := ?vS9) (by kernel_rfl) ?yS9 ?rS9
                case yS9 => (intro wz hz; have z1 := hz.1; have z2 := hz.2; go_simp; try with_reducible rfl)
                (try simp only [Act.put, List.setIfInBounds_toArray, List.set_cons_zero, List.set_cons_succ])
                refine PlanT.take0 (v := ?vS10) (by kernel_rfl) ?yS10 ?rS10
                case yS10 => (intro wz hz; have z1 := hz.1; have z2 := hz.2; go_simp; try with_reducible rfl)
                (try simp only [Act.put, List.setIfInBounds_toArray, List.set_cons_zero, List.set_cons_succ])
                refine PlanT.take0 (v := .slice sv (b.length - M) (vc - M)) (by kernel_rfl) ?yS11 ?rS11
                case yS11 => (intro wz hz; have z1 := hz.1; have z2 := hz.2; rw [HSV.out]; go_simp; try with_reducible rfl)
                (try simp only [Act.put, List.setIfInBounds_toArray, List.set_cons_zero, List.set_cons_succ])
                refine PlanT.take0 (v := ?vS12) (by kernel_rfl) ?yS12 ?rS12
                case yS12 => (intro wz hz; have z1 := hz.1; have z2 := hz.2; go_simp; try with_reducible rfl)
                (try simp only [Act.put, List.setIfInBounds_toArray, List.set_cons_zero, List.set_cons_succ])
                refine PlanT.take0 (v := ?vS13) (by kernel_rfl) ?yS13 ?rS13
                case yS13 => (intro wz hz; have z1 := hz.1; have z2 := hz.2; go_simp; try with_reducible rfl)
                (try simp only [Act.put, List.setIfInBounds_toArray, List.set_cons_zero, List.set_cons_succ])
                refine PlanT.take0 (v := ?vS14) (by kernel_rfl) ?yS14 ?rS14
                case yS14 => (intro wz hz; have z1 := hz.1; have z2 := hz.2; go_simp; try with_reducible rfl)
                (try simp only [Act.put, List.setIfInBounds_toArray, List.set_cons_zero, List.set_cons_succ])
                refine PlanT.take0 (v := ?vS15) (by kernel_rfl) ?yS15 ?rS15
                case yS15 => (intro wz hz; have z1 := hz.1; have z2 := hz.2; go_simp; try with_reducible rfl)
                (try simp only [Act.put, List.setIfInBounds_toArray, List.set_cons_zero, List.set_cons_succ])
                refine PlanT.take0 (v := ?vS16) (by kernel_rfl) ?yS16 ?rS16
                case yS16 => (intro wz hz; have z1 := hz.1; have z2 := hz.2; go_simp; try with_reducible rfl)
                (try simp only [Act.put, List.setIfInBounds_toArray, List.set_cons_zero, List.set_cons_succ])
                refine PlanT.take0 (v := ?vS17) (by kernel_rfl) ?yS17 ?rS17
                case yS17 => (intro wz hz; have z1 := hz.1; have z2 := hz.2; go_simp; try with_reducible rfl)
                (try simp only [Act.put, List.setIfInBounds_toArray, List.set_cons_zero, List.set_cons_succ])
                refine PlanT.take0 (v := ?vS18) (by kernel_rfl) ?yS18 ?rS18
                case yS18 => (intro wz hz; have z1 := hz.1; have z2 := hz.2; go_simp; try with_reducible rfl)
                (try simp only [Act.put, List.setIfInBounds_toArray, List.set_cons_zero, List.set_cons_succ])
                refine PlanT.exec2 (fun K hK => ⟨by kernel_rfl, ?_⟩)
                go_simp
                refine (HPE.out _ _ HOB6.out.rows.read).mono ?_
                rintro e u7 ⟨y7, rfl, ho7, hb7⟩
                have HOB7 := Lib.hid (HOB6.out.call hb7)
                skip
                have HE7 := Lib.hid ho7.read
                clear ho7 hb7
                refine hK.out _ _ ⟨HOB7.out.cell 1, HOB7.out.cell 2⟩ trivial ?_
                clear hK K
                (try simp only [Act.put, List.setIfInBounds_toArray, List.set_cons_zero, List.set_cons_succ])
                refine PlanT.exec2 (fun K hK => ⟨by kernel_rfl, ?_⟩)
                go_simp
                refine (HEQ.out _ _ HOB7.out.be HE7.out).mono ?_
                rintro e u8 ⟨rfl, hb8⟩
                have HOB8 := Lib.hid (HOB7.out.call hb8)
                skip
                clear hb8
                refine hK.out _ _ ⟨HOB8.out.cell 1, HOB8.out.cell 2⟩ trivial ?_
                clear hK K
                (try simp only [Act.put, List.setIfInBounds_toArray, List.set_cons_zero, List.set_cons_succ])
                refine PlanT.take0 (v := ?vS21) (by kernel_rfl) ?yS21 ?rS21
                case yS21 => (intro wz hz; have z1 := hz.1; have z2 := hz.2; go_simp; try with_reducible rfl)
                (try simp only [Act.put, List.setIfInBounds_toArray, List.set_cons_zero, List.set_cons_succ])
                refine PlanT.take0 (v := ?vS22) (by kernel_rfl) ?yS22 ?rS22
                case yS22 => (intro wz hz; have z1 := hz.1; have z2 := hz.2; go_simp; try with_reducible rfl)
                (try simp only [Act.put, List.setIfInBounds_toArray, List.set_cons_zero, List.set_cons_succ])
                refine PlanT.done (NoPanic.normal ?_)
                obtain ⟨hrow, hbu⟩ := HPR.out _ HOB8.out.be
                have HBU := Lib.hid hbu
                clear hbu
                have s0 := blk_cell (i := 0) hrow
                have t0 := blk_free (i := 0) hrow
                have s1 := blk_cell (i := 1) hrow
                have t1 := blk_free (i := 1) hrow
                have s2 := blk_cell (i := 2) hrow
                have t2 := blk_free (i := 2) hrow
                have s3 := blk_cell (i := 3) hrow
                have t3 := blk_free (i := 3) hrow
                simp only [List.getElem?_toArray, List.getElem?_cons_zero, List.getElem?_cons_succ] at s0 s1 s2 s3
                have HROW := Lib.hid hrow
                clear hrow
                go_wp2
                refine bodyPost_ret (results_row_tmp rfl _ _ w.heap.size 74 #[.int .i64 0, .slice none 0 0, .slice none 0 0, .slice none 0 0] (0, 0) _ rfl ?hgF Try.underlying74 rfl (by kernel_rfl)) rfl ?_
                case hgF => exact (set4 HROW.out rfl rfl rfl rfl).1
                unfold RetOpen
                rw [HNO.out]
                exact ⟨rfl, (set4 HROW.out rfl rfl rfl rfl).2 _ (Nat.le_refl _) _ (HBU.out)⟩
              | true =>
                have HGT : Hid (getT b = some (FL, frP b (tabQ ps).length)) := Lib.hid (getT_some hl (HTAB.out HFO.out HRT.out (of_decide_eq_true he)))
                rw [he] at HEQ
                clear he
                go_upto_region 11 with (go_at_call 51; (refine (HG.out _ HOB.out.be).mono ?_); rintro e u5 ⟨y5, rfl, ho5, hb5⟩; (obtain ⟨ya5, yc5, hy5, _, _⟩ := ho5.read.form); subst hy5; have HOB5 := Lib.hid ((HOB.out.call hb5).call (Below.refl _ _).drew); have HY5 := Lib.hid (OwnB.below ho5 (Below.refl u5.heap.size u5).drew (Nat.le_refl _)); clear hb5 ho5)
                refine wp_region_two (fun wz => wz.cell? ⟨w.heap.size + 1, 1, none⟩ = some (.slice ea FL.length ec) ∧ wz.cell? ⟨w.heap.size + 1, 2, none⟩ = some (.slice ra (rowsQ ps).length rc)) (fun _ => True) [(0, 0), (0, 1), (0, 2), (0, 3), (0, 4), (2, 5), (0, 6), (0, 7), (0, 8), (0, 9), (0, 10), (0, 11), (0, 12), (0, 13), (0, 14), (0, 15), (0, 16), (0, 17), (0, 18), (2, 19), (2, 20), (0, 21), (0, 22)] [] (by kernel_rfl) (by kernel_rfl) (by kernel_rfl) (by kernel_rfl) (by kernel_rfl) ⟨HOB5.out.cell 1, HOB5.out.cell 2⟩ trivial ?_
                simp only [planT, List.drop_succ_cons, List.drop_zero]
                refine PlanT.take0 (v := ?vT0) (by kernel_rfl) ?yT0 ?rT0
                case yT0 => (intro wz hz; have z1 := hz.1; have z2 := hz.2; go_simp; try with_reducible rfl)
                (try simp only [Act.put, List.setIfInBounds_toArray, List.set_cons_zero, List.set_cons_succ])
                refine PlanT.take0 (v := .bool false) (by kernel_rfl) ?yT1 ?rT1
                case yT1 => (intro wz hz; have z1 := hz.1; have z2 := hz.2; go_simp; try with_reducible rfl)
                (try simp only [Act.put, List.setIfInBounds_toArray, List.set_cons_zero, List.set_cons_succ])
                refine PlanT.take0 (v := .bool false) (by kernel_rfl) ?yT2 ?rT2
                case yT2 => (intro wz hz; have z1 := hz.1; have z2 := hz.2; go_simp; try with_reducible rfl)
                (try simp only [Act.put, List.setIfInBounds_toArray, List.set_cons_zero, List.set_cons_succ])
                refine PlanT.take0 (v := ?vT3) (by kernel_rfl) ?yT3 ?rT3
                case yT3 => (intro wz hz; have z1 := hz.1; have z2 := hz.2; go_simp; try with_reducible rfl)
                (try simp only [Act.put, List.setIfInBounds_toArray, List.set_cons_zero, List.set_cons_succ])
                refine PlanT.take0 (v := ?vT4) (by kernel_rfl) ?yT4 ?rT4
                case yT4 => (intro wz hz; have z1 := hz.1; have z2 := hz.2; go_simp; try with_reducible rfl)
                (try simp only [Act.put, List.setIfInBounds_toArray, List.set_cons_zero, List.set_cons_succ])
                refine PlanT.exec2 (fun K hK => ⟨by kernel_rfl, ?_⟩)
                go_simp
                refine (HRI.out _ HOB5.out.ents).mono ?_
                rintro e u6 ⟨rfl, hb6⟩
                have HOB6 := Lib.hid (HOB5.out.call hb6)
                have HY6 := Lib.hid (OwnB.below HY5.out hb6 (Nat.le_refl _))
                clear hb6
                refine hK.out _ _ ⟨HOB6.out.cell 1, HOB6.out.cell 2⟩ trivial ?_
                clear hK K
                (try simp only [Act.put, List.setIfInBounds_toArray, List.set_cons_zero, List.set_cons_succ])
                refine PlanT.take0 (v := .bool false) (by kernel_rfl) ?yT6 ?rT6
                case yT6 => (intro wz hz; have z1 := hz.1; have z2 := hz.2; go_simp; try with_reducible rfl)
                (try simp only [Act.put, List.setIfInBounds_toArray, List.set_cons_zero, List.set_cons_succ])
                refine PlanT.take0 (v := .bool false) (by kernel_rfl) ?yT7 ?rT7
                case yT7 => (intro wz hz; have z1 := hz.1; have z2 := hz.2; go_simp; try with_reducible rfl)
                (try simp only [Act.put, List.setIfInBounds_toArray, List.set_cons_zero, List.set_cons_succ])
                refine PlanT.take0 (v := .bool false) (by kernel_rfl) ?yT8 ?rT8
                case yT8 => (intro wz hz; have z1 := hz.1; have z2 := hz.2; go_simp; try with_reducible rfl)
                (try simp only [Act.put, List.setIfInBounds_toArray, List.set_cons_zero, List.set_cons_succ])
                refine PlanT.take0 (v := ?vT9) (by kernel_rfl) ?yT9 ?rT9
                case yT9 => (intro wz hz; have z1 := hz.1; have z2 := hz.2; go_simp; try with_reducible rfl)
                (try simp only [Act.put, List.setIfInBounds_toArray, List.set_cons_zero, List.set_cons_succ])
                refine PlanT.take0 (v := ?vT10) (by kernel_rfl) ?yT10 ?rT10
                case yT10 => (intro wz hz; have z1 := hz.1; have z2 := hz.2; go_simp; try with_reducible rfl)
                (try simp only [Act.put, List.setIfInBounds_toArray, List.set_cons_zero, List.set_cons_succ])
                refine PlanT.take0 (v := .slice sv (b.length - M) (vc - M)) (by kernel_rfl) ?yT11 ?rT11
                case yT11 => (intro wz hz; have z1 := hz.1; have z2 := hz.2; rw [HSV.out]; go_simp; try with_reducible rfl)
                (try simp only [Act.put, List.setIfInBounds_toArray, List.set_cons_zero, List.set_cons_succ])
                refine PlanT.take0 (v := ?vT12) (by kernel_rfl) ?yT12 ?rT12
                case yT12 => (intro wz hz; have z1 := hz.1; have z2 := hz.2; go_simp; try with_reducible rfl)
                (try simp only [Act.put, List.setIfInBounds_toArray, List.set_cons_zero, List.set_cons_succ])
                refine PlanT.take0 (v := ?vT13) (by kernel_rfl) ?yT13 ?rT13
                case yT13 => (intro wz hz; have z1 := hz.1; have z2 := hz.2; go_simp; try with_reducible rfl)
                (try simp only [Act.put, List.setIfInBounds_toArray, List.set_cons_zero, List.set_cons_succ])
                refine PlanT.take0 (v := ?vT14) (by kernel_rfl) ?yT14 ?rT14
                case yT14 => (intro wz hz; have z1 := hz.1; have z2 := hz.2; go_simp; try with_reducible rfl)
                (try simp only [Act.put, List.setIfInBounds_toArray, List.set_cons_zero, List.set_cons_succ])
                refine PlanT.take0 (v := ?vT15) (by kernel_rfl) ?yT15 ?rT15
                case yT15 => (intro wz hz; have z1 := hz.1; have z2 := hz.2; go_simp; try with_reducible rfl)
                (try simp only [Act.put, List.setIfInBounds_toArray, List.set_cons_zero, List.set_cons_succ])
                refine PlanT.take0 (v := ?vT16) (by kernel_rfl) ?yT16 ?rT16
                case yT16 => (intro wz hz; have z1 := hz.1; have z2 := hz.2; go_simp; try with_reducible rfl)
                (try simp only [Act.put, List.setIfInBounds_toArray, List.set_cons_zero, List.set_cons_succ])
                refine PlanT.take0 (v := ?vT17) (by kernel_rfl) ?yT17 ?rT17
                case yT17 => (intro wz hz; have z1 := hz.1; have z2 := hz.2; go_simp; try with_reducible rfl)
                (try simp only [Act.put, List.setIfInBounds_toArray, List.set_cons_zero, List.set_cons_succ])
                refine PlanT.take0 (v := ?vT18) (by kernel_rfl) ?yT18 ?rT18
                case yT18 => (intro wz hz; have z1 := hz.1; have z2 := hz.2; go_simp; try with_reducible rfl)
                (try simp only [Act.put, List.setIfInBounds_toArray, List.set_cons_zero, List.set_cons_succ])
                refine PlanT.exec2 (fun K hK => ⟨by kernel_rfl, ?_⟩)
                go_simp
                refine (HPE.out _ _ HOB6.out.rows.read).mono ?_
                rintro e u7 ⟨y7, rfl, ho7, hb7⟩
                have HOB7 := Lib.hid (HOB6.out.call hb7)
                have HY7 := Lib.hid (OwnB.below HY6.out hb7 (Nat.le_refl _))
                have HE7 := Lib.hid ho7.read
                clear ho7 hb7
                refine hK.out _ _ ⟨HOB7.out.cell 1, HOB7.out.cell 2⟩ trivial ?_
                clear hK K
                (try simp only [Act.put, List.setIfInBounds_toArray, List.set_cons_zero, List.set_cons_succ])
                refine PlanT.exec2 (fun K hK => ⟨by kernel_rfl, ?_⟩)
                go_simp
                refine (HEQ.out _ _ HOB7.out.be HE7.out).mono ?_
                rintro e u8 ⟨rfl, hb8⟩
                have HOB8 := Lib.hid (HOB7.out.call hb8)
                have HY8 := Lib.hid (OwnB.below HY7.out hb8 (Nat.le_refl _))
                clear hb8
                refine hK.out _ _ ⟨HOB8.out.cell 1, HOB8.out.cell 2⟩ trivial ?_
                clear hK K
                (try simp only [Act.put, List.setIfInBounds_toArray, List.set_cons_zero, List.set_cons_succ])
                refine PlanT.take0 (v := ?vT21) (by kernel_rfl) ?yT21 ?rT21
                case yT21 => (intro wz hz; have z1 := hz.1; have z2 := hz.2; go_simp; try with_reducible rfl)
                (try simp only [Act.put, List.setIfInBounds_toArray, List.set_cons_zero, List.set_cons_succ])
                refine PlanT.take0 (v := ?vT22) (by kernel_rfl) ?yT22 ?rT22
                case yT22 => (intro wz hz; have z1 := hz.1; have z2 := hz.2; go_simp; try with_reducible rfl)
                (try simp only [Act.put, List.setIfInBounds_toArray, List.set_cons_zero, List.set_cons_succ])
                refine PlanT.done (NoPanic.normal ?_)
                have hOS := OB.store (i := 3) (u := .slice ya5 (frP b (tabQ ps).length).length yc5) (per' := firstN ps) (vf' := .slice ya5 (frP b (tabQ ps).length).length yc5) HOB8.out (by rfl)
                have w0 := HOB8.out.cell 0
                have w1 := HOB8.out.cell 1
                have w2 := HOB8.out.cell 2
                have z3 := HOB8.out.cell 3
                have y3 := HOB8.out.free 3
                simp only [List.getElem?_toArray, List.getElem?_cons_zero, List.getElem?_cons_succ] at z3 w0 w1 w2
                obtain ⟨hrow, hbu⟩ := HPR.out _ HOB8.out.be
                clear hbu
                have s0 := blk_cell (i := 0) hrow
                have t0 := blk_free (i := 0) hrow
                have s1 := blk_cell (i := 1) hrow
                have t1 := blk_free (i := 1) hrow
                have s2 := blk_cell (i := 2) hrow
                have t2 := blk_free (i := 2) hrow
                have s3 := blk_cell (i := 3) hrow
                have t3 := blk_free (i := 3) hrow
                simp only [List.getElem?_toArray, List.getElem?_cons_zero, List.getElem?_cons_succ] at s0 s1 s2 s3
                have HROW := Lib.hid hrow
                clear hrow
                obtain ⟨hrow, hbu⟩ := HPR.out _ hOS.be
                have HROW9 := Lib.hid hrow
                have HBU := Lib.hid hbu
                have HOS := Lib.hid hOS
                have HY9 := Lib.hid (row_set (i := 3) (u := .slice ya5 (frP b (tabQ ps).length).length yc5) HY8.out (by have := blk_lt HOB.out.box; omega))
                clear hOS hrow hbu
                go_wp2
                refine bodyPost_ret (results_row_tmp rfl _ _ w.heap.size 74 #[.int .i64 (firstN ps : Int), .slice ea FL.length ec, .slice ra (rowsQ ps).length rc, .slice ya5 (frP b (tabQ ps).length).length yc5] (0, 0) _ rfl ?hgG Try.underlying74 rfl (by kernel_rfl)) rfl ?_
                case hgG => exact (set4 HROW9.out rfl rfl rfl rfl).1
                have hp : w.heap.size < w.heap.size + 1 := by omega
                have hp2 : w.heap.size < wr.heap.size := by have := blk_lt HOB.out.box; omega
                exact HFIN.out _ HGT.out _ _ _ _ (own_monoE (row_set (row_set (row_set (row_set HOS.out.ents hp) hp) hp) hp) (by omega)) (own_monoR (row_set (row_set (row_set (row_set HOS.out.rows hp) hp) hp) hp) (by omega)) (OwnB.mono_B (row_set (row_set (row_set (row_set HY9.out hp2) hp2) hp2) hp2) (by omega)) ((set4 HROW9.out rfl rfl rfl rfl).2 _ (Nat.le_refl _) _ HBU.out)
end Go.Proofs.Yteeikmpfgbfeoaa

/-
  Tables: All: the entries of a table.
-/
namespace Go.Proofs.Yteeikmpfgbfeoaa
open Go.RowKit

set_option maxRecDepth 100000 in
set_option maxHeartbeats 400000 in
theorem all_any : AllTC := fun v b w hv hl => by
  cases hg : getT b with
  | none =>
    have HO : Hid (Calls Try.prog 29 #[v] w fun e w' => e = .returned (.tuple #[.agg #[.int .i64 0, .slice none 0 0, .slice none 0 0, .slice none 0 0], .bool false]) ∧ Below w.heap.size w w') := Lib.hid (by
      have h := open_any v b w hv hl
      unfold RetOpen at h
      rw [hg] at h
      exact h)
    have HR : Hid (∀ w', Below w.heap.size w w' → RetAllT w b (.returned (.tuple #[.slice none 0 0, .int .i64 5])) w') := Lib.hid fun w' hb => by
      refine ⟨.slice none 0 0, by unfold errT; rw [hg]; rfl, ?_, hb⟩
      unfold entsT
      rw [hg]
      exact World.ownsRow_nil _ _ _ _
    clear hg hv
    go_enter Try.func14, Try.ntmps14
    go_wp2_with (go_at_call 29; (refine HO.out.mono ?_); rintro e w1 ⟨rfl, hb1⟩; have HB1 := Lib.hid hb1; clear hb1)
    go_ret2
    exact HR.out _ (HB1.out.alloc HB1.out.size _)
  | some x =>
    obtain ⟨es, f⟩ := x
    have HO : Hid (Calls Try.prog 29 #[v] w fun e w' => ∃ (rs : List Rw) (per : Nat) (ve vr vf : Value), e = .returned (.tuple #[.agg #[.int .i64 (per : Int), ve, vr, vf], .bool true]) ∧ OwnE w' w.heap.size ve es ∧ OwnR w' w.heap.size vr rs ∧ OwnB w' w.heap.size 5 vf f ∧ Below w.heap.size w w') := Lib.hid (by
      have h := open_any v b w hv hl
      unfold RetOpen at h
      rw [hg] at h
      refine h.mono ?_
      rintro e w' ⟨ps, per, ve, vr, vf, rfl, h1, h2, h3, _, _, _, h4⟩
      exact ⟨_, per, ve, vr, vf, rfl, h1, h2, h3, h4⟩)
    have HR : Hid (∀ w' x, OwnE w' w.heap.size x es → Below w.heap.size w w' → RetAllT w b (.returned (.tuple #[x, .int .i64 0])) w') := Lib.hid fun w' x ho hb => by
      refine ⟨x, by unfold errT; rw [hg]; rfl, ?_, hb⟩
      unfold entsT
      rw [hg]
      exact ho
    clear hg hv
    go_enter Try.func14, Try.ntmps14
    go_wp2_with (go_at_call 29; (refine HO.out.mono ?_); rintro e w1 ⟨rs, per, ve, vr, vf, rfl, ho1, hr1, hf1, hb1⟩; (obtain ⟨ea, ec, hve, _, _⟩ := ho1.form); subst hve; (obtain ⟨ra, rc, hvr, _, _⟩ := hr1.form); subst hvr; (obtain ⟨fa, fc, hvf, _, _⟩ := hf1.read.form); subst hvf; have HB1 := Lib.hid hb1; have HO1 := Lib.hid ho1; clear hb1 ho1 hr1 hf1)
    go_ret2
    exact HR.out _ _ (OwnE.below HO1.out ((Below.refl _ _).alloc (Nat.le_refl _) _)) (HB1.out.alloc HB1.out.size _)
end Go.Proofs.Yteeikmpfgbfeoaa

/-
  Chapter 13, the statements' example.
-/
namespace Go.Proofs.Yteeikmpfgbfeoaa
open Go.RowKit

theorem errT_put {es : List Ent} {per : Nat} {f : List UInt8} (hm : MayT es) (h1 : 1 ≤ per) (h2 : per ≤ 64) (hf : f.length ≤ 100000) : errT (tableL es per f) = 0 := by
  unfold errT
  rw [getT_put hm h1 h2 hf]
  rfl
theorem entsT_put {es : List Ent} {per : Nat} {f : List UInt8} (hm : MayT es) (h1 : 1 ≤ per) (h2 : per ≤ 64) (hf : f.length ≤ 100000) : entsT (tableL es per f) = es := by
  unfold entsT
  rw [getT_put hm h1 h2 hf]
theorem makeF_few (es : List Ent) (b : Nat) (h : es.length ≤ 10000) : (makeL (hashes (usersL es)) b).length ≤ 100000 :=
  makeL_few _ b (by unfold hashes; rw [List.length_map]; exact Nat.le_trans (users_few es) h)

/-- A table of entries that may be in one: what Put tells of it. -/
theorem put_yes (HP : PutTC) {v : Value} {es : List Ent} {per b : Nat} {w : World} (hv : RdE w v es) (hm : MayT es) (h1 : 1 ≤ per) (h2 : per ≤ 64) (hb : (Lit.float .f64 b).wf = true) :
    Calls Try.prog 13 #[v, .int .i64 (per : Int), .float .f64 b] w fun e w' => ∃ x, e = .returned (.tuple #[x, .int .i64 0]) ∧ OwnB w' w.heap.size 5 x (tableL es per (makeL (hashes (usersL es)) b)) ∧ Below w.heap.size w w' := by
  have h0 := putT_may (per := (per : Int)) hm (by omega) (by omega)
  refine (HP v es per b w hv (may_small (rising_all hm.1) (by have := hm.2.2; omega)) (by simp only [Lit.wf, IntKind.min, IntKind.max, IntKind.signed, IntKind.bits]; simp; omega) hb).mono ?_
  rintro e w' ⟨x, rfl, ho, hb'⟩
  rw [h0, if_pos rfl] at ho
  exact ⟨x, by rw [h0], ho, hb'⟩

set_option maxRecDepth 100000 in
set_option maxHeartbeats 1000000 in
theorem awake13_any (HP : PutTC) (HA : AllTC) (w : World) : Calls Try.prog 7 #[] w fun e w' => e = .returned (.bool true) ∧ Below w.heap.size w w' := by
  have HMK := Lib.hid (fun v w hv => make12_any v [1] 0 (by omega) w hv (by simp))
  have hm := mayT_mk (ns := [1]) 0 (by simp) (by simp)
  have hl1 : (mkB [1] 0).length = 1 := by
    have h1 := mkB_len [1] 0
    have h2 := List.length_pos_iff.2 hm.2.1
    simp at h1
    omega
  generalize mkB [1] 0 = L at *
  have hf := makeF_few L 4621819117588971520 (by omega)
  have HP1 : Hid (∀ v w, OwnE w 0 v L → Calls Try.prog 13 #[v, .int .i64 4, .float .f64 4621819117588971520] w fun e w' => ∃ x, e = .returned (.tuple #[x, .int .i64 0]) ∧ RdB w' x (tableL L 4 (makeL (hashes (usersL L)) 4621819117588971520)) ∧ Below w.heap.size w w') := Lib.hid fun v w ho => by
    refine (put_yes (per := 4) HP (ho.read fun e he => Ent.may_fits (rising_all hm.1 e he)) hm (by omega) (by omega) (by kernel_rfl)).mono ?_
    rintro e w' ⟨x, rfl, ho, hb⟩
    exact ⟨x, rfl, ho.read, hb⟩
  have ht := table_small (per := 4) hm (by omega) (by omega) hf
  have he1 := errT_put (per := 4) hm (by omega) (by omega) hf
  have he2 := entsT_put (per := 4) hm (by omega) (by omega) hf
  generalize tableL L 4 (makeL (hashes (usersL L)) 4621819117588971520) = T at *
  have HA1 : Hid (∀ v w, RdB w v T → Calls Try.prog 14 #[v] w fun e w' => ∃ a c, e = .returned (.tuple #[.slice a 1 c, .int .i64 0]) ∧ Below w.heap.size w w') := Lib.hid fun v w hv => by
    refine (HA v T w hv ht.2).mono ?_
    rintro e w' ⟨x, rfl, ho, hb⟩
    rw [he2] at ho
    obtain ⟨a, c, rfl, _, _⟩ := ho.form
    exact ⟨a, c, by rw [he1, hl1], hb⟩
  obtain ⟨tl, htl⟩ : ∃ tl, T.length = tl := ⟨_, rfl⟩
  have HTL := Lib.hid htl
  have ht17 : 17 ≤ tl := by omega
  have hgt : decide ((16 : Int) < (tl : Int)) = true := by simp; omega
  have hgtn : decide (16 < tl) = true := by simp; omega
  clear hm hl1 hf ht he1 he2 htl
  go_enter Try.func7, Try.ntmps7
  go_wp2_with (first | (go_at_call 8; (refine (HMK.out _ _ (rdB_row w [1] (by simp))).mono ?_); rintro e w3 ⟨x3, rfl, ho3, hb3⟩; have HO3 := Lib.hid (own_base (B' := 0) ho3 fun _ _ => Nat.zero_le _)) | (go_at_call 13; (refine (HP1.out _ _ HO3.out).mono ?_); rintro e w4 ⟨x4, rfl, hr4, hb4⟩; obtain ⟨a4, c4, hx4, _, _⟩ := hr4.form; rw [HTL.out] at hx4; subst hx4; have HR4 := Lib.hid hr4; clear hr4) | (go_at_call 14; (refine (HA1.out _ _ HR4.out).mono ?_); rintro e w5 ⟨a5, c5, rfl, hb5⟩) | (go_at_call 16; (refine (num12_any _ _).mono ?_); rintro e w6 ⟨rfl, rfl⟩))
  go_ret
  exact ⟨rfl, belowT (belowT (belowT ((Below.refl _ _).alloc (Nat.le_refl _) _) hb3) hb4) hb5⟩
end Go.Proofs.Yteeikmpfgbfeoaa
