import Derived.Test.YteeikmpfgbfeoaaMg10
import Derived.Test.YteeikmpfgbfeoaaMg05
import Derived.Test.YteeikmpfgbfeoaaFixedOut
import Derived.Deep.Cut
import Derived.Test.YteeikmpfgbfeoaaMg07
import Derived.Test.YteeikmpfgbfeoaaBlkRPut
import Derived.Test.YteeikmpfgbfeoaaMemMath
import Derived.Laws.EntriesVeiled

/-
  Tables: open: a table is read.
-/
namespace Go.Proofs.Yteeikmpfgbfeoaa
open Go.RowKit

/-- What open tells. -/
def RetOpen (w : World) (b : List UInt8) (e : Ending) (w' : World) : Prop :=
  match getT b with
  | none => e = .returned (.tuple #[.agg #[.int .i64 0, .slice none 0 0, .slice none 0 0, .slice none 0 0], .bool false]) ∧ Below w.heap.size w w'
  | some (es, f) => ∃ (ps : List (List Ent)) (per : Nat) (ve vr vf : Value), e = .returned (.tuple #[.agg #[.int .i64 (per : Int), ve, vr, vf], .bool true]) ∧ OwnE w' w.heap.size ve es ∧ OwnR w' w.heap.size vr (rowsQ ps) ∧ OwnB w' w.heap.size 5 vf f ∧
      Seen b ps ∧ ps.flatten = es ∧ ps ≠ [] ∧ Below w.heap.size w w'

theorem atT_pos {b : List UInt8} {es : List Ent} {per : Nat} {f : List UInt8} (h : IsTabP b es per f) (hb : b.length ≤ 1000000) : 0 < atT b := by
  rw [h.at_ (by omega)]
  have h1 := (nBlk_lt (es := es) h.1 0).2 (by have := List.length_pos_iff.2 h.2.2.1.2.1; omega)
  have h2 := tabB_lt es per h1
  omega
theorem rest_rd {w : World} {bb off len cap m : Nat} {l : List UInt8} (h : RdB w (.slice (some ⟨bb, off, none⟩) len cap) l) (hm : m ≤ len) : RdB w (.slice (if cap = m then some ⟨bb, off, none⟩ else some ⟨bb, off + m, none⟩) (len - m) (cap - m)) (l.drop m) := by
  obtain ⟨a', cap', hv, h1, h2, h0, h3⟩ := h
  injection hv with hva hvl hvc
  subst hva hvc
  rw [← hvl] at h1 h0 h3
  refine ⟨_, _, by rw [List.length_drop]; congr 1; omega, by rw [List.length_drop]; omega, by omega, by simp, ?_⟩
  by_cases hc : cap = m
  · rw [if_pos hc]
    left
    refine ⟨by rw [List.length_drop]; omega, fun h => (by cases h)⟩
  · rw [if_neg hc]
    by_cases hlm : len = m
    · left
      exact ⟨by rw [List.length_drop]; omega, fun h => (by cases h)⟩
    · rcases h3 with ⟨h3, _⟩ | ⟨b', off', hb, h4, h5⟩
      · omega
      · cases hb
        refine .inr ⟨bb, off + m, rfl, h4, fun j u hj => ?_⟩
        rw [Nat.add_assoc]
        refine h5 (m + j) u ?_
        rw [List.getElem?_map, List.getElem?_drop] at hj
        rw [List.getElem?_map]
        exact hj

set_option maxRecDepth 100000 in
set_option maxHeartbeats 1000000 in
theorem open_any (v : Value) (b : List UInt8) (w : World) (hv : RdB w v b) (hl : b.length ≤ 1000000) : Calls Try.prog 29 #[v] w (RetOpen w b) := by
  have HV := Lib.hid hv
  obtain ⟨va, vc, rfl, hc1, hc2⟩ := hv.form
  unfold maxLen at hc2
  have hwf : IntKind.i64.wrap ((b.length : Int) - 16) = (b.length : Int) - 16 := IntWalk.i64_in _ (by omega)
  have hbe1 := (Below.refl w.heap.size w).alloc (Nat.le_refl _) (.cells #[.int .i64 0, .slice none 0 0, .slice none 0 0, .slice none 0 0] 74)
  have HBE1 := Lib.hid hbe1
  by_cases h16 : b.length < 16
  · have HNO : Hid (getT b = none) := Lib.hid (getT_none fun es f ⟨per, h⟩ => by have := IsTabP.len (show IsTabP b es per f from h); omega)
    have HF := Lib.hid (getFixed_out (.slice va b.length vc) b ((b.length : Int) - 16) 4 (by omega) (by omega) _ (hv.below hbe1 (Nat.le_refl _)))
    clear hv hbe1
    go_enter Try.func29, Try.ntmps29
    go_wp2_with (go_at_call 49; (refine HF.out.mono ?_); rintro e w1 ⟨rfl, rfl⟩)
    refine bodyPost_ret (results_row_tmp rfl _ _ w.heap.size 74 #[.int .i64 0, .slice none 0 0, .slice none 0 0, .slice none 0 0] (0, 0) _ rfl (heap_alloc_new w _) Try.underlying74 rfl (by kernel_rfl)) rfl ?_
    unfold RetOpen
    rw [HNO.out]
    exact ⟨rfl, HBE1.out⟩
  · obtain ⟨m, hm⟩ : ∃ m, b.length = m + 16 := ⟨b.length - 16, by omega⟩
    have hgf := getFixed_yes (.slice va b.length vc) b m 4 (by omega) (by omega) _ (hv.below hbe1 (Nat.le_refl _))
    have hat : valL ((b.drop m).take 4) = atT b := by unfold atT; rw [hm, Nat.add_sub_cancel]
    rw [hat, show (m : Int) = (b.length : Int) - 16 by omega] at hgf
    have HF := Lib.hid hgf
    have hat2 : atT b < 4294967296 := by
      have := valL_lt ((b.drop m).take 4)
      rw [hat, List.length_take, List.length_drop] at this
      have h4 : min 4 (b.length - m) = 4 := by omega
      rw [h4] at this
      omega
    clear hat hgf hm
    by_cases h0 : atT b = 0
    · have HNO : Hid (getT b = none) := Lib.hid (getT_none fun es f ⟨per, h⟩ => by have := atT_pos (show IsTabP b es per f from h) hl; omega)
      have d0 : ((atT b : Int) == 0) = true := by rw [h0]; rfl
      clear h0 hv hbe1 hat2
      go_enter Try.func29, Try.ntmps29
      go_wp2_with (go_at_call 49; (refine HF.out.mono ?_); rintro e w1 ⟨rfl, rfl⟩)
      refine bodyPost_ret (results_row_tmp rfl _ _ w.heap.size 74 #[.int .i64 0, .slice none 0 0, .slice none 0 0, .slice none 0 0] (0, 0) _ rfl (heap_alloc_new w _) Try.underlying74 rfl (by kernel_rfl)) rfl ?_
      unfold RetOpen
      rw [HNO.out]
      exact ⟨rfl, HBE1.out⟩
    · have d0 : ((atT b : Int) == 0) = false := by
        have : (atT b : Int) ≠ 0 := by omega
        simpa using this
      have HAT0 := Lib.hid h0
      clear h0 hv hbe1
      go_enter Try.func29, Try.ntmps29
      go_wp2_with (go_at_call 49; (refine HF.out.mono ?_); rintro e w1 ⟨rfl, rfl⟩)
      have hz2 := heap_new2 w (.cells #[.int .i64 0, .slice none 0 0, .slice none 0 0, .slice none 0 0] 74) (.cells #[.int .i64 0, .slice none 0 0, .slice none 0 0, .slice none 0 0] 74)
      have hOB0 : OB (w.alloc (.cells #[.int .i64 0, .slice none 0 0, .slice none 0 0, .slice none 0 0] 74)) (w.heap.size + 1) (w.heap.size + 1) ((w.alloc (.cells #[.int .i64 0, .slice none 0 0, .slice none 0 0, .slice none 0 0] 74)).alloc (.cells #[.int .i64 0, .slice none 0 0, .slice none 0 0, .slice none 0 0] 74)) (firstN []) (.slice none 0 0) (.slice none 0 0) (.slice none 0 0) ([] : List (List Ent)).flatten (rowsQ []) := ⟨hz2, World.ownsRow_nil _ _ _ _, World.ownsRow_nil _ _ _ _, (fun _ h => by cases h), (fun h => by cases h), (fun h => by cases h), (Below.refl _ _).alloc (by simp) _, by simp, Nat.le_refl _⟩
      have HOB0 := Lib.hid hOB0
      clear hz2 hOB0
      go_loopw [5, 7] (fun ok i wr => ∃ (ps : List (List Ent)) (ve vr : Value), ok = .bool true ∧ i = .int .i64 ((tabQ ps).length : Int) ∧ Hid (OB (w.alloc (.cells #[.int .i64 0, .slice none 0 0, .slice none 0 0, .slice none 0 0] 74)) (w.heap.size + 1) (w.heap.size + 1) wr (firstN ps) ve vr (.slice none 0 0) ps.flatten (rowsQ ps)) ∧ Hid (Seen b ps) ∧ Hid (Fits b ps)) (fun _ i _ => b.length - (intOf i).toNat)
      case atStart => exact ⟨[], _, _, rfl, rfl, HOB0, Lib.hid (Seen.start b), Lib.hid (Fits.start b)⟩
      case round =>
        obtain ⟨ps, ve, vr, rfl, rfl, HOB, HS, HFT⟩ := hrel
        have HVR : Hid (∀ wz, Below (w.heap.size + 1) (w.alloc (.cells #[.int .i64 0, .slice none 0 0, .slice none 0 0, .slice none 0 0] 74)) wz → RdB wz (.slice va b.length vc) b) := Lib.hid fun wz hz => (HV.out.below HBE1.out (Nat.le_refl _)).below hz (by simp)
        have HPR : Hid (∀ wz, Below (w.heap.size + 1) (w.alloc (.cells #[.int .i64 0, .slice none 0 0, .slice none 0 0, .slice none 0 0] 74)) wz → wz.heap[w.heap.size]? = some (.cells #[.int .i64 0, .slice none 0 0, .slice none 0 0, .slice none 0 0] 74 (0, 0)) ∧ Below w.heap.size w wz) := Lib.hid fun wz hz => ⟨(hz.block _ (by omega)).trans (heap_alloc_new w _), HBE1.out.trans (hz.mono (by omega))⟩
        by_cases hlt : (tabQ ps).length < atT b
        · have d1 : ((tabQ ps).length : Int) < (atT b : Int) := by omega
          by_cases hgood : ∃ x, frOk b (tabQ ps).length = true ∧ getB (frP b (tabQ ps).length) = some x ∧ NextOk ps x
          · obtain ⟨x, hf, hx, hn⟩ := hgood
            obtain ⟨hS2, hln⟩ := HS.out.more hf hx hn.1 hn.2.1 hn.2.2
            have hF2 := HFT.out.more hl hlt hx
            have hfl := frOk_le hf
            have HAD : Hid (Calls Try.prog 50 #[.pointer (some ⟨w.heap.size + 1, 0, none⟩), .slice va b.length vc, .int .i64 ((tabQ ps).length : Int)] wr fun e w' => e = .returned (.tuple #[.int .i64 ((tabQ (ps ++ [x])).length : Int), .bool true]) ∧ ∃ ve' vr', OB (w.alloc (.cells #[.int .i64 0, .slice none 0 0, .slice none 0 0, .slice none 0 0] 74)) (w.heap.size + 1) (w.heap.size + 1) w' (firstN (ps ++ [x])) ve' vr' (.slice none 0 0) (ps ++ [x]).flatten (rowsQ (ps ++ [x]))) := Lib.hid (by
              refine (add_any HOB.out (by simp) (HV.out.below HBE1.out (Nat.le_refl _)) hl HS.out).mono ?_
              rintro e w' ⟨_, ⟨y, ve', vr', _, hy, _, rfl, hob⟩ | ⟨hno, _⟩⟩
              · rw [hx] at hy
                cases hy
                exact ⟨rfl, ve', vr', hob⟩
              · rcases hno with h | h | ⟨y, hy, h⟩
                · rw [hf] at h; cases h
                · rw [hx] at h; cases h
                · rw [hx] at hy
                  cases hy
                  exact absurd hn h)
            generalize ps ++ [x] = PS at *
            have HS2 := Lib.hid hS2
            have HF2 := Lib.hid hF2
            have hgt : (tabQ ps).length < (tabQ PS).length := by omega
            have hgl : (tabQ PS).length ≤ b.length := by omega
            have HGT := Lib.hid hgt
            have HGL := Lib.hid hgl
            clear hf hx hn hS2 hln hF2 hfl hlt hgt hgl
            go_wp2_with (go_at_call 50; (refine HAD.out.mono ?_); rintro e u1 ⟨rfl, ve', vr', hob⟩; have HOB' := Lib.hid hob; clear hob)
            refine ⟨⟨PS, ve', vr', rfl, rfl, HOB', HS2, HF2⟩, ?_⟩
            have h1 := HGT.out
            have h2 := HGL.out
            simp [intOf]
            omega
          · have HNO : Hid (getT b = none) := Lib.hid (getT_none fun es f ⟨per, h⟩ => by
              obtain ⟨k1, k2, _, _⟩ := HFT.out.one hl hlt (show IsTabP b es per f from h)
              exact hgood ⟨_, k1, k2, HFT.out.takes hl hlt k2 (show IsTabP b es per f from h)⟩)
            have HAD : Hid (Calls Try.prog 50 #[.pointer (some ⟨w.heap.size + 1, 0, none⟩), .slice va b.length vc, .int .i64 ((tabQ ps).length : Int)] wr fun e w' => e = .returned (.tuple #[.int .i64 0, .bool false]) ∧ Below (w.heap.size + 1) (w.alloc (.cells #[.int .i64 0, .slice none 0 0, .slice none 0 0, .slice none 0 0] 74)) w') := Lib.hid (by
              refine (add_any HOB.out (by simp) (HV.out.below HBE1.out (Nat.le_refl _)) hl HS.out).mono ?_
              rintro e w' ⟨hb, ⟨y, _, _, hf, hy, hn, _⟩ | ⟨_, rfl⟩⟩
              · exact absurd ⟨y, hf, hy, hn⟩ hgood
              · exact ⟨rfl, hb⟩)
            clear hgood hlt
            go_wp2_with (go_at_call 50; (refine HAD.out.mono ?_); rintro e u1 ⟨rfl, hb1⟩; obtain ⟨hrow, hbu⟩ := HPR.out _ hb1; have HBU := Lib.hid hbu; clear hbu hb1; have s0 := blk_cell (i := 0) hrow; have t0 := blk_free (i := 0) hrow; have s1 := blk_cell (i := 1) hrow; have t1 := blk_free (i := 1) hrow; have s2 := blk_cell (i := 2) hrow; have t2 := blk_free (i := 2) hrow; have s3 := blk_cell (i := 3) hrow; have t3 := blk_free (i := 3) hrow; simp only [List.getElem?_toArray, List.getElem?_cons_zero, List.getElem?_cons_succ] at s0 s1 s2 s3; have HROW := Lib.hid hrow; clear hrow)
            refine bodyPost_ret (results_row_tmp rfl _ _ w.heap.size 74 #[.int .i64 0, .slice none 0 0, .slice none 0 0, .slice none 0 0] (0, 0) _ rfl ?hgC Try.underlying74 rfl (by kernel_rfl)) rfl ?_
            case hgC => exact (set4 HROW.out rfl rfl rfl rfl).1
            unfold RetOpen
            rw [HNO.out]
            exact ⟨rfl, (set4 HROW.out rfl rfl rfl rfl).2 _ (Nat.le_refl _) _ (HBU.out)⟩
        · have d1 : ¬ ((tabQ ps).length : Int) < (atT b : Int) := by omega
          have HEND := Lib.hid (fun es f per (h : IsTabP b es per f) => HFT.out.end_ hl hlt h)
          have hne : ps ≠ [] := by
            rintro rfl
            exact hlt (by show (tabQ []).length < atT b; have := HAT0.out; simp only [tabQ, List.flatMap_nil, List.length_nil]; omega)
          have HNE := Lib.hid hne
          clear hne
          have hTLb : (tabQ ps).length ≤ b.length := by
            have := congrArg List.length HS.out.bytes
            rw [List.length_take] at this
            omega
          have HTLB := Lib.hid hTLb
          have HRL : Hid ((rowsQ ps).length ≤ 256) := Lib.hid (by rw [rowsQ_len]; exact HS.out.len)
          have HRK := Lib.hid (rowsQ_ok HS.out.ok HS.out.len)
          have HTAB := Lib.hid (fun ho hr he => HS.out.table HNE.out ho hr he)
          have HOBX : Hid (∃ (FL : List Ent), ps.flatten = FL) := Lib.hid ⟨_, rfl⟩
          have hfew := HS.out.few
          have hff : ∀ e ∈ ps.flatten, e.fits := fun e he => by
            obtain ⟨p, hp, he⟩ := List.mem_flatten.1 he
            exact Ent.may_fits (rising_all (putErr_ok (HS.out.ok p hp)).1 e he)
          have HFIN := Lib.hid (fun (f : List UInt8) (hg : getT b = some (ps.flatten, f)) (w' : World) (ve' vr' vf' : Value) (h1 : OwnE w' w.heap.size ve' ps.flatten) (h2 : OwnR w' w.heap.size vr' (rowsQ ps)) (h3 : OwnB w' w.heap.size 5 vf' f) (h4 : Below w.heap.size w w') => (show RetOpen w b (.returned (.tuple #[.agg #[.int .i64 (firstN ps : Int), ve', vr', vf'], .bool true])) w' by
            unfold RetOpen
            rw [hg]
            exact ⟨ps, firstN ps, ve', vr', vf', rfl, h1, h2, h3, HS.out, rfl, HNE.out, h4⟩))
          have hg : ∀ wz, Below (w.heap.size + 1) (w.alloc (.cells #[.int .i64 0, .slice none 0 0, .slice none 0 0, .slice none 0 0] 74)) wz → Calls Try.prog 51 #[.slice va b.length vc, .int .i64 ((tabQ ps).length : Int)] wz (GetFr wz b ((tabQ ps).length : Int)) := fun wz hz => fget_any wz _ b _ (HVR.out wz hz) (by omega) (by omega)
          clear HOBX
          generalize ps.flatten = FL at *
          have HFE := Lib.hid hfew
          have HFF := Lib.hid hff
          clear hff
          clear hfew hTLb hlt
          obtain ⟨ea, ec, hve, _, _⟩ := HOB.out.ents.form
          subst hve
          obtain ⟨ra, rc, hvr, _, _⟩ := HOB.out.rows.form
          subst hvr
          cases hf : frOk b (tabQ ps).length with
          | false =>
            have HNO : Hid (getT b = none) := Lib.hid (getT_none fun es f ⟨per, h⟩ => by
              have := (HEND.out es f per h).2.1
              rw [hf] at this
              cases this)
            have HG : Hid (∀ wz, Below (w.heap.size + 1) (w.alloc (.cells #[.int .i64 0, .slice none 0 0, .slice none 0 0, .slice none 0 0] 74)) wz → Calls Try.prog 51 #[.slice va b.length vc, .int .i64 ((tabQ ps).length : Int)] wz fun e w' => e = .returned (.tuple #[.slice none 0 0, .int .i64 0, .bool false]) ∧ Below wz.heap.size wz w') := Lib.hid fun wz hz => by
              refine (hg wz hz).mono ?_
              rintro e w' (⟨_, rfl, hb⟩ | ⟨p, hp, ho, _⟩)
              · exact ⟨rfl, hb⟩
              · obtain rfl : p = (tabQ ps).length := by omega
                rw [hf] at ho
                cases ho
            clear hg hf
            go_upto_region 11 with (go_at_call 51; (refine (HG.out _ HOB.out.be).mono ?_); rintro e u5 ⟨rfl, hb5⟩; have HOB5 := Lib.hid ((HOB.out.call hb5).call (Below.refl _ _).drew); clear hb5)
            refine wp_region_two (fun wz => wz.cell? ⟨w.heap.size + 1, 1, none⟩ = some (.slice ea FL.length ec) ∧ wz.cell? ⟨w.heap.size + 1, 2, none⟩ = some (.slice ra (rowsQ ps).length rc)) (fun _ => True) [(0, 0), (0, 1), (0, 2), (0, 3), (0, 4), (2, 5), (0, 6), (0, 7), (0, 8), (0, 9), (0, 10), (0, 11), (0, 12), (0, 13), (0, 14), (0, 15), (0, 16), (0, 17), (0, 18), (2, 19), (2, 20), (0, 21), (0, 22)] [] (by kernel_rfl) (by kernel_rfl) (by kernel_rfl) (by kernel_rfl) (by kernel_rfl) ⟨HOB5.out.cell 1, HOB5.out.cell 2⟩ trivial ?_
            simp only [planT, List.drop_succ_cons, List.drop_zero]
            refine PlanT.take0 (v := ?vQ0) (by kernel_rfl) ?yQ0 ?rQ0
            case yQ0 => (intro wz hz; have z1 := hz.1; have z2 := hz.2; go_simp; try with_reducible rfl)
            (try simp only [Act.put, List.setIfInBounds_toArray, List.set_cons_zero, List.set_cons_succ])
            refine PlanT.take0 (v := .bool true) (by kernel_rfl) ?yQ1 ?rQ1
            case yQ1 => (intro wz hz; have z1 := hz.1; have z2 := hz.2; go_simp; try with_reducible rfl)
            (try simp only [Act.put, List.setIfInBounds_toArray, List.set_cons_zero, List.set_cons_succ])
            refine PlanT.take0 (v := .bool true) (by kernel_rfl) ?yQ2 ?rQ2
            case yQ2 => (intro wz hz; have z1 := hz.1; have z2 := hz.2; go_simp; try with_reducible rfl)
            (try simp only [Act.put, List.setIfInBounds_toArray, List.set_cons_zero, List.set_cons_succ])
            refine PlanT.skip (by kernel_rfl) ?_
            (try simp only [Act.put, List.setIfInBounds_toArray, List.set_cons_zero, List.set_cons_succ])
            refine PlanT.skip (by kernel_rfl) ?_
            (try simp only [Act.put, List.setIfInBounds_toArray, List.set_cons_zero, List.set_cons_succ])
            refine PlanT.skip (by kernel_rfl) ?_
            (try simp only [Act.put, List.setIfInBounds_toArray, List.set_cons_zero, List.set_cons_succ])
            refine PlanT.skip (by kernel_rfl) ?_
            (try simp only [Act.put, List.setIfInBounds_toArray, List.set_cons_zero, List.set_cons_succ])
            refine PlanT.take0 (v := .bool true) (by kernel_rfl) ?yQ7 ?rQ7
            case yQ7 => (intro wz hz; have z1 := hz.1; have z2 := hz.2; go_simp; try with_reducible rfl)
            (try simp only [Act.put, List.setIfInBounds_toArray, List.set_cons_zero, List.set_cons_succ])
            refine PlanT.take0 (v := .bool true) (by kernel_rfl) ?yQ8 ?rQ8
            case yQ8 => (intro wz hz; have z1 := hz.1; have z2 := hz.2; go_simp; try with_reducible rfl)
            (try simp only [Act.put, List.setIfInBounds_toArray, List.set_cons_zero, List.set_cons_succ])
            refine PlanT.skip (by kernel_rfl) ?_
            (try simp only [Act.put, List.setIfInBounds_toArray, List.set_cons_zero, List.set_cons_succ])
            refine PlanT.skip (by kernel_rfl) ?_
            (try simp only [Act.put, List.setIfInBounds_toArray, List.set_cons_zero, List.set_cons_succ])
            refine PlanT.skip (by kernel_rfl) ?_
            (try simp only [Act.put, List.setIfInBounds_toArray, List.set_cons_zero, List.set_cons_succ])
            refine PlanT.skip (by kernel_rfl) ?_
            (try simp only [Act.put, List.setIfInBounds_toArray, List.set_cons_zero, List.set_cons_succ])
            refine PlanT.skip (by kernel_rfl) ?_
            (try simp only [Act.put, List.setIfInBounds_toArray, List.set_cons_zero, List.set_cons_succ])
            refine PlanT.skip (by kernel_rfl) ?_
            (try simp only [Act.put, List.setIfInBounds_toArray, List.set_cons_zero, List.set_cons_succ])
            refine PlanT.skip (by kernel_rfl) ?_
            (try simp only [Act.put, List.setIfInBounds_toArray, List.set_cons_zero, List.set_cons_succ])
            refine PlanT.skip (by kernel_rfl) ?_
            (try simp only [Act.put, List.setIfInBounds_toArray, List.set_cons_zero, List.set_cons_succ])
            refine PlanT.skip (by kernel_rfl) ?_
            (try simp only [Act.put, List.setIfInBounds_toArray, List.set_cons_zero, List.set_cons_succ])
            refine PlanT.skip (by kernel_rfl) ?_
            (try simp only [Act.put, List.setIfInBounds_toArray, List.set_cons_zero, List.set_cons_succ])
            refine PlanT.skip (by kernel_rfl) ?_
            (try simp only [Act.put, List.setIfInBounds_toArray, List.set_cons_zero, List.set_cons_succ])
            refine PlanT.skip (by kernel_rfl) ?_
            (try simp only [Act.put, List.setIfInBounds_toArray, List.set_cons_zero, List.set_cons_succ])
            refine PlanT.skip (by kernel_rfl) ?_
            (try simp only [Act.put, List.setIfInBounds_toArray, List.set_cons_zero, List.set_cons_succ])
            refine PlanT.take0 (v := ?vQ22) (by kernel_rfl) ?yQ22 ?rQ22
            case yQ22 => (intro wz hz; have z1 := hz.1; have z2 := hz.2; go_simp; try with_reducible rfl)
            (try simp only [Act.put, List.setIfInBounds_toArray, List.set_cons_zero, List.set_cons_succ])
            refine PlanT.done (NoPanic.normal ?_)
            obtain ⟨uw, huw⟩ : ∃ uw, u5.drew = uw := ⟨_, rfl⟩
            rw [huw] at HOB5 ⊢
            clear huw
            obtain ⟨hrow, hbu⟩ := HPR.out _ HOB5.out.be
            have HBU := Lib.hid hbu
            clear hbu
            have s0 := blk_cell (i := 0) hrow
            have t0 := blk_free (i := 0) hrow
            have s1 := blk_cell (i := 1) hrow
            have t1 := blk_free (i := 1) hrow
            have s2 := blk_cell (i := 2) hrow
            have t2 := blk_free (i := 2) hrow
            have s3 := blk_cell (i := 3) hrow
            have t3 := blk_free (i := 3) hrow
            simp only [List.getElem?_toArray, List.getElem?_cons_zero, List.getElem?_cons_succ] at s0 s1 s2 s3
            have HROW := Lib.hid hrow
            clear hrow
            go_wp2
            refine bodyPost_ret (results_row_tmp rfl _ _ w.heap.size 74 #[.int .i64 0, .slice none 0 0, .slice none 0 0, .slice none 0 0] (0, 0) _ rfl ?hgD Try.underlying74 rfl (by kernel_rfl)) rfl ?_
            case hgD => exact (set4 HROW.out rfl rfl rfl rfl).1
            unfold RetOpen
            rw [HNO.out]
            exact ⟨rfl, (set4 HROW.out rfl rfl rfl rfl).2 _ (Nat.le_refl _) _ (HBU.out)⟩
          | true =>
            have hle := frOk_le hf
            have hfl := frP_length hle
            have HLE := Lib.hid hle
            have HG : Hid (∀ wz, Below (w.heap.size + 1) (w.alloc (.cells #[.int .i64 0, .slice none 0 0, .slice none 0 0, .slice none 0 0] 74)) wz → Calls Try.prog 51 #[.slice va b.length vc, .int .i64 ((tabQ ps).length : Int)] wz fun e w' => ∃ u, e = .returned (.tuple #[u, .int .i64 (((tabQ ps).length + 8 + frN b (tabQ ps).length : Nat) : Int), .bool true]) ∧ OwnB w' wz.heap.size 5 u (frP b (tabQ ps).length) ∧ Below wz.heap.size wz w') := Lib.hid fun wz hz => by
              refine (hg wz hz).mono ?_
              rintro e w' (⟨hno, _, _⟩ | ⟨p, hp, _, u, rfl, ho, hb⟩)
              · have := hno _ rfl
                rw [hf] at this
                cases this
              · obtain rfl : p = (tabQ ps).length := by omega
                exact ⟨u, rfl, ho, hb⟩
            have HFO := Lib.hid hf
            clear hg hf
            generalize hM : (tabQ ps).length + 8 + frN b (tabQ ps).length = M at *
            have HRI0 : ∀ xv wz B, OwnE wz B xv FL → (∀ e ∈ FL, e.fits) → Calls Try.prog 21 #[xv] wz fun e w' => e = .returned (.bool (risingB FL)) ∧ Below wz.heap.size wz w' := fun xv wz B h hf => rising_any xv FL wz (h.read hf)
            obtain ⟨bb, bo, hbv⟩ : ∃ bb bo, va = some ⟨bb, bo, none⟩ := by
              obtain ⟨bb, bo, cap, h, _⟩ := HV.out.cells (by rintro rfl; simp at h16)
              cases h
              exact ⟨bb, bo, rfl⟩
            subst hbv
            obtain ⟨sv, hsv⟩ : ∃ sv, sv = (if vc = M then some (⟨bb, bo, none⟩ : Addr) else some ⟨bb, bo + M, none⟩) := ⟨_, rfl⟩
            have HSV := Lib.hid hsv
            clear hsv
            have HEQ : Hid (∀ wz y, Below (w.heap.size + 1) (w.alloc (.cells #[.int .i64 0, .slice none 0 0, .slice none 0 0, .slice none 0 0] 74)) wz → RdB wz y (endB (rowsQ ps) ((tabQ ps).length : Int) (M : Int) (FL.length : Int)) → Calls Try.prog 52 #[.slice sv (b.length - M) (vc - M), y] wz fun e w' => e = .returned (.bool (decide (b.drop M = endB (rowsQ ps) ((tabQ ps).length : Int) (M : Int) (FL.length : Int)))) ∧ Below wz.heap.size wz w') := Lib.hid fun wz y hz hy => by
              have hr := rest_rd (m := M) (HVR.out wz hz) (by omega)
              obtain ⟨ya, yc, rfl, _, _⟩ := hy.form
              rw [← HSV.out] at hr
              have h := equal_any12 wz sv ya (vc - M) yc (b.drop M) _ (by rw [List.length_drop]; exact hr) hy
              rw [List.length_drop] at h
              exact h
            have HPE : Hid (∀ (rv : Value) (wz : World), RdR wz rv (rowsQ ps) → Calls Try.prog 28 #[rv, .int .i64 ((tabQ ps).length : Int), .int .i64 (M : Int), .int .i64 (FL.length : Int)] wz (RetB wz.heap.size wz (endB (rowsQ ps) ((tabQ ps).length : Int) (M : Int) (FL.length : Int)))) := Lib.hid fun rv wz h => putEnd_any rv _ _ _ _ wz h HRK.out HRL.out
            have hMl : M ≤ b.length := by have := HLE.out; omega
            have hM1 : (M : Int) ≤ (b.length : Int) := by omega
            clear hle hM hfl
            cases hr : risingB FL with
            | false =>
              have HNO : Hid (getT b = none) := Lib.hid (getT_none fun es f ⟨per, h⟩ => by
                have := (HEND.out es f per h).2.2.2.1
                rw [hr] at this
                cases this)
              have HRI : Hid (∀ wz, OwnE wz (w.heap.size + 1) (.slice ea FL.length ec) FL → Calls Try.prog 21 #[.slice ea FL.length ec] wz fun e w' => e = .returned (.bool false) ∧ Below wz.heap.size wz w') := Lib.hid fun wz h => by
                have h := HRI0 _ wz _ h HFF.out
                rw [hr] at h
                exact h
              clear hr HRI0
              go_upto_region 11 with (go_at_call 51; (refine (HG.out _ HOB.out.be).mono ?_); rintro e u5 ⟨y5, rfl, ho5, hb5⟩; have HOB5 := Lib.hid ((HOB.out.call hb5).call (Below.refl _ _).drew); clear hb5 ho5)
              refine wp_region_two (fun wz => wz.cell? ⟨w.heap.size + 1, 1, none⟩ = some (.slice ea FL.length ec) ∧ wz.cell? ⟨w.heap.size + 1, 2, none⟩ = some (.slice ra (rowsQ ps).length rc)) (fun _ => True) [(0, 0), (0, 1), (0, 2), (0, 3), (0, 4), (2, 5), (0, 6), (0, 7), (0, 8), (0, 9), (0, 10), (0, 11), (0, 12), (0, 13), (0, 14), (0, 15), (0, 16), (0, 17), (0, 18), (2, 19), (2, 20), (0, 21), (0, 22)] [] (by kernel_rfl) (by kernel_rfl) (by kernel_rfl) (by kernel_rfl) (by kernel_rfl) ⟨HOB5.out.cell 1, HOB5.out.cell 2⟩ trivial ?_
              simp only [planT, List.drop_succ_cons, List.drop_zero]
              refine PlanT.take0 (v := ?vR0) (by kernel_rfl) ?yR0 ?rR0
              case yR0 => (intro wz hz; have z1 := hz.1; have z2 := hz.2; go_simp; try with_reducible rfl)
              (try simp only [Act.put, List.setIfInBounds_toArray, List.set_cons_zero, List.set_cons_succ])
              refine PlanT.take0 (v := .bool false) (by kernel_rfl) ?yR1 ?rR1
              case yR1 => (intro wz hz; have z1 := hz.1; have z2 := hz.2; go_simp; try with_reducible rfl)
              (try simp only [Act.put, List.setIfInBounds_toArray, List.set_cons_zero, List.set_cons_succ])
              refine PlanT.take0 (v := .bool false) (by kernel_rfl) ?yR2 ?rR2
              case yR2 => (intro wz hz; have z1 := hz.1; have z2 := hz.2; go_simp; try with_reducible rfl)
              (try simp only [Act.put, List.setIfInBounds_toArray, List.set_cons_zero, List.set_cons_succ])
              refine PlanT.take0 (v := ?vR3) (by kernel_rfl) ?yR3 ?rR3
              case yR3 => (intro wz hz; have z1 := hz.1; have z2 := hz.2; go_simp; try with_reducible rfl)
              (try simp only [Act.put, List.setIfInBounds_toArray, List.set_cons_zero, List.set_cons_succ])
              refine PlanT.take0 (v := ?vR4) (by kernel_rfl) ?yR4 ?rR4
              case yR4 => (intro wz hz; have z1 := hz.1; have z2 := hz.2; go_simp; try with_reducible rfl)
              (try simp only [Act.put, List.setIfInBounds_toArray, List.set_cons_zero, List.set_cons_succ])
              refine PlanT.exec2 (fun K hK => ⟨by kernel_rfl, ?_⟩)
              go_simp
              refine (HRI.out _ HOB5.out.ents).mono ?_
              rintro e u6 ⟨rfl, hb6⟩
              have HOB6 := Lib.hid (HOB5.out.call hb6)
              skip
              clear hb6
              refine hK.out _ _ ⟨HOB6.out.cell 1, HOB6.out.cell 2⟩ trivial ?_
              clear hK K
              (try simp only [Act.put, List.setIfInBounds_toArray, List.set_cons_zero, List.set_cons_succ])
              refine PlanT.take0 (v := .bool true) (by kernel_rfl) ?yR6 ?rR6
              case yR6 => (intro wz hz; have z1 := hz.1; have z2 := hz.2; go_simp; try with_reducible rfl)
              (try simp only [Act.put, List.setIfInBounds_toArray, List.set_cons_zero, List.set_cons_succ])
              refine PlanT.take0 (v := .bool true) (by kernel_rfl) ?yR7 ?rR7
              case yR7 => (intro wz hz; have z1 := hz.1; have z2 := hz.2; go_simp; try with_reducible rfl)
              (try simp only [Act.put, List.setIfInBounds_toArray, List.set_cons_zero, List.set_cons_succ])
              refine PlanT.take0 (v := .bool true) (by kernel_rfl) ?yR8 ?rR8
              case yR8 => (intro wz hz; have z1 := hz.1; have z2 := hz.2; go_simp; try with_reducible rfl)
              (try simp only [Act.put, List.setIfInBounds_toArray, List.set_cons_zero, List.set_cons_succ])
              refine PlanT.skip (by kernel_rfl) ?_
              (try simp only [Act.put, List.setIfInBounds_toArray, List.set_cons_zero, List.set_cons_succ])
              refine PlanT.skip (by kernel_rfl) ?_
              (try simp only [Act.put, List.setIfInBounds_toArray, List.set_cons_zero, List.set_cons_succ])
              refine PlanT.skip (by kernel_rfl) ?_
              (try simp only [Act.put, List.setIfInBounds_toArray, List.set_cons_zero, List.set_cons_succ])
              refine PlanT.skip (by kernel_rfl) ?_
              (try simp only [Act.put, List.setIfInBounds_toArray, List.set_cons_zero, List.set_cons_succ])
              refine PlanT.skip (by kernel_rfl) ?_
              (try simp only [Act.put, List.setIfInBounds_toArray, List.set_cons_zero, List.set_cons_succ])
              refine PlanT.skip (by kernel_rfl) ?_
              (try simp only [Act.put, List.setIfInBounds_toArray, List.set_cons_zero, List.set_cons_succ])
              refine PlanT.skip (by kernel_rfl) ?_
              (try simp only [Act.put, List.setIfInBounds_toArray, List.set_cons_zero, List.set_cons_succ])
              refine PlanT.skip (by kernel_rfl) ?_
              (try simp only [Act.put, List.setIfInBounds_toArray, List.set_cons_zero, List.set_cons_succ])
              refine PlanT.skip (by kernel_rfl) ?_
              (try simp only [Act.put, List.setIfInBounds_toArray, List.set_cons_zero, List.set_cons_succ])
              refine PlanT.skip (by kernel_rfl) ?_
              (try simp only [Act.put, List.setIfInBounds_toArray, List.set_cons_zero, List.set_cons_succ])
              refine PlanT.skip (by kernel_rfl) ?_
              (try simp only [Act.put, List.setIfInBounds_toArray, List.set_cons_zero, List.set_cons_succ])
              refine PlanT.skip (by kernel_rfl) ?_
              (try simp only [Act.put, List.setIfInBounds_toArray, List.set_cons_zero, List.set_cons_succ])
              refine PlanT.skip (by kernel_rfl) ?_
              (try simp only [Act.put, List.setIfInBounds_toArray, List.set_cons_zero, List.set_cons_succ])
              refine PlanT.take0 (v := ?vR22) (by kernel_rfl) ?yR22 ?rR22
              case yR22 => (intro wz hz; have z1 := hz.1; have z2 := hz.2; go_simp; try with_reducible rfl)
              (try simp only [Act.put, List.setIfInBounds_toArray, List.set_cons_zero, List.set_cons_succ])
              refine PlanT.done (NoPanic.normal ?_)
              obtain ⟨hrow, hbu⟩ := HPR.out _ HOB6.out.be
              have HBU := Lib.hid hbu
              clear hbu
              have s0 := blk_cell (i := 0) hrow
              have t0 := blk_free (i := 0) hrow
              have s1 := blk_cell (i := 1) hrow
              have t1 := blk_free (i := 1) hrow
              have s2 := blk_cell (i := 2) hrow
              have t2 := blk_free (i := 2) hrow
              have s3 := blk_cell (i := 3) hrow
              have t3 := blk_free (i := 3) hrow
              simp only [List.getElem?_toArray, List.getElem?_cons_zero, List.getElem?_cons_succ] at s0 s1 s2 s3
              have HROW := Lib.hid hrow
              clear hrow
              go_wp2
              refine bodyPost_ret (results_row_tmp rfl _ _ w.heap.size 74 #[.int .i64 0, .slice none 0 0, .slice none 0 0, .slice none 0 0] (0, 0) _ rfl ?hgE Try.underlying74 rfl (by kernel_rfl)) rfl ?_
              case hgE => exact (set4 HROW.out rfl rfl rfl rfl).1
              unfold RetOpen
              rw [HNO.out]
              exact ⟨rfl, (set4 HROW.out rfl rfl rfl rfl).2 _ (Nat.le_refl _) _ (HBU.out)⟩
            | true =>
              have HRT := Lib.hid hr
              have HRI : Hid (∀ wz, OwnE wz (w.heap.size + 1) (.slice ea FL.length ec) FL → Calls Try.prog 21 #[.slice ea FL.length ec] wz fun e w' => e = .returned (.bool true) ∧ Below wz.heap.size wz w') := Lib.hid fun wz h => by
                have h := HRI0 _ wz _ h HFF.out
                rw [hr] at h
                exact h
              clear hr HRI0
              cases he : decide (b.drop M = endB (rowsQ ps) ((tabQ ps).length : Int) (M : Int) (FL.length : Int)) with
              | false =>
                have HNO : Hid (getT b = none) := Lib.hid (getT_none fun es f ⟨per, h⟩ => by
                  have := (HEND.out es f per h).2.2.2.2
                  exact of_decide_eq_false he this)
                rw [he] at HEQ
                clear he
                go_upto_region 11 with (go_at_call 51; (refine (HG.out _ HOB.out.be).mono ?_); rintro e u5 ⟨y5, rfl, ho5, hb5⟩; have HOB5 := Lib.hid ((HOB.out.call hb5).call (Below.refl _ _).drew); clear hb5 ho5)
                refine wp_region_two (fun wz => wz.cell? ⟨w.heap.size + 1, 1, none⟩ = some (.slice ea FL.length ec) ∧ wz.cell? ⟨w.heap.size + 1, 2, none⟩ = some (.slice ra (rowsQ ps).length rc)) (fun _ => True) [(0, 0), (0, 1), (0, 2), (0, 3), (0, 4), (2, 5), (0, 6), (0, 7), (0, 8), (0, 9), (0, 10), (0, 11), (0, 12), (0, 13), (0, 14), (0, 15), (0, 16), (0, 17), (0, 18), (2, 19), (2, 20), (0, 21), (0, 22)] [] (by kernel_rfl) (by kernel_rfl) (by kernel_rfl) (by kernel_rfl) (by kernel_rfl) ⟨HOB5.out.cell 1, HOB5.out.cell 2⟩ trivial ?_
                simp only [planT, List.drop_succ_cons, List.drop_zero]
                refine PlanT.take0 (v := ?vS0) (by kernel_rfl) ?yS0 ?rS0
                case yS0 => (intro wz hz; have z1 := hz.1; have z2 := hz.2; go_simp; try with_reducible rfl)
                (try simp only [Act.put, List.setIfInBounds_toArray, List.set_cons_zero, List.set_cons_succ])
                refine PlanT.take0 (v := .bool false) (by kernel_rfl) ?yS1 ?rS1
                case yS1 => (intro wz hz; have z1 := hz.1; have z2 := hz.2; go_simp; try with_reducible rfl)
                (try simp only [Act.put, List.setIfInBounds_toArray, List.set_cons_zero, List.set_cons_succ])
                refine PlanT.take0 (v := .bool false) (by kernel_rfl) ?yS2 ?rS2
                case yS2 => (intro wz hz; have z1 := hz.1; have z2 := hz.2; go_simp; try with_reducible rfl)
                (try simp only [Act.put, List.setIfInBounds_toArray, List.set_cons_zero, List.set_cons_succ])
                refine PlanT.take0 (v := ?vS3) (by kernel_rfl) ?yS3 ?rS3
                case yS3 => (intro wz hz; have z1 := hz.1; have z2 := hz.2; go_simp; try with_reducible rfl)
                (try simp only [Act.put, List.setIfInBounds_toArray, List.set_cons_zero, List.set_cons_succ])
                refine PlanT.take0 (v := ?vS4) (by kernel_rfl) ?yS4 ?rS4
                case yS4 => (intro wz hz; have z1 := hz.1; have z2 := hz.2; go_simp; try with_reducible rfl)
                (try simp only [Act.put, List.setIfInBounds_toArray, List.set_cons_zero, List.set_cons_succ])
                refine PlanT.exec2 (fun K hK => ⟨by kernel_rfl, ?_⟩)
                go_simp
                refine (HRI.out _ HOB5.out.ents).mono ?_
                rintro e u6 ⟨rfl, hb6⟩
                have HOB6 := Lib.hid (HOB5.out.call hb6)
                skip
                clear hb6
                refine hK.out _ _ ⟨HOB6.out.cell 1, HOB6.out.cell 2⟩ trivial ?_
                clear hK K
                (try simp only [Act.put, List.setIfInBounds_toArray, List.set_cons_zero, List.set_cons_succ])
                refine PlanT.take0 (v := .bool false) (by kernel_rfl) ?yS6 ?rS6
                case yS6 => (intro wz hz; have z1 := hz.1; have z2 := hz.2; go_simp; try with_reducible rfl)
                (try simp only [Act.put, List.setIfInBounds_toArray, List.set_cons_zero, List.set_cons_succ])
                refine PlanT.take0 (v := .bool false) (by kernel_rfl) ?yS7 ?rS7
                case yS7 => (intro wz hz; have z1 := hz.1; have z2 := hz.2; go_simp; try with_reducible rfl)
                (try simp only [Act.put, List.setIfInBounds_toArray, List.set_cons_zero, List.set_cons_succ])
                refine PlanT.take0 (v := .bool false) (by kernel_rfl) ?yS8 ?rS8
                case yS8 => (intro wz hz; have z1 := hz.1; have z2 := hz.2; go_simp; try with_reducible rfl)
                (try simp only [Act.put, List.setIfInBounds_toArray, List.set_cons_zero, List.set_cons_succ])
                refine PlanT.take0 (v := ?vS9) (by kernel_rfl) ?yS9 ?rS9
                case yS9 => (intro wz hz; have z1 := hz.1; have z2 := hz.2; go_simp; try with_reducible rfl)
                (try simp only [Act.put, List.setIfInBounds_toArray, List.set_cons_zero, List.set_cons_succ])
                refine PlanT.take0 (v := ?vS10) (by kernel_rfl) ?yS10 ?rS10
                case yS10 => (intro wz hz; have z1 := hz.1; have z2 := hz.2; go_simp; try with_reducible rfl)
                (try simp only [Act.put, List.setIfInBounds_toArray, List.set_cons_zero, List.set_cons_succ])
                refine PlanT.take0 (v := .slice sv (b.length - M) (vc - M)) (by kernel_rfl) ?yS11 ?rS11
                case yS11 => (intro wz hz; have z1 := hz.1; have z2 := hz.2; rw [HSV.out]; go_simp; try with_reducible rfl)
                (try simp only [Act.put, List.setIfInBounds_toArray, List.set_cons_zero, List.set_cons_succ])
                refine PlanT.take0 (v := ?vS12) (by kernel_rfl) ?yS12 ?rS12
                case yS12 => (intro wz hz; have z1 := hz.1; have z2 := hz.2; go_simp; try with_reducible rfl)
                (try simp only [Act.put, List.setIfInBounds_toArray, List.set_cons_zero, List.set_cons_succ])
                refine PlanT.take0 (v := ?vS13) (by kernel_rfl) ?yS13 ?rS13
                case yS13 => (intro wz hz; have z1 := hz.1; have z2 := hz.2; go_simp; try with_reducible rfl)
                (try simp only [Act.put, List.setIfInBounds_toArray, List.set_cons_zero, List.set_cons_succ])
                refine PlanT.take0 (v := ?vS14) (by kernel_rfl) ?yS14 ?rS14
                case yS14 => (intro wz hz; have z1 := hz.1; have z2 := hz.2; go_simp; try with_reducible rfl)
                (try simp only [Act.put, List.setIfInBounds_toArray, List.set_cons_zero, List.set_cons_succ])
                refine PlanT.take0 (v := ?vS15) (by kernel_rfl) ?yS15 ?rS15
                case yS15 => (intro wz hz; have z1 := hz.1; have z2 := hz.2; go_simp; try with_reducible rfl)
                (try simp only [Act.put, List.setIfInBounds_toArray, List.set_cons_zero, List.set_cons_succ])
                refine PlanT.take0 (v := ?vS16) (by kernel_rfl) ?yS16 ?rS16
                case yS16 => (intro wz hz; have z1 := hz.1; have z2 := hz.2; go_simp; try with_reducible rfl)
                (try simp only [Act.put, List.setIfInBounds_toArray, List.set_cons_zero, List.set_cons_succ])
                refine PlanT.take0 (v := ?vS17) (by kernel_rfl) ?yS17 ?rS17
                case yS17 => (intro wz hz; have z1 := hz.1; have z2 := hz.2; go_simp; try with_reducible rfl)
                (try simp only [Act.put, List.setIfInBounds_toArray, List.set_cons_zero, List.set_cons_succ])
                refine PlanT.take0 (v := ?vS18) (by kernel_rfl) ?yS18 ?rS18
                case yS18 => (intro wz hz; have z1 := hz.1; have z2 := hz.2; go_simp; try with_reducible rfl)
                (try simp only [Act.put, List.setIfInBounds_toArray, List.set_cons_zero, List.set_cons_succ])
                refine PlanT.exec2 (fun K hK => ⟨by kernel_rfl, ?_⟩)
                go_simp
                refine (HPE.out _ _ HOB6.out.rows.read).mono ?_
                rintro e u7 ⟨y7, rfl, ho7, hb7⟩
                have HOB7 := Lib.hid (HOB6.out.call hb7)
                skip
                have HE7 := Lib.hid ho7.read
                clear ho7 hb7
                refine hK.out _ _ ⟨HOB7.out.cell 1, HOB7.out.cell 2⟩ trivial ?_
                clear hK K
                (try simp only [Act.put, List.setIfInBounds_toArray, List.set_cons_zero, List.set_cons_succ])
                refine PlanT.exec2 (fun K hK => ⟨by kernel_rfl, ?_⟩)
                go_simp
                refine (HEQ.out _ _ HOB7.out.be HE7.out).mono ?_
                rintro e u8 ⟨rfl, hb8⟩
                have HOB8 := Lib.hid (HOB7.out.call hb8)
                skip
                clear hb8
                refine hK.out _ _ ⟨HOB8.out.cell 1, HOB8.out.cell 2⟩ trivial ?_
                clear hK K
                (try simp only [Act.put, List.setIfInBounds_toArray, List.set_cons_zero, List.set_cons_succ])
                refine PlanT.take0 (v := ?vS21) (by kernel_rfl) ?yS21 ?rS21
                case yS21 => (intro wz hz; have z1 := hz.1; have z2 := hz.2; go_simp; try with_reducible rfl)
                (try simp only [Act.put, List.setIfInBounds_toArray, List.set_cons_zero, List.set_cons_succ])
                refine PlanT.take0 (v := ?vS22) (by kernel_rfl) ?yS22 ?rS22
                case yS22 => (intro wz hz; have z1 := hz.1; have z2 := hz.2; go_simp; try with_reducible rfl)
                (try simp only [Act.put, List.setIfInBounds_toArray, List.set_cons_zero, List.set_cons_succ])
                refine PlanT.done (NoPanic.normal ?_)
                obtain ⟨hrow, hbu⟩ := HPR.out _ HOB8.out.be
                have HBU := Lib.hid hbu
                clear hbu
                have s0 := blk_cell (i := 0) hrow
                have t0 := blk_free (i := 0) hrow
                have s1 := blk_cell (i := 1) hrow
                have t1 := blk_free (i := 1) hrow
                have s2 := blk_cell (i := 2) hrow
                have t2 := blk_free (i := 2) hrow
                have s3 := blk_cell (i := 3) hrow
                have t3 := blk_free (i := 3) hrow
                simp only [List.getElem?_toArray, List.getElem?_cons_zero, List.getElem?_cons_succ] at s0 s1 s2 s3
                have HROW := Lib.hid hrow
                clear hrow
                go_wp2
                refine bodyPost_ret (results_row_tmp rfl _ _ w.heap.size 74 #[.int .i64 0, .slice none 0 0, .slice none 0 0, .slice none 0 0] (0, 0) _ rfl ?hgF Try.underlying74 rfl (by kernel_rfl)) rfl ?_
                case hgF => exact (set4 HROW.out rfl rfl rfl rfl).1
                unfold RetOpen
                rw [HNO.out]
                exact ⟨rfl, (set4 HROW.out rfl rfl rfl rfl).2 _ (Nat.le_refl _) _ (HBU.out)⟩
              | true =>
                have HGT : Hid (getT b = some (FL, frP b (tabQ ps).length)) := Lib.hid (getT_some hl (HTAB.out HFO.out HRT.out (of_decide_eq_true he)))
                rw [he] at HEQ
                clear he
                go_upto_region 11 with (go_at_call 51; (refine (HG.out _ HOB.out.be).mono ?_); rintro e u5 ⟨y5, rfl, ho5, hb5⟩; (obtain ⟨ya5, yc5, hy5, _, _⟩ := ho5.read.form); subst hy5; have HOB5 := Lib.hid ((HOB.out.call hb5).call (Below.refl _ _).drew); have HY5 := Lib.hid (OwnB.below ho5 (Below.refl u5.heap.size u5).drew (Nat.le_refl _)); clear hb5 ho5)
                refine wp_region_two (fun wz => wz.cell? ⟨w.heap.size + 1, 1, none⟩ = some (.slice ea FL.length ec) ∧ wz.cell? ⟨w.heap.size + 1, 2, none⟩ = some (.slice ra (rowsQ ps).length rc)) (fun _ => True) [(0, 0), (0, 1), (0, 2), (0, 3), (0, 4), (2, 5), (0, 6), (0, 7), (0, 8), (0, 9), (0, 10), (0, 11), (0, 12), (0, 13), (0, 14), (0, 15), (0, 16), (0, 17), (0, 18), (2, 19), (2, 20), (0, 21), (0, 22)] [] (by kernel_rfl) (by kernel_rfl) (by kernel_rfl) (by kernel_rfl) (by kernel_rfl) ⟨HOB5.out.cell 1, HOB5.out.cell 2⟩ trivial ?_
                simp only [planT, List.drop_succ_cons, List.drop_zero]
                refine PlanT.take0 (v := ?vT0) (by kernel_rfl) ?yT0 ?rT0
                case yT0 => (intro wz hz; have z1 := hz.1; have z2 := hz.2; go_simp; try with_reducible rfl)
                (try simp only [Act.put, List.setIfInBounds_toArray, List.set_cons_zero, List.set_cons_succ])
                refine PlanT.take0 (v := .bool false) (by kernel_rfl) ?yT1 ?rT1
                case yT1 => (intro wz hz; have z1 := hz.1; have z2 := hz.2; go_simp; try with_reducible rfl)
                (try simp only [Act.put, List.setIfInBounds_toArray, List.set_cons_zero, List.set_cons_succ])
                refine PlanT.take0 (v := .bool false) (by kernel_rfl) ?yT2 ?rT2
                case yT2 => (intro wz hz; have z1 := hz.1; have z2 := hz.2; go_simp; try with_reducible rfl)
                (try simp only [Act.put, List.setIfInBounds_toArray, List.set_cons_zero, List.set_cons_succ])
                refine PlanT.take0 (v := ?vT3) (by kernel_rfl) ?yT3 ?rT3
                case yT3 => (intro wz hz; have z1 := hz.1; have z2 := hz.2; go_simp; try with_reducible rfl)
                (try simp only [Act.put, List.setIfInBounds_toArray, List.set_cons_zero, List.set_cons_succ])
                refine PlanT.take0 (v := ?vT4) (by kernel_rfl) ?yT4 ?rT4
                case yT4 => (intro wz hz; have z1 := hz.1; have z2 := hz.2; go_simp; try with_reducible rfl)
                (try simp only [Act.put, List.setIfInBounds_toArray, List.set_cons_zero, List.set_cons_succ])
                refine PlanT.exec2 (fun K hK => ⟨by kernel_rfl, ?_⟩)
                go_simp
                refine (HRI.out _ HOB5.out.ents).mono ?_
                rintro e u6 ⟨rfl, hb6⟩
                have HOB6 := Lib.hid (HOB5.out.call hb6)
                have HY6 := Lib.hid (OwnB.below HY5.out hb6 (Nat.le_refl _))
                clear hb6
                refine hK.out _ _ ⟨HOB6.out.cell 1, HOB6.out.cell 2⟩ trivial ?_
                clear hK K
                (try simp only [Act.put, List.setIfInBounds_toArray, List.set_cons_zero, List.set_cons_succ])
                refine PlanT.take0 (v := .bool false) (by kernel_rfl) ?yT6 ?rT6
                case yT6 => (intro wz hz; have z1 := hz.1; have z2 := hz.2; go_simp; try with_reducible rfl)
                (try simp only [Act.put, List.setIfInBounds_toArray, List.set_cons_zero, List.set_cons_succ])
                refine PlanT.take0 (v := .bool false) (by kernel_rfl) ?yT7 ?rT7
                case yT7 => (intro wz hz; have z1 := hz.1; have z2 := hz.2; go_simp; try with_reducible rfl)
                (try simp only [Act.put, List.setIfInBounds_toArray, List.set_cons_zero, List.set_cons_succ])
                refine PlanT.take0 (v := .bool false) (by kernel_rfl) ?yT8 ?rT8
                case yT8 => (intro wz hz; have z1 := hz.1; have z2 := hz.2; go_simp; try with_reducible rfl)
                (try simp only [Act.put, List.setIfInBounds_toArray, List.set_cons_zero, List.set_cons_succ])
                refine PlanT.take0 (v := ?vT9) (by kernel_rfl) ?yT9 ?rT9
                case yT9 => (intro wz hz; have z1 := hz.1; have z2 := hz.2; go_simp; try with_reducible rfl)
                (try simp only [Act.put, List.setIfInBounds_toArray, List.set_cons_zero, List.set_cons_succ])
                refine PlanT.take0 (v := ?vT10) (by kernel_rfl) ?yT10 ?rT10
                case yT10 => (intro wz hz; have z1 := hz.1; have z2 := hz.2; go_simp; try with_reducible rfl)
                (try simp only [Act.put, List.setIfInBounds_toArray, List.set_cons_zero, List.set_cons_succ])
                refine PlanT.take0 (v := .slice sv (b.length - M) (vc - M)) (by kernel_rfl) ?yT11 ?rT11
                case yT11 => (intro wz hz; have z1 := hz.1; have z2 := hz.2; rw [HSV.out]; go_simp; try with_reducible rfl)
                (try simp only [Act.put, List.setIfInBounds_toArray, List.set_cons_zero, List.set_cons_succ])
                refine PlanT.take0 (v := ?vT12) (by kernel_rfl) ?yT12 ?rT12
                case yT12 => (intro wz hz; have z1 := hz.1; have z2 := hz.2; go_simp; try with_reducible rfl)
                (try simp only [Act.put, List.setIfInBounds_toArray, List.set_cons_zero, List.set_cons_succ])
                refine PlanT.take0 (v := ?vT13) (by kernel_rfl) ?yT13 ?rT13
                case yT13 => (intro wz hz; have z1 := hz.1; have z2 := hz.2; go_simp; try with_reducible rfl)
                (try simp only [Act.put, List.setIfInBounds_toArray, List.set_cons_zero, List.set_cons_succ])
                refine PlanT.take0 (v := ?vT14) (by kernel_rfl) ?yT14 ?rT14
                case yT14 => (intro wz hz; have z1 := hz.1; have z2 := hz.2; go_simp; try with_reducible rfl)
                (try simp only [Act.put, List.setIfInBounds_toArray, List.set_cons_zero, List.set_cons_succ])
                refine PlanT.take0 (v := ?vT15) (by kernel_rfl) ?yT15 ?rT15
                case yT15 => (intro wz hz; have z1 := hz.1; have z2 := hz.2; go_simp; try with_reducible rfl)
                (try simp only [Act.put, List.setIfInBounds_toArray, List.set_cons_zero, List.set_cons_succ])
                refine PlanT.take0 (v := ?vT16) (by kernel_rfl) ?yT16 ?rT16
                case yT16 => (intro wz hz; have z1 := hz.1; have z2 := hz.2; go_simp; try with_reducible rfl)
                (try simp only [Act.put, List.setIfInBounds_toArray, List.set_cons_zero, List.set_cons_succ])
                refine PlanT.take0 (v := ?vT17) (by kernel_rfl) ?yT17 ?rT17
                case yT17 => (intro wz hz; have z1 := hz.1; have z2 := hz.2; go_simp; try with_reducible rfl)
                (try simp only [Act.put, List.setIfInBounds_toArray, List.set_cons_zero, List.set_cons_succ])
                refine PlanT.take0 (v := ?vT18) (by kernel_rfl) ?yT18 ?rT18
                case yT18 => (intro wz hz; have z1 := hz.1; have z2 := hz.2; go_simp; try with_reducible rfl)
                (try simp only [Act.put, List.setIfInBounds_toArray, List.set_cons_zero, List.set_cons_succ])
                refine PlanT.exec2 (fun K hK => ⟨by kernel_rfl, ?_⟩)
                go_simp
                refine (HPE.out _ _ HOB6.out.rows.read).mono ?_
                rintro e u7 ⟨y7, rfl, ho7, hb7⟩
                have HOB7 := Lib.hid (HOB6.out.call hb7)
                have HY7 := Lib.hid (OwnB.below HY6.out hb7 (Nat.le_refl _))
                have HE7 := Lib.hid ho7.read
                clear ho7 hb7
                refine hK.out _ _ ⟨HOB7.out.cell 1, HOB7.out.cell 2⟩ trivial ?_
                clear hK K
                (try simp only [Act.put, List.setIfInBounds_toArray, List.set_cons_zero, List.set_cons_succ])
                refine PlanT.exec2 (fun K hK => ⟨by kernel_rfl, ?_⟩)
                go_simp
                refine (HEQ.out _ _ HOB7.out.be HE7.out).mono ?_
                rintro e u8 ⟨rfl, hb8⟩
                have HOB8 := Lib.hid (HOB7.out.call hb8)
                have HY8 := Lib.hid (OwnB.below HY7.out hb8 (Nat.le_refl _))
                clear hb8
                refine hK.out _ _ ⟨HOB8.out.cell 1, HOB8.out.cell 2⟩ trivial ?_
                clear hK K
                (try simp only [Act.put, List.setIfInBounds_toArray, List.set_cons_zero, List.set_cons_succ])
                refine PlanT.take0 (v := ?vT21) (by kernel_rfl) ?yT21 ?rT21
                case yT21 => (intro wz hz; have z1 := hz.1; have z2 := hz.2; go_simp; try with_reducible rfl)
                (try simp only [Act.put, List.setIfInBounds_toArray, List.set_cons_zero, List.set_cons_succ])
                refine PlanT.take0 (v := ?vT22) (by kernel_rfl) ?yT22 ?rT22
                case yT22 => (intro wz hz; have z1 := hz.1; have z2 := hz.2; go_simp; try with_reducible rfl)
                (try simp only [Act.put, List.setIfInBounds_toArray, List.set_cons_zero, List.set_cons_succ])
                refine PlanT.done (NoPanic.normal ?_)
                have hOS := OB.store (i := 3) (u := .slice ya5 (frP b (tabQ ps).length).length yc5) (per' := firstN ps) (vf' := .slice ya5 (frP b (tabQ ps).length).length yc5) HOB8.out (by rfl)
                have w0 := HOB8.out.cell 0
                have w1 := HOB8.out.cell 1
                have w2 := HOB8.out.cell 2
                have z3 := HOB8.out.cell 3
                have y3 := HOB8.out.free 3
                simp only [List.getElem?_toArray, List.getElem?_cons_zero, List.getElem?_cons_succ] at z3 w0 w1 w2
                obtain ⟨hrow, hbu⟩ := HPR.out _ HOB8.out.be
                clear hbu
                have s0 := blk_cell (i := 0) hrow
                have t0 := blk_free (i := 0) hrow
                have s1 := blk_cell (i := 1) hrow
                have t1 := blk_free (i := 1) hrow
                have s2 := blk_cell (i := 2) hrow
                have t2 := blk_free (i := 2) hrow
                have s3 := blk_cell (i := 3) hrow
                have t3 := blk_free (i := 3) hrow
                simp only [List.getElem?_toArray, List.getElem?_cons_zero, List.getElem?_cons_succ] at s0 s1 s2 s3
                have HROW := Lib.hid hrow
                clear hrow
                obtain ⟨hrow, hbu⟩ := HPR.out _ hOS.be
                have HROW9 := Lib.hid hrow
                have HBU := Lib.hid hbu
                have HOS := Lib.hid hOS
                have HY9 := Lib.hid (row_set (i := 3) (u := .slice ya5 (frP b (tabQ ps).length).length yc5) HY8.out (by have := blk_lt HOB.out.box; omega))
                clear hOS hrow hbu
                go_wp2
                refine bodyPost_ret (results_row_tmp rfl _ _ w.heap.size 74 #[.int .i64 (firstN ps : Int), .slice ea FL.length ec, .slice ra (rowsQ ps).length rc, .slice ya5 (frP b (tabQ ps).length).length yc5] (0, 0) _ rfl ?hgG Try.underlying74 rfl (by kernel_rfl)) rfl ?_
                case hgG => exact (set4 HROW9.out rfl rfl rfl rfl).1
                have hp : w.heap.size < w.heap.size + 1 := by omega
                have hp2 : w.heap.size < wr.heap.size := by have := blk_lt HOB.out.box; omega
                exact HFIN.out _ HGT.out _ _ _ _ (own_monoE (row_set (row_set (row_set (row_set HOS.out.ents hp) hp) hp) hp) (by omega)) (own_monoR (row_set (row_set (row_set (row_set HOS.out.rows hp) hp) hp) hp) (by omega)) (OwnB.mono_B (row_set (row_set (row_set (row_set HY9.out hp2) hp2) hp2) hp2) (by omega)) ((set4 HROW9.out rfl rfl rfl rfl).2 _ (Nat.le_refl _) _ HBU.out)
end Go.Proofs.Yteeikmpfgbfeoaa

/-
  Tables: All: the entries of a table.
-/
namespace Go.Proofs.Yteeikmpfgbfeoaa
open Go.RowKit

set_option maxRecDepth 100000 in
set_option maxHeartbeats 400000 in
theorem all_any : AllTC := fun v b w hv hl => by
  cases hg : getT b with
  | none =>
    have HO : Hid (Calls Try.prog 29 #[v] w fun e w' => e = .returned (.tuple #[.agg #[.int .i64 0, .slice none 0 0, .slice none 0 0, .slice none 0 0], .bool false]) ∧ Below w.heap.size w w') := Lib.hid (by
      have h := open_any v b w hv hl
      unfold RetOpen at h
      rw [hg] at h
      exact h)
    have HR : Hid (∀ w', Below w.heap.size w w' → RetAllT w b (.returned (.tuple #[.slice none 0 0, .int .i64 5])) w') := Lib.hid fun w' hb => by
      refine ⟨.slice none 0 0, by unfold errT; rw [hg]; rfl, ?_, hb⟩
      unfold entsT
      rw [hg]
      exact World.ownsRow_nil _ _ _ _
    clear hg hv
    go_enter Try.func14, Try.ntmps14
    go_wp2_with (go_at_call 29; (refine HO.out.mono ?_); rintro e w1 ⟨rfl, hb1⟩; have HB1 := Lib.hid hb1; clear hb1)
    go_ret2
    exact HR.out _ (HB1.out.alloc HB1.out.size _)
  | some x =>
    obtain ⟨es, f⟩ := x
    have HO : Hid (Calls Try.prog 29 #[v] w fun e w' => ∃ (rs : List Rw) (per : Nat) (ve vr vf : Value), e = .returned (.tuple #[.agg #[.int .i64 (per : Int), ve, vr, vf], .bool true]) ∧ OwnE w' w.heap.size ve es ∧ OwnR w' w.heap.size vr rs ∧ OwnB w' w.heap.size 5 vf f ∧ Below w.heap.size w w') := Lib.hid (by
      have h := open_any v b w hv hl
      unfold RetOpen at h
      rw [hg] at h
      refine h.mono ?_
      rintro e w' ⟨ps, per, ve, vr, vf, rfl, h1, h2, h3, _, _, _, h4⟩
      exact ⟨_, per, ve, vr, vf, rfl, h1, h2, h3, h4⟩)
    have HR : Hid (∀ w' x, OwnE w' w.heap.size x es → Below w.heap.size w w' → RetAllT w b (.returned (.tuple #[x, .int .i64 0])) w') := Lib.hid fun w' x ho hb => by
      refine ⟨x, by unfold errT; rw [hg]; rfl, ?_, hb⟩
      unfold entsT
      rw [hg]
      exact ho
    clear hg hv
    go_enter Try.func14, Try.ntmps14
    go_wp2_with (go_at_call 29; (refine HO.out.mono ?_); rintro e w1 ⟨rs, per, ve, vr, vf, rfl, ho1, hr1, hf1, hb1⟩; (obtain ⟨ea, ec, hve, _, _⟩ := ho1.form); subst hve; (obtain ⟨ra, rc, hvr, _, _⟩ := hr1.form); subst hvr; (obtain ⟨fa, fc, hvf, _, _⟩ := hf1.read.form); subst hvf; have HB1 := Lib.hid hb1; have HO1 := Lib.hid ho1; clear hb1 ho1 hr1 hf1)
    go_ret2
    exact HR.out _ _ (OwnE.below HO1.out ((Below.refl _ _).alloc (Nat.le_refl _) _)) (HB1.out.alloc HB1.out.size _)
end Go.Proofs.Yteeikmpfgbfeoaa

/-
  Blocks: where Seek begins: the last whole key that is below, or the first one.
-/
namespace Go.Proofs.Yteeikmpfgbfeoaa
open Go.RowKit

theorem tail_at (es : List Ent) : ∀ (n i : Nat), 4 * i < n → ((tailN es n).drop (4 * i)).take 4 = fixL (((bodyN es (4 * i)).length : Nat) : Int) 4
  | 0, i, h => by omega
  | n + 1, i, h => by
    unfold tailN
    have hl := tailN_len es n
    rcases Nat.lt_or_ge (4 * i) n with h1 | h1
    · rw [List.drop_append_of_le_length (by omega), List.take_append_of_le_length (by rw [List.length_drop]; omega)]
      exact tail_at es n i h1
    · obtain rfl : n = 4 * i := by omega
      rw [if_pos (by omega), List.drop_left' (by rw [hl]; omega), List.take_of_length_le (by rw [fixL_length]; exact Nat.le_refl _)]

theorem up_at {es : List Ent} (h : risingB es = true) : ∀ {a b : Nat}, a < b → b < es.length → (es.getD a Ent.none_).cmp (es.getD b Ent.none_) < 0
  | a, 0, h1, _ => by omega
  | a, b + 1, h1, h2 => by
    have hg : goodAt es (b + 1) = true := by
      unfold risingB at h
      rw [List.all_eq_true] at h
      exact h (b + 1) (List.mem_range.2 h2)
    unfold goodAt at hg
    have hs : (es.getD b Ent.none_).cmp (es.getD (b + 1) Ent.none_) < 0 := by
      rw [Bool.and_eq_true] at hg
      simpa using hg.2
    rcases Nat.lt_or_ge a b with h3 | h3
    · exact cmp_trans (up_at h h3 (by omega)) hs
    · obtain rfl : a = b := by omega
      exact hs

theorem read_at {es : List Ent} (hm : ∀ k, k < es.length → (es.getD k Ent.none_).may = true) {k : Nat} (hk : k < es.length) : readP (bodyN es es.length) (prevU es k) (bodyN es k).length = some (es.getD k Ent.none_, (bodyN es (k + 1)).length) :=
  step_read ((⟨rfl, hm⟩ : IsBody (bodyN es es.length) es).step hk) (hm k hk)

/-- A whole one is read without the one ahead. -/
theorem read_whole {es : List Ent} (hm : ∀ k, k < es.length → (es.getD k Ent.none_).may = true) {k : Nat} (hk : 4 * k < es.length) : readP (bodyN es es.length) [] (bodyN es (4 * k)).length = some (es.getD (4 * k) Ent.none_, (bodyN es (4 * k + 1)).length) := by
  have h := (⟨rfl, hm⟩ : IsBody (bodyN es es.length) es).step hk
  refine step_read ?_ (hm _ hk)
  obtain ⟨r, hr⟩ := bodyN_split es (k := 4 * k + 1) (n := es.length) hk
  have hs : shE es (4 * k) = 0 := by unfold shE; rw [if_pos (by omega)]
  have hb : bodyN es (4 * k + 1) = bodyN es (4 * k) ++ (putL 0 ++ (putT (uL (es.getD (4 * k) Ent.none_)) ++ putL (numE (es.getD (4 * k) Ent.none_)) ++ putT (vL (es.getD (4 * k) Ent.none_)))) := by
    show bodyN es (4 * k) ++ entB _ _ = _
    rw [hs]
    unfold entB
    simp only [List.drop_zero, List.append_assoc]
  have hg := getAt_tells (bodyN es (4 * k)) ((putT (uL (es.getD (4 * k) Ent.none_)) ++ putL (numE (es.getD (4 * k) Ent.none_)) ++ putT (vL (es.getD (4 * k) Ent.none_))) ++ r) 0 (by omega)
  have hc : bodyN es es.length = bodyN es (4 * k) ++ putL 0 ++ ((putT (uL (es.getD (4 * k) Ent.none_)) ++ putL (numE (es.getD (4 * k) Ent.none_)) ++ putT (vL (es.getD (4 * k) Ent.none_))) ++ r) := by
    rw [hr, hb]
    simp only [List.append_assoc]
  rw [← hc] at hg
  unfold stepP at h ⊢
  rw [hg] at h ⊢
  simp only [List.take_zero, List.nil_append, Nat.not_lt_zero, if_false] at h ⊢
  exact h

theorem alloc_keep {w : World} {o x : Obj} {k : Nat} (h : w.heap[k]? = some x) : (w.alloc o).heap[k]? = some x := (Below.block ((Below.refl _ _).alloc (Nat.le_refl _) _) _ (blk_lt h)).trans h
theorem heap_new3 (w : World) (o1 o2 o3 : Obj) : (((w.alloc o1).alloc o2).alloc o3).heap[w.heap.size + 1 + 1]? = some o3 := by simpa using heap_alloc_new ((w.alloc o1).alloc o2) o3
theorem heap_new4 (w : World) (o1 o2 o3 o4 : Obj) : ((((w.alloc o1).alloc o2).alloc o3).alloc o4).heap[w.heap.size + 1 + 1 + 1]? = some o4 := by simpa using heap_alloc_new (((w.alloc o1).alloc o2).alloc o3) o4

set_option maxRecDepth 100000 in
set_option maxHeartbeats 400000 in
theorem start_any {es : List Ent} (hr : risingB es = true) (h1 : 1 ≤ es.length) (h64 : es.length ≤ 64) (x y : Value) (u : ByteArray) (s k : Int) (w : World) (hu : u.size ≤ maxLen) (hx : RdB w x (bodyN es es.length)) (hy : RdB w y (tailN es es.length)) :
    Calls Try.prog 72 #[x, y, .agg #[.string u, .int .i64 s, .int .i64 k]] w fun e w' => ∃ j : Nat, 4 * j < es.length ∧ e = .returned (.int .i64 ((bodyN es (4 * j)).length : Int)) ∧ (∀ a, a < 4 * j → (es.getD a Ent.none_).cmp ⟨u, s, k, ⟨#[]⟩⟩ < 0) ∧ Below w.heap.size w w' := by
  have hm := fun k (hk : k < es.length) => rising_may hr hk
  have hbl := bodyN_len hm
  have HPL : Hid (∀ i, 4 * i < es.length → valL (((tailN es es.length).drop (4 * i)).take 4) = (bodyN es (4 * i)).length) := Lib.hid fun i hi => by
    rw [tail_at es es.length i hi, valL_fixL _ _ (by have := hbl (4 * i) (by omega); omega)]
  have HRW : Hid (∀ i, 4 * i < es.length → readP (bodyN es es.length) [] (bodyN es (4 * i)).length = some (es.getD (4 * i) Ent.none_, (bodyN es (4 * i + 1)).length)) := Lib.hid fun i hi => read_whole hm hi
  have HUP : Hid (∀ a b, a < b → b < es.length → (es.getD a Ent.none_).cmp (es.getD b Ent.none_) < 0) := Lib.hid fun a b => up_at hr
  have HSU : Hid (∀ k, k < es.length → (es.getD k Ent.none_).u.size ≤ maxLen) := Lib.hid fun k hk => by
    have := (may_facts (hm k hk)).1
    rw [size_list] at this
    unfold maxLen
    omega
  obtain ⟨N, hN⟩ : ∃ N, N = (es.length + 3) / 4 := ⟨_, rfl⟩
  have htl : (tailN es es.length).length = 4 * N := by rw [tailN_len, hN]
  have HN : Hid (∀ i, i < N → 4 * i < es.length) := Lib.hid fun i hi => by omega
  have hN1 : 1 ≤ N := by omega
  have hN2 : N ≤ 100 := by omega
  obtain ⟨xa, xc, rfl, _, _⟩ := hx.form
  obtain ⟨ya, yc, rfl, _, _⟩ := hy.form
  have HX := Lib.hid hx
  have HY := Lib.hid hy
  have HT := Lib.hid htl
  have hdv : wrap64 (((tailN es es.length).length : Int) / 4) = (N : Int) := by rw [IntWalk.wrap64_in _ (by omega)]; omega
  clear hx hy hbl hN htl h1 h64
  generalize tailN es es.length = t at *
  generalize bodyN es es.length = c at *
  obtain ⟨bl, hbl⟩ : ∃ bl : Nat → Nat, bl = fun i => (bodyN es i).length := ⟨_, rfl⟩
  have HBE : Hid (∀ i, (bodyN es i).length = bl i) := Lib.hid fun i => by rw [hbl]
  clear hbl
  simp only [HBE.out] at HPL HRW ⊢
  go_enter Try.func72, Try.ntmps72
  go_upto_region 2 with (fail)
  obtain ⟨w1, hw1⟩ : ∃ w1, w1 = ((((w.alloc (.cells #[.slice xa c.length xc] 22)).alloc (.cells #[.slice ya t.length yc] 22)).alloc (.cells #[.string u, .int .i64 s, .int .i64 k] 32)).alloc (.cells #[.func (.func 82) #[] #[.pointer (some ⟨w.heap.size + 1, 0, none⟩)]] 128)) := ⟨_, rfl⟩
  rw [← hw1]
  have hB1 : Below w.heap.size w w1 := by rw [hw1]; exact (((Below.refl _ _).alloc (Nat.le_refl _) _).alloc (by simp) _).alloc (by simp; omega) _ |>.alloc (by simp; omega) _
  have b0 : w1.heap[w.heap.size]? = some (.cells #[.slice xa c.length xc] 22 (0, 0)) := by rw [hw1]; exact alloc_keep (alloc_keep (alloc_keep (heap_alloc_new w _)))
  have b1 : w1.heap[w.heap.size + 1]? = some (.cells #[.slice ya t.length yc] 22 (0, 0)) := by rw [hw1]; exact alloc_keep (alloc_keep (heap_new2 w _ _))
  have b2 : w1.heap[w.heap.size + 1 + 1]? = some (.cells #[.string u, .int .i64 s, .int .i64 k] 32 (0, 0)) := by rw [hw1]; exact alloc_keep (heap_new3 w _ _ _)
  have b3 : w1.heap[w.heap.size + 1 + 1 + 1]? = some (.cells #[.func (.func 82) #[] #[.pointer (some ⟨w.heap.size + 1, 0, none⟩)]] 128 (0, 0)) := by rw [hw1]; exact heap_new4 w _ _ _ _
  have B0 := Lib.hid b0
  have B1 := Lib.hid b1
  have B2 := Lib.hid b2
  have B3 := Lib.hid b3
  have HB1 := Lib.hid hB1
  have c1 := blk_cell (i := 0) b1
  replace c1 : w1.cell? ⟨w.heap.size + 1, 0, none⟩ = some (.slice ya t.length yc) := c1
  clear hw1 b0 b1 b2 b3 hB1
  have HSE := Lib.hid (search_any N (by omega) (fun i => decide (0 ≤ (es.getD (4 * i) Ent.none_).cmp ⟨u, s, k, ⟨#[]⟩⟩)) 83 #[.pointer (some ⟨w.heap.size, 0, none⟩), .pointer (some ⟨w.heap.size + 1 + 1 + 1, 0, none⟩), .pointer (some ⟨w.heap.size + 1 + 1, 0, none⟩)] enters_low w1 fun i wz hi hz =>
    low_any c t xa ya _ xc yc w.heap.size (w.heap.size + 1) (w.heap.size + 1 + 1 + 1) (w.heap.size + 1 + 1) i u s k wz hu ((hz.block _ (blk_lt B0.out)).trans B0.out) ((hz.block _ (blk_lt B3.out)).trans B3.out) ((hz.block _ (blk_lt B1.out)).trans B1.out) ((hz.block _ (blk_lt B2.out)).trans B2.out)
      ((HX.out.below HB1.out (Nat.le_refl _)).below hz (Nat.le_refl _)) ((HY.out.below HB1.out (Nat.le_refl _)).below hz (Nat.le_refl _)) (by have := HT.out; omega) _ _ (HSU.out _ (HN.out i hi)) (by rw [HPL.out i (HN.out i hi)]; exact HRW.out i (HN.out i hi)))
  go_upto_region 3 with (go_at_call 53; (refine HSE.out.mono ?_); rintro e w2 ⟨m, hm1, rfl, hm2, _, hb2⟩; have HB2 := Lib.hid hb2; clear hb2)
  have k3 : w2.cell? ⟨w.heap.size + 1 + 1 + 1, 0, none⟩ = some (.func (.func 82) #[] #[.pointer (some ⟨w.heap.size + 1, 0, none⟩)]) := blk_cell (i := 0) ((HB2.out.block _ (blk_lt B3.out)).trans B3.out)
  have hen := enters_whole
  unfold Enters at hen
  have HWH : Hid (∀ i : Nat, i < N → Calls Try.prog 82 #[.int .i64 (i : Int), .pointer (some ⟨w.heap.size + 1, 0, none⟩)] w2 fun e w' => e = .returned (.int .i64 ((bl (4 * i) : Nat) : Int)) ∧ Below w2.heap.size w2 w') := Lib.hid fun i hi => by
    have h := whole_any t ya yc (w.heap.size + 1) i w2 ((HB2.out.block _ (blk_lt B1.out)).trans B1.out) ((HY.out.below HB1.out (Nat.le_refl _)).below HB2.out (Nat.le_refl _)) (by have := HT.out; omega)
    rw [HPL.out i (HN.out i hi)] at h
    exact h
  rcases m with _ | j
  · have HW0 : Hid (Calls Try.prog 82 #[.int .i64 0, .pointer (some ⟨w.heap.size + 1, 0, none⟩)] w2 fun e w' => e = .returned (.int .i64 ((bl 0 : Nat) : Int)) ∧ Below w2.heap.size w2 w') := Lib.hid (HWH.out 0 (by omega))
    clear HSE HWH
    go_wp2_with (go_at_fn 82; (refine HW0.out.mono ?_); rintro e w3 ⟨rfl, hb3⟩)
    go_ret
    exact ⟨0, by have := HN.out 0 (by omega); omega, rfl, fun a ha => by omega, (HB1.out.trans (HB2.out.mono HB1.out.size)).trans (hb3.mono (Nat.le_trans HB1.out.size HB2.out.size))⟩
  · have hjN : j < N := by omega
    have HWJ := Lib.hid (HWH.out j hjN)
    have HLW : Hid ((es.getD (4 * j) Ent.none_).cmp ⟨u, s, k, ⟨#[]⟩⟩ < 0) := Lib.hid (by have := hm2 (by omega); simpa using this)
    have hj0 : (0 : Int) ≤ (j : Int) := by omega
    have hj1 : IntKind.i64.wrap (((j + 1 : Nat) : Int) - 1) = (j : Int) := by rw [IntWalk.i64_in _ (by omega)]; omega
    clear HSE HWH hm2
    go_wp2_with (go_at_fn 82; (refine HWJ.out.mono ?_); rintro e w3 ⟨rfl, hb3⟩)
    go_ret
    refine ⟨j, HN.out j hjN, rfl, fun a ha => ?_, (HB1.out.trans (HB2.out.mono HB1.out.size)).trans (hb3.mono (Nat.le_trans HB1.out.size HB2.out.size))⟩
    exact cmp_trans (HUP.out a (4 * j) ha (HN.out j hjN)) HLW.out
end Go.Proofs.Yteeikmpfgbfeoaa
