import Derived.Test.YtfeogoihkpclcaaMg17
import Derived.Lib.ConvBytes
import Derived.Test.YtfeogoihkpclcaaMg03

/-
  The document's disk: bytes with a write done (done), all that a file has (all).
-/
namespace Go.Proofs.Ytfeogoihkpclcaa
open Go.RowKit

theorem made_ownD (w : World) (e size : Nat) : (w.alloc (.cells #[] e)).ownsRow w.heap.size e size (.slice (some ⟨w.heap.size, 0, none⟩) 0 0) 0 [] :=
  ⟨by simp, .inr ⟨w.heap.size, 0, #[], rfl, Nat.le_refl _, heap_alloc_new w _, Nat.le_refl _, Nat.zero_le _, by simp, by simp⟩⟩

set_option maxRecDepth 100000 in
set_option maxHeartbeats 4000000 in
set_option linter.unusedSimpArgs false in
theorem ddone_any (w : World) (va : Option Addr) (ca : Nat) (b : List UInt8) (at_ : Nat) (pa : Option Addr) (pc : Nat) (p : List UInt8) (hb : RdB w (.slice va b.length ca) b) (hp : RdB w (.slice pa p.length pc) p) (hat : at_ ≤ b.length) (hbl : b.length < 100000000) (hpl : p.length < 100000000) :
    Calls Try.prog 71 #[.slice va b.length ca, .agg #[.int .i64 (at_ : Int), .slice pa p.length pc]] w fun e w' => ∃ v, e = .returned v ∧ OwnB w' w.heap.size 5 v (wrAt b at_ p) ∧ Below w.heap.size w w' := by
  obtain ⟨wb, hwb⟩ : ∃ wb, wb = w.alloc (.cells #[.int .i64 (at_ : Int), .slice pa p.length pc] 105) := ⟨_, rfl⟩
  have HBB := Lib.hid (show Below w.heap.size w wb by rw [hwb]; exact (Below.refl _ _).alloc (Nat.le_refl _) _)
  have HSB := Lib.hid (show wb.heap.size = w.heap.size + 1 by rw [hwb]; simp)
  have HBX := Lib.hid (show wb.heap[w.heap.size]? = some (.cells #[.int .i64 (at_ : Int), .slice pa p.length pc] 105 (0, 0)) by rw [hwb]; exact heap_alloc_new w _)
  have HVB := Lib.hid (hb.below HBB.out (Nat.le_refl _))
  have HP := Lib.hid hp
  have HWB := Lib.hid hwb
  have hpcc : p.length ≤ pc := by obtain ⟨_, _, e, h, _⟩ := RdB.form hp; cases e; exact h
  clear hwb hb hp
  go_enter Try.func71, Try.ntmps71
  go_upto_region 1 with (fail)
  rw [← HWB.out]
  go_wp2_with (at_builtin; refine wpList_append_rd rfl (.tmp 7) (.tmp 8) 32 rfl wb.heap.size 5 1 1 (.int .u8 0) Try.underlying32 info_u8 rfl (by decide) (.slice (some ⟨wb.heap.size, 0, none⟩) 0 0) (.slice va b.length ca) 0 b.length [] (b.map bv) rfl rfl (made_ownD wb _ _) (Rd.below HVB.out ((Below.refl _ _).alloc (Nat.le_refl _) _) (Nat.le_refl _)) (bv_oneCell b) ?bb ?l1 ?l2 ?kk)
  case bb => simp
  case l1 => omega
  case l2 => unfold maxLen; omega
  case kk =>
    intro v0 w1 hown hBk
    have hb1 := hBk wb.heap.size wb (Nat.le_refl _) ((Below.refl _ _).alloc (Nat.le_refl _) _)
    have HO1 := Lib.hid (show OwnB w1 wb.heap.size 5 v0 (wrAt b at_ (p.take 0)) by have e : wrAt b at_ (p.take 0) = b := (by show wr b at_ _ = b; rw [List.take_zero, wr_nil]); rw [e]; exact hown)
    have HB1 := Lib.hid hb1
    clear hown hBk hb1
    go_wp2
    go_loopw [5, 6] (fun u iv wr => ∃ (i : Nat) (u' : Value), i ≤ p.length ∧ iv = .int .i64 i ∧ u' = u ∧ OwnB wr wb.heap.size 5 u' (wrAt b at_ (p.take i)) ∧ Below wb.heap.size wb wr) (fun _ iv _ => p.length - (intOf iv).toNat)
    case atStart => exact ⟨0, _, Nat.zero_le _, rfl, rfl, HO1.out, HB1.out⟩
    case round =>
      obtain ⟨i, u, hi, rfl, rfl, hu, hB⟩ := hrel
      have HU := Lib.hid hu
      have HB := Lib.hid hB
      have HX := Lib.hid ((hB.block w.heap.size (by have := HSB.out; omega)).trans HBX.out)
      have q0 : wr.cell? ⟨w.heap.size, 0, none⟩ = some (.int .i64 (at_ : Int)) := blk_cell HX.out
      have q1 : wr.cell? ⟨w.heap.size, 1, none⟩ = some (.slice pa p.length pc) := blk_cell HX.out
      have hwl : (wrAt b at_ (p.take i)).length = max b.length (at_ + i) := by rw [wr_length _ _ _ hat, List.length_take]; congr 1; omega
      obtain ⟨cur, hcur⟩ : ∃ cur, wrAt b at_ (p.take i) = cur := ⟨_, rfl⟩
      rw [hcur] at HU hwl hu
      obtain ⟨ua, uc, hv, hu1, hu2⟩ := RdB.form hu.read
      subst hv
      rw [hwl] at hu1
      clear hu hB
      by_cases hlt : i < p.length
      · obtain ⟨c, hc⟩ : ∃ c, p[i]? = some c := ⟨_, List.getElem?_eq_getElem hlt⟩
        obtain ⟨pb, po, pcap, hpv, _, _, hpb, hcell⟩ := HP.out.cells (by intro e; subst e; simp at hlt)
        cases hpv
        have hgd : p.getD i 0 = c := by rw [List.getD_eq_getElem?_getD, hc]; rfl
        have hpc0 := hcell i hlt
        rw [hgd] at hpc0
        have HPC0 := Lib.hid hpc0
        have HPB := Lib.hid hpb
        have HCC := Lib.hid hc
        have hcb := byte_le c
        have hic : i < pc := by omega
        have hpcw : wr.cell? ⟨pb, po + i, none⟩ = some (bv c) := ((HBB.out.trans (HB.out.mono (by have := HSB.out; omega))).cell (p := ⟨pb, po + i, none⟩) hpb).trans hpc0
        clear hcell hgd hpc0 hc hpb
        by_cases hin : at_ + i < b.length
        · have hlen : cur.length = b.length := by rw [hwl]; omega
          have hgo : (at_ : Int) + (i : Int) < (cur.length : Int) := by omega
          have HST := Lib.hid (show cur.set (at_ + i) c = wrAt b at_ (p.take (i + 1)) by rw [← hcur]; exact wr_in b p at_ i c hat HCC.out hin)
          obtain ⟨gg, gcap, gcur, hgv, hg1, hg2, _⟩ := own_form HU.out (by omega)
          simp only [Value.slice.injEq, true_and] at hgv
          obtain ⟨hgv, hge⟩ := hgv
          subst hgv
          subst hge
          have hcapi : at_ + i < uc := by omega
          have hcl : at_ + i < cur.length := by omega
          have HCL := Lib.hid hcl
          have hwp : IntKind.i64.wrap ((at_ : Int) + (i : Int)) = (at_ : Int) + (i : Int) := IntWalk.i64_in _ (by omega)
          have htn : ((at_ : Int) + (i : Int)).toNat = at_ + i := by omega
          have h0p : (0 : Int) ≤ (at_ : Int) + (i : Int) := by omega
          have HGB := Lib.hid (World.ownsRow.lt HU.out gg rfl).1
          clear hu1 hcur hwl hlen
          go_wp2
          obtain ⟨w8, hw8⟩ : ∃ w8, w8 = wr.drew := ⟨_, rfl⟩
          have HW8 := Lib.hid hw8
          have HB8 := Lib.hid (show Below wr.heap.size wr w8 by rw [hw8]; exact (Below.refl _ _).drew)
          have HU8 := Lib.hid (HU.out.below HB8.out (Nat.le_refl _))
          have HX8 := Lib.hid ((HB8.out.block w.heap.size (blk_lt HX.out)).trans HX.out)
          have HPC := Lib.hid ((HB8.out.cell (p := ⟨pb, po + i, none⟩) (World.block_lt_of_cell? _ _ hpcw)).trans hpcw)
          have HLT := Lib.hid (show w.heap.size < w8.heap.size ∧ pb < w8.heap.size from ⟨blk_lt HX8.out, World.block_lt_of_cell? _ _ HPC.out⟩)
          have g0 : w8.cell? ⟨gg, at_ + i, none⟩ = some (bv (cur.getD (at_ + i) 0)) := HU8.out.cellAt (at_ + i) HCL.out
          have gf : w8.frozen? ⟨gg, at_ + i, none⟩ = false := HU8.out.frozenAt (at_ + i)
          clear hw8 q0 q1 hpcw
          refine wp_region_two (fun wz => Below w8.heap.size w8 wz) (fun _ => True) [(0, 0), (0, 1), (0, 2), (0, 3), (0, 4), (0, 5), (0, 6), (0, 7), (0, 8), (0, 9), (0, 10), (3, 11)] [11] (by kernel_rfl) (by kernel_rfl) (by kernel_rfl) (by kernel_rfl) (by kernel_rfl) (by rw [← HW8.out]; exact Below.refl _ _) trivial ?_
          simp only [planT, List.drop_succ_cons, List.drop_zero]
          rw [← HW8.out]
          refine PlanT.take0 (v := ?vN0) (by kernel_rfl) ?yN0 ?rN0
          case yN0 => (intro wz hz; have p0 : wz.cell? ⟨w.heap.size, 0, none⟩ = some (.int .i64 (at_ : Int)) := (hz.cell (p := ⟨w.heap.size, 0, none⟩) HLT.out.1).trans (blk_cell HX8.out); have p1 : wz.cell? ⟨w.heap.size, 1, none⟩ = some (.slice (some ⟨pb, po, none⟩) p.length pc) := (hz.cell (p := ⟨w.heap.size, 1, none⟩) HLT.out.1).trans (blk_cell HX8.out); have p2 : wz.cell? ⟨pb, po + i, none⟩ = some (bv c) := (hz.cell (p := ⟨pb, po + i, none⟩) HLT.out.2).trans HPC.out; clear hz; go_simp; try with_reducible rfl)
          (try simp only [Act.put, List.setIfInBounds_toArray, List.set_cons_zero, List.set_cons_succ])
          refine PlanT.take0 (v := ?vN1) (by kernel_rfl) ?yN1 ?rN1
          case yN1 => (intro wz hz; have p0 : wz.cell? ⟨w.heap.size, 0, none⟩ = some (.int .i64 (at_ : Int)) := (hz.cell (p := ⟨w.heap.size, 0, none⟩) HLT.out.1).trans (blk_cell HX8.out); have p1 : wz.cell? ⟨w.heap.size, 1, none⟩ = some (.slice (some ⟨pb, po, none⟩) p.length pc) := (hz.cell (p := ⟨w.heap.size, 1, none⟩) HLT.out.1).trans (blk_cell HX8.out); have p2 : wz.cell? ⟨pb, po + i, none⟩ = some (bv c) := (hz.cell (p := ⟨pb, po + i, none⟩) HLT.out.2).trans HPC.out; clear hz; go_simp; try with_reducible rfl)
          (try simp only [Act.put, List.setIfInBounds_toArray, List.set_cons_zero, List.set_cons_succ])
          refine PlanT.take0 (v := ?vN2) (by kernel_rfl) ?yN2 ?rN2
          case yN2 => (intro wz hz; have p0 : wz.cell? ⟨w.heap.size, 0, none⟩ = some (.int .i64 (at_ : Int)) := (hz.cell (p := ⟨w.heap.size, 0, none⟩) HLT.out.1).trans (blk_cell HX8.out); have p1 : wz.cell? ⟨w.heap.size, 1, none⟩ = some (.slice (some ⟨pb, po, none⟩) p.length pc) := (hz.cell (p := ⟨w.heap.size, 1, none⟩) HLT.out.1).trans (blk_cell HX8.out); have p2 : wz.cell? ⟨pb, po + i, none⟩ = some (bv c) := (hz.cell (p := ⟨pb, po + i, none⟩) HLT.out.2).trans HPC.out; clear hz; go_simp; try with_reducible rfl)
          (try simp only [Act.put, List.setIfInBounds_toArray, List.set_cons_zero, List.set_cons_succ])
          refine PlanT.take0 (v := ?vN3) (by kernel_rfl) ?yN3 ?rN3
          case yN3 => (intro wz hz; have p0 : wz.cell? ⟨w.heap.size, 0, none⟩ = some (.int .i64 (at_ : Int)) := (hz.cell (p := ⟨w.heap.size, 0, none⟩) HLT.out.1).trans (blk_cell HX8.out); have p1 : wz.cell? ⟨w.heap.size, 1, none⟩ = some (.slice (some ⟨pb, po, none⟩) p.length pc) := (hz.cell (p := ⟨w.heap.size, 1, none⟩) HLT.out.1).trans (blk_cell HX8.out); have p2 : wz.cell? ⟨pb, po + i, none⟩ = some (bv c) := (hz.cell (p := ⟨pb, po + i, none⟩) HLT.out.2).trans HPC.out; clear hz; go_simp; try with_reducible rfl)
          (try simp only [Act.put, List.setIfInBounds_toArray, List.set_cons_zero, List.set_cons_succ])
          refine PlanT.take0 (v := ?vN4) (by kernel_rfl) ?yN4 ?rN4
          case yN4 => (intro wz hz; have p0 : wz.cell? ⟨w.heap.size, 0, none⟩ = some (.int .i64 (at_ : Int)) := (hz.cell (p := ⟨w.heap.size, 0, none⟩) HLT.out.1).trans (blk_cell HX8.out); have p1 : wz.cell? ⟨w.heap.size, 1, none⟩ = some (.slice (some ⟨pb, po, none⟩) p.length pc) := (hz.cell (p := ⟨w.heap.size, 1, none⟩) HLT.out.1).trans (blk_cell HX8.out); have p2 : wz.cell? ⟨pb, po + i, none⟩ = some (bv c) := (hz.cell (p := ⟨pb, po + i, none⟩) HLT.out.2).trans HPC.out; clear hz; go_simp; try with_reducible rfl)
          (try simp only [Act.put, List.setIfInBounds_toArray, List.set_cons_zero, List.set_cons_succ])
          refine PlanT.take0 (v := ?vN5) (by kernel_rfl) ?yN5 ?rN5
          case yN5 => (intro wz hz; have p0 : wz.cell? ⟨w.heap.size, 0, none⟩ = some (.int .i64 (at_ : Int)) := (hz.cell (p := ⟨w.heap.size, 0, none⟩) HLT.out.1).trans (blk_cell HX8.out); have p1 : wz.cell? ⟨w.heap.size, 1, none⟩ = some (.slice (some ⟨pb, po, none⟩) p.length pc) := (hz.cell (p := ⟨w.heap.size, 1, none⟩) HLT.out.1).trans (blk_cell HX8.out); have p2 : wz.cell? ⟨pb, po + i, none⟩ = some (bv c) := (hz.cell (p := ⟨pb, po + i, none⟩) HLT.out.2).trans HPC.out; clear hz; go_simp; try with_reducible rfl)
          (try simp only [Act.put, List.setIfInBounds_toArray, List.set_cons_zero, List.set_cons_succ])
          refine PlanT.take0 (v := ?vN6) (by kernel_rfl) ?yN6 ?rN6
          case yN6 => (intro wz hz; have p0 : wz.cell? ⟨w.heap.size, 0, none⟩ = some (.int .i64 (at_ : Int)) := (hz.cell (p := ⟨w.heap.size, 0, none⟩) HLT.out.1).trans (blk_cell HX8.out); have p1 : wz.cell? ⟨w.heap.size, 1, none⟩ = some (.slice (some ⟨pb, po, none⟩) p.length pc) := (hz.cell (p := ⟨w.heap.size, 1, none⟩) HLT.out.1).trans (blk_cell HX8.out); have p2 : wz.cell? ⟨pb, po + i, none⟩ = some (bv c) := (hz.cell (p := ⟨pb, po + i, none⟩) HLT.out.2).trans HPC.out; clear hz; go_simp; try with_reducible rfl)
          (try simp only [Act.put, List.setIfInBounds_toArray, List.set_cons_zero, List.set_cons_succ])
          refine PlanT.take0 (v := ?vN7) (by kernel_rfl) ?yN7 ?rN7
          case yN7 => (intro wz hz; have p0 : wz.cell? ⟨w.heap.size, 0, none⟩ = some (.int .i64 (at_ : Int)) := (hz.cell (p := ⟨w.heap.size, 0, none⟩) HLT.out.1).trans (blk_cell HX8.out); have p1 : wz.cell? ⟨w.heap.size, 1, none⟩ = some (.slice (some ⟨pb, po, none⟩) p.length pc) := (hz.cell (p := ⟨w.heap.size, 1, none⟩) HLT.out.1).trans (blk_cell HX8.out); have p2 : wz.cell? ⟨pb, po + i, none⟩ = some (bv c) := (hz.cell (p := ⟨pb, po + i, none⟩) HLT.out.2).trans HPC.out; clear hz; go_simp; try with_reducible rfl)
          (try simp only [Act.put, List.setIfInBounds_toArray, List.set_cons_zero, List.set_cons_succ])
          refine PlanT.take0 (v := ?vN8) (by kernel_rfl) ?yN8 ?rN8
          case yN8 => (intro wz hz; have p0 : wz.cell? ⟨w.heap.size, 0, none⟩ = some (.int .i64 (at_ : Int)) := (hz.cell (p := ⟨w.heap.size, 0, none⟩) HLT.out.1).trans (blk_cell HX8.out); have p1 : wz.cell? ⟨w.heap.size, 1, none⟩ = some (.slice (some ⟨pb, po, none⟩) p.length pc) := (hz.cell (p := ⟨w.heap.size, 1, none⟩) HLT.out.1).trans (blk_cell HX8.out); have p2 : wz.cell? ⟨pb, po + i, none⟩ = some (bv c) := (hz.cell (p := ⟨pb, po + i, none⟩) HLT.out.2).trans HPC.out; clear hz; go_simp; try with_reducible rfl)
          (try simp only [Act.put, List.setIfInBounds_toArray, List.set_cons_zero, List.set_cons_succ])
          refine PlanT.take0 (v := ?vN9) (by kernel_rfl) ?yN9 ?rN9
          case yN9 => (intro wz hz; have p0 : wz.cell? ⟨w.heap.size, 0, none⟩ = some (.int .i64 (at_ : Int)) := (hz.cell (p := ⟨w.heap.size, 0, none⟩) HLT.out.1).trans (blk_cell HX8.out); have p1 : wz.cell? ⟨w.heap.size, 1, none⟩ = some (.slice (some ⟨pb, po, none⟩) p.length pc) := (hz.cell (p := ⟨w.heap.size, 1, none⟩) HLT.out.1).trans (blk_cell HX8.out); have p2 : wz.cell? ⟨pb, po + i, none⟩ = some (bv c) := (hz.cell (p := ⟨pb, po + i, none⟩) HLT.out.2).trans HPC.out; clear hz; go_simp; try with_reducible rfl)
          (try simp only [Act.put, List.setIfInBounds_toArray, List.set_cons_zero, List.set_cons_succ])
          refine PlanT.take0 (v := ?vN10) (by kernel_rfl) ?yN10 ?rN10
          case yN10 => (intro wz hz; have p0 : wz.cell? ⟨w.heap.size, 0, none⟩ = some (.int .i64 (at_ : Int)) := (hz.cell (p := ⟨w.heap.size, 0, none⟩) HLT.out.1).trans (blk_cell HX8.out); have p1 : wz.cell? ⟨w.heap.size, 1, none⟩ = some (.slice (some ⟨pb, po, none⟩) p.length pc) := (hz.cell (p := ⟨w.heap.size, 1, none⟩) HLT.out.1).trans (blk_cell HX8.out); have p2 : wz.cell? ⟨pb, po + i, none⟩ = some (bv c) := (hz.cell (p := ⟨pb, po + i, none⟩) HLT.out.2).trans HPC.out; clear hz; go_simp; try with_reducible rfl)
          (try simp only [Act.put, List.setIfInBounds_toArray, List.set_cons_zero, List.set_cons_succ])
          refine PlanT.exec3 (fun K hK => ⟨by kernel_rfl, ?_⟩)
          go_simp
          refine hK.out _ _ trivial ?_
          clear hK K
          (try simp only [Act.put, List.setIfInBounds_toArray, List.set_cons_zero, List.set_cons_succ])
          refine PlanT.done (NoPanic.normal ?_)
          go_wp2
          go_roundw
          case rel =>
            refine ⟨i + 1, _, by omega, by go_num, rfl, ?_, ?_⟩
            · rw [← HST.out]
              have := HU8.out.stored (at_ + i) c
              exact this
            · exact Kept.below (((Kept.of (HB.out.trans (HB8.out.mono HB.out.size)) (R := fun k => k < wb.heap.size) fun _ h => h)).setCell (p := ⟨gg, at_ + i, none⟩) (fun h => by have := HGB.out; simp at h; omega) (bv c)) fun _ h => h
          case measure => simp [intOf]; omega
        · have hlen : cur.length = at_ + i := by rw [hwl]; omega
          have hgo : ¬ (at_ : Int) + (i : Int) < (cur.length : Int) := by omega
          have HST := Lib.hid (show cur ++ [c] = wrAt b at_ (p.take (i + 1)) by rw [← hcur]; exact wr_out b p at_ i c hat HCC.out (by omega))
          have hbd : cur.length < 300000000 := by omega
          clear hcur hwl hlen hu1
          go_wp2_with (at_builtin; refine wpList_append_rd rfl (.tmp 35) (.tmp 41) 32 rfl wb.heap.size 5 1 1 (.int .u8 0) Try.underlying32 info_u8 rfl (by decide) (.slice ua cur.length uc) _ cur.length 1 (cur.map bv) [bv c] rfl rfl (World.ownsRow.alloc HU.out _) ?rdA (bv_oneCell [c]) ?bbA ?l1A ?l2A ?kkA)
          case rdA => exact ⟨_, 1, rfl, Nat.le_refl _, by unfold maxLen; omega, rfl, .inr ⟨wr.heap.size, 0, rfl, by simp, fun j u hj => by rw [blk_cell (heap_alloc_new wr _)]; simpa using hj⟩⟩
          case bbA => (have := HB.out.size; simp; omega)
          case l1A => omega
          case l2A => unfold maxLen; omega
          case kkA =>
            intro vA wA hown hBk
            have hb' := hBk wb.heap.size wb (Nat.le_refl _) (HB.out.alloc HB.out.size _)
            have HOA := Lib.hid hown
            have HBA := Lib.hid hb'
            clear hown hBk hb'
            go_wp2
            go_roundw
            case rel => exact ⟨i + 1, vA, by omega, by go_num, rfl, by rw [← HST.out]; unfold OwnB; rw [List.length_append, List.map_append]; exact (by simpa using HOA.out), HBA.out⟩
            case measure => simp [intOf]; omega
      · have hil : i = p.length := by omega
        have hce : cur = wrAt b at_ p := by rw [← hcur, hil, List.take_length]
        have HUU := Lib.hid hce
        clear hce hcur
        go_wp2
        go_ret
        exact ⟨_, rfl, by rw [← HUU.out]; exact own_base HU.out fun k e => by have := (World.ownsRow.lt HU.out k e).1; have := HSB.out; omega, HBB.out.trans (HB.out.mono HBB.out.size)⟩
end Go.Proofs.Ytfeogoihkpclcaa

/-
  The document's disk: all that a file has.
-/
namespace Go.Proofs.Ytfeogoihkpclcaa
open Go.RowKit

theorem wok_at : ∀ {l : List (Nat × List UInt8)} {b : List UInt8} {i : Nat} {p : Nat × List UInt8}, WOk b l → l[i]? = some p → p.1 ≤ ((l.take i).foldl (fun b p => wr b p.1 p.2) b).length
  | [], _, _, _, _, h => by simp at h
  | q :: r, b, 0, p, hw, h => by
    have : q = p := by simpa using h
    subst this
    exact hw.1
  | q :: r, b, i + 1, p, hw, h => by
    have := wok_at (l := r) (i := i) hw.2 (by simpa using h)
    simpa using this

theorem wok_take : ∀ {l : List (Nat × List UInt8)} {b : List UInt8} (i : Nat), WOk b l → WOk b (l.take i)
  | [], _, _, _ => by simp [WOk]
  | _ :: _, _, 0, _ => trivial
  | _ :: _, _, i + 1, h => ⟨h.1, wok_take i h.2⟩

theorem many_take_le (l : List (Nat × List UInt8)) (i : Nat) : manyL (l.take i) ≤ manyL l := by
  have h : manyL (l.take i ++ l.drop i) = manyL (l.take i) + manyL (l.drop i) := by unfold manyL; rw [List.map_append, List.sum_append]
  rw [List.take_append_drop] at h
  omega

theorem mem_many : ∀ {l : List (Nat × List UInt8)} {p : Nat × List UInt8}, p ∈ l → p.2.length ≤ manyL l
  | [], _, h => by cases h
  | q :: r, p, h => by
    have hm : manyL (q :: r) = q.2.length + manyL r := by simp [manyL]
    rcases List.mem_cons.1 h with e | h1
    · rw [e]; omega
    · have := mem_many h1; omega

set_option maxRecDepth 100000 in
set_option maxHeartbeats 4000000 in
set_option linter.unusedSimpArgs false in
theorem dall_any (w : World) (fp : Nat) (sv pv : Value) (safe : List UInt8) (ps : List PW) (hc : w.heap[fp]? = some (.cells #[sv, pv] 98 (0, 0))) (hs : RdB w sv safe) (h : PutsAt w pv ps) (hw : WOk safe (pwL ps)) (hl : ps.length < 1000000) (hm : safe.length + manyL (pwL ps) < 90000000) :
    Calls Try.prog 44 #[.pointer (some ⟨fp, 0, none⟩)] w fun e w' => ∃ v, e = .returned v ∧ OwnB w' w.heap.size 5 v (DF.all ⟨safe, pwL ps⟩) ∧ Below w.heap.size w w' := by
  obtain ⟨hr, he⟩ := h
  have HR := Lib.hid hr
  have HE := Lib.hid he
  have HSV := Lib.hid hs
  obtain ⟨pa, pc, rfl, p1, p2, _, _⟩ := hr
  obtain ⟨sa, sc, rfl, _, _⟩ := RdB.form hs
  have HC := Lib.hid hc
  have c0 : w.cell? ⟨fp, 0, none⟩ = some (.slice sa safe.length sc) := blk_cell hc
  have HC0 := Lib.hid c0
  have hfp := blk_lt hc
  have q0 : ∀ o, (w.alloc o).cell? ⟨fp, 0, none⟩ = some (.slice sa safe.length sc) := fun o => (World.cell?_of_block (a := ⟨fp, 0, none⟩) (Below.heap_alloc _ _ _ hfp)).trans c0
  have HW := Lib.hid hw
  have HM := Lib.hid hm
  have hsl : safe.length < 90000000 := by omega
  clear he hs hc hw hm c0
  go_enter Try.func44, Try.ntmps44
  go_wp2_with (at_builtin; refine wpList_append_rd rfl (.tmp 5) (.tmp 9) 32 rfl w.heap.size 5 1 1 (.int .u8 0) Try.underlying32 info_u8 rfl (by decide) (.slice (some ⟨w.heap.size, 0, none⟩) 0 0) (.slice sa safe.length sc) 0 safe.length [] (safe.map bv) rfl rfl (made_ownD w _ _) (Rd.below HSV.out ((Below.refl _ _).alloc (Nat.le_refl _) _) (Nat.le_refl _)) (bv_oneCell safe) ?bb ?l1 ?l2 ?kk)
  case bb => simp
  case l1 => omega
  case l2 => unfold maxLen; omega
  case kk =>
    intro v0 w1 hown hBk
    have hb1 := hBk w.heap.size w (Nat.le_refl _) ((Below.refl _ _).alloc (Nat.le_refl _) _)
    have HO1 := Lib.hid (show OwnB w1 w.heap.size 5 v0 (((pwL ps).take 0).foldl (fun b p => Go.Proofs.Ytfeogoihkpclcaa.wr b p.1 p.2) safe) by rw [List.take_zero]; exact hown)
    have HB1 := Lib.hid hb1
    clear hown hBk hb1
    go_wp2
    go_loopw [3, 4] (fun u iv wr => ∃ (i : Nat) (u' : Value), i ≤ ps.length ∧ iv = .int .i64 i ∧ u' = u ∧ OwnB wr w.heap.size 5 u' (((pwL ps).take i).foldl (fun b p => Go.Proofs.Ytfeogoihkpclcaa.wr b p.1 p.2) safe) ∧ Below w.heap.size w wr) (fun _ iv _ => ps.length - (intOf iv).toNat)
    case atStart => exact ⟨0, _, Nat.zero_le _, rfl, rfl, HO1.out, HB1.out⟩
    case round =>
      obtain ⟨i, u, hi, rfl, rfl, hu, hB⟩ := hrel
      have HB := Lib.hid hB
      have q1 : wr.cell? ⟨fp, 1, none⟩ = some (.slice pa ps.length pc) := blk_cell ((hB.block fp hfp).trans HC.out)
      have hcl := Nat.le_trans (all_len ((pwL ps).take i) safe (wok_take i HW.out)) (Nat.add_le_add_left (many_take_le (pwL ps) i) _)
      have hcl2 := Nat.lt_of_le_of_lt hcl HM.out
      obtain ⟨cur, hcur⟩ : ∃ cur, ((pwL ps).take i).foldl (fun b p => Go.Proofs.Ytfeogoihkpclcaa.wr b p.1 p.2) safe = cur := ⟨_, rfl⟩
      have HCUR := Lib.hid hcur
      rw [hcur] at hu hcl2
      have HU := Lib.hid hu
      obtain ⟨ua, uc, hv, hu1, hu2⟩ := RdB.form hu.read
      subst hv
      clear hu hB hcl hcur
      by_cases hlt : i < ps.length
      · obtain ⟨x, hx⟩ : ∃ x, ps[i]? = some x := ⟨_, List.getElem?_eq_getElem hlt⟩
        obtain ⟨b, off, rfl, d1, d2, hb⟩ := rd_pw HR.out hx
        have e1 := (HB.out.cell (p := ⟨b, off + i * 2, none⟩) hb).trans d1
        have e2 := (HB.out.cell (p := ⟨b, off + i * 2 + 1, none⟩) hb).trans d2
        have hxr := HE.out x (List.mem_of_getElem? hx)
        have HXR := Lib.hid (hxr.below HB.out (Nat.le_refl _))
        obtain ⟨xa, xc, hxv, _, _⟩ := RdB.form hxr
        have HXV := Lib.hid hxv
        rw [hxv] at e2
        have hpx : (pwL ps)[i]? = some (x.1, x.2.1) := by unfold pwL; rw [List.getElem?_map, hx]; rfl
        have hat := wok_at HW.out hpx
        rw [HCUR.out] at hat
        have hml : x.2.1.length ≤ manyL (pwL ps) := mem_many (List.mem_of_getElem? hpx)
        have hst : (((pwL ps).take (i + 1)).foldl (fun b p => Go.Proofs.Ytfeogoihkpclcaa.wr b p.1 p.2) safe) = Go.Proofs.Ytfeogoihkpclcaa.wr cur x.1 x.2.1 := by
          obtain ⟨h1, h2⟩ := List.getElem?_eq_some_iff.1 hpx
          rw [List.take_succ_eq_append_getElem h1, h2, List.foldl_append, HCUR.out]
          rfl
        have HST := Lib.hid hst
        have hmx := HM.out
        have HD := Lib.hid (ddone_any wr ua uc cur x.1 xa xc x.2.1 HU.out.read (by have := HXR.out; rw [HXV.out] at this; exact this) hat (by omega) (by omega))
        clear d1 d2 hx hxr hxv hpx hat hml hst hmx
        go_wp2_with (go_at_call 71; (with_reducible refine HD.out.mono ?_); rintro e w2 ⟨v2, rfl, k1, k2⟩; have H1 := Lib.hid k1; have H2 := Lib.hid k2; clear k1 k2)
        go_roundw
        case rel => exact ⟨i + 1, v2, by omega, by go_num, rfl, by rw [HST.out]; exact own_base H1.out fun k e => Nat.le_trans HB.out.size (World.ownsRow.lt H1.out k e).1, HB.out.trans (H2.out.mono HB.out.size)⟩
        case measure => simp [intOf]; omega
      · have hil : i = ps.length := by omega
        have hce : cur = DF.all ⟨safe, pwL ps⟩ := by
          rw [← HCUR.out, hil, show ps.length = (pwL ps).length by simp [pwL], List.take_length]
          rfl
        subst hil
        have HUU := Lib.hid hce
        clear hce
        go_wp2
        go_ret
        exact ⟨_, rfl, by rw [← HUU.out]; exact HU.out, HB.out⟩
end Go.Proofs.Ytfeogoihkpclcaa

/-
  The document's disk: is it a name; a part of bytes.
-/
namespace Go.Proofs.Ytfeogoihkpclcaa
open Go.RowKit

set_option maxRecDepth 100000 in
set_option maxHeartbeats 2000000 in
theorem named_any (w : World) (s : ByteArray) (hs : s.size ≤ maxLen) :
    Calls Try.prog 61 #[.string s] w fun e w' => e = .returned (.bool (nmOk s.data.toList)) ∧ w = w' := by
  have hlen := size_list s
  unfold maxLen at hs
  have HL := Lib.hid hlen
  clear hlen
  go_enter Try.func61, Try.ntmps61
  go_wp2
  go_loop [3] (fun i => ∃ k : Nat, k ≤ s.size ∧ i = .int .i64 k ∧ (s.data.toList.take k).all nmC = true) (fun i => s.size - (intOf i).toNat)
  case atStart => exact ⟨0, Nat.zero_le _, rfl, rfl⟩
  case round =>
    obtain ⟨k, hk, rfl, hall⟩ := hrel
    have HA := Lib.hid hall
    clear hall
    by_cases hlt : k < s.size
    · have hg := getD_list s k hlt
      have hl : k < s.data.toList.length := by rw [HL.out]; exact hlt
      have hst := all_take_succ s.data.toList k hl
      have hno := all_of_not (l := s.data.toList) (k := k) hl
      rw [hg] at hst hno
      have HS := Lib.hid hst
      have HN := Lib.hid hno
      clear hst hno hg
      obtain ⟨c, hcc⟩ : ∃ c : UInt8, s[k] = c := ⟨_, rfl⟩
      rw [hcc] at HS HN
      have hr : ∀ h : k < s.size, s[k] = c := fun _ => hcc
      clear hcc
      have hb := byte_le c
      rcases nm_ways c with ⟨hn, hw⟩ | ⟨hn, hw⟩
      · have hno := HN.out hn
        have HX := Lib.hid (show nmOk s.data.toList = false by unfold nmOk; rw [hno]; rfl)
        clear hno
        have HN2 := Lib.hid hn
        clear hn
        have b1 : ((c.toNat : Int) == 45) = false := by
          rcases hw with ⟨a1, a2, a3, a4⟩ | ⟨a1, a2⟩ | a1 <;> (simp; omega)
        have b2 : ((c.toNat : Int) == 46) = false := by
          rcases hw with ⟨a1, a2, a3, a4⟩ | ⟨a1, a2⟩ | a1 <;> (simp; omega)
        rcases hw with ⟨a1, a2, a3, a4⟩ | ⟨a1, a2⟩ | a1
        · go_wp2
          go_ret
          exact ⟨congrArg (fun b => Ending.returned (.bool b)) HX.out.symm, rfl⟩
        · have b3 : decide ((c.toNat : Int) ≤ 57) = false := decide_eq_false (by omega)
          go_wp2
          go_ret
          exact ⟨congrArg (fun b => Ending.returned (.bool b)) HX.out.symm, rfl⟩
        · have b3 : decide ((c.toNat : Int) ≤ 57) = false := decide_eq_false (by omega)
          have b4 : decide ((c.toNat : Int) ≤ 122) = false := decide_eq_false (by omega)
          go_wp2
          go_ret
          exact ⟨congrArg (fun b => Ending.returned (.bool b)) HX.out.symm, rfl⟩
      · have HX := Lib.hid (show (s.data.toList.take (k + 1)).all nmC = true by rw [HS.out, HA.out, hn]; rfl)
        have HN2 := Lib.hid hn
        clear hn
        rcases hw with ⟨a1, a2⟩ | ⟨a1, a2⟩ | a1 | a1
        all_goals
          go_wp2
          all_goals
            go_round
            case rel => exact ⟨k + 1, by omega, by go_num, HX.out⟩
            case measure => simp [intOf]; omega
    · have hall2 : s.data.toList.all nmC = true := by
        have := HA.out
        rwa [List.take_of_length_le (by rw [HL.out]; omega)] at this
      have HX := Lib.hid (show nmOk s.data.toList = (decide (1 ≤ s.size) && decide (s.size ≤ 40)) by unfold nmOk; rw [hall2, HL.out, Bool.true_and])
      clear hall2
      by_cases h1 : 1 ≤ s.size
      · by_cases h2 : s.size ≤ 40
        · go_wp2
          go_ret
          exact ⟨by rw [HX.out, decide_eq_true h1, decide_eq_true h2]; exact congrArg (fun b => Ending.returned (Value.bool b)) (decide_eq_true (show (s.size : Int) ≤ 40 by omega)), rfl⟩
        · go_wp2
          go_ret
          exact ⟨by rw [HX.out, decide_eq_true h1, decide_eq_false h2]; exact congrArg (fun b => Ending.returned (Value.bool b)) (decide_eq_false (show ¬ (s.size : Int) ≤ 40 by omega)), rfl⟩
      · go_wp2
        go_ret
        exact ⟨by rw [HX.out, decide_eq_false h1]; rfl, rfl⟩
set_option maxRecDepth 100000 in
set_option maxHeartbeats 2000000 in
set_option linter.unusedSimpArgs false in
theorem dpart_any (w : World) (va : Option Addr) (vc : Nat) (l : List UInt8) (i c : Nat) (h : RdB w (.slice va l.length vc) l) (hi : i ≤ l.length) (hl : l.length ≤ 140737488355000) :
    Calls Try.prog 68 #[.slice va l.length vc, .int .i64 (i : Int), .int .i64 (c : Int)] w fun e w' => ∃ v, e = .returned v ∧ RdB w' v ((l.drop i).take c) ∧ (∀ k, v.ownBlock = some k → w.heap.size ≤ k) ∧ Below w.heap.size w w' := by
  have hvc : l.length ≤ vc := by obtain ⟨_, _, e, h, _⟩ := RdB.form h; cases e; exact h
  obtain ⟨m, hm⟩ : ∃ m, m = min c (l.length - i) := ⟨_, rfl⟩
  have hm1 : min (c : Int) ((l.length : Int) - (i : Int)) = (m : Int) := by omega
  have hm2 : (i : Int) + (m : Int) ≤ (l.length : Int) := by omega
  have hml : m ≤ l.length - i := by omega
  have htk : (l.drop i).take c = (l.drop i).take m := by rw [hm, ← List.length_drop, ← List.take_take, List.take_length]
  rw [htk]
  have hlen : ((l.drop i).take m).length = m := by rw [List.length_take, List.length_drop]; omega
  have hb0 : Below w.heap.size w (w.alloc (.cells #[] 5)) := (Below.refl _ _).alloc (Nat.le_refl _) _
  have HSUB := Lib.hid (Rd.below (sub_rd h i m hi hml) hb0 (Nat.le_refl _))
  have hpm : ((i : Int) + (m : Int)).toNat = i + m := by omega
  have hpv : (i : Int) + (m : Int) ≤ (vc : Int) := by omega
  have hsb : i + m - i = m := by omega
  have HB0 := Lib.hid hb0
  clear h htk hm hb0
  by_cases hvi : vc = i
  · have hm0 : m = 0 := by omega
    subst hm0
    go_enter Try.func68, Try.ntmps68
    go_wp2_with (at_builtin; refine wpList_append_rd rfl (.tmp 7) (.tmp 18) 32 rfl w.heap.size 5 1 1 (.int .u8 0) Try.underlying32 info_u8 rfl (by decide) (.slice (some ⟨w.heap.size, 0, none⟩) 0 0) _ 0 0 [] [] rfl rfl (made_ownD w _ _) ?rdA (by simp) ?bbA ?l1A ?l2A ?kkA)
    case rdA => exact ⟨_, _, rfl, Nat.zero_le _, by first | exact Nat.zero_le _ | (unfold maxLen; omega), rfl, .inl ⟨rfl, fun h => by first | rfl | omega⟩⟩
    case bbA => simp
    case l1A => omega
    case l2A => unfold maxLen; omega
    case kkA =>
      intro v' w' hown hB
      have hb := hB w.heap.size w (Nat.le_refl _) HB0.out
      have hrd := rd_of_own hown
      have hlt := fun k (e : v'.ownBlock = some k) => (World.ownsRow.lt hown k e).1
      have HR := Lib.hid hrd
      have HL := Lib.hid hlt
      clear hrd hlt hown hB
      go_wp2
      go_ret
      exact ⟨v', rfl, by rw [List.take_zero]; exact HR.out, HL.out, hb⟩
  · go_enter Try.func68, Try.ntmps68
    go_wp2_with (at_builtin; refine wpList_append_rd rfl (.tmp 7) (.tmp 18) 32 rfl w.heap.size 5 1 1 (.int .u8 0) Try.underlying32 info_u8 rfl (by decide) (.slice (some ⟨w.heap.size, 0, none⟩) 0 0) _ 0 m [] (((l.drop i).take m).map bv) rfl rfl (made_ownD w _ _) ?rdB (bv_oneCell _) ?bbB ?l1B ?l2B ?kkB)
    case rdB => exact HSUB.out
    case bbB => simp
    case l1B => omega
    case l2B => unfold maxLen; omega
    case kkB =>
      intro v' w' hown hB
      have hb := hB w.heap.size w (Nat.le_refl _) HB0.out
      have hrd := rd_of_own hown
      have hlt := fun k (e : v'.ownBlock = some k) => (World.ownsRow.lt hown k e).1
      have HR := Lib.hid hrd
      have HL := Lib.hid hlt
      clear hrd hlt hown hB
      go_wp2
      go_ret
      refine ⟨v', rfl, ?_, HL.out, hb⟩
      unfold RdB
      rw [hlen]
      simpa using HR.out

end Go.Proofs.Ytfeogoihkpclcaa

/-
  The document's disk in memory.
-/
namespace Go.Proofs.Ytfeogoihkpclcaa
open Go.RowKit

/-- Whose block: the disk's own cells, the row of its files, the loose changes, a file's cells, a file's loose writes; data is never written again. -/
inductive DR where
  | out | disk | files | loose | data
  | file (i : Nat) | puts (i : Nat)
  deriving DecidableEq

/-- A file: where its cells lie, the slices in them, what they tell. -/
structure GD where
  fp : Nat
  sv : Value
  pv : Value
  safe : List UInt8
  ps : List PW

def GD.df (g : GD) : DF := ⟨g.safe, pwL g.ps⟩
def dcCells (l : List DC) : List Value := l.flatMap fun c => [.string (strB c.src), .string (strB c.dst), .int .i64 (c.id : Int)]
def fpCells (l : List GD) : List Value := l.map fun g => .pointer (some ⟨g.fp, 0, none⟩)

/-- The values in the disk's cells. -/
structure DV where
  fv : Value
  nv : Value
  ov : Value
  lv : Value
  kv : Value
def docCells (v : DV) (m : DM) : Array Value := #[v.fv, v.nv, v.ov, v.lv, .int .i64 m.plan.room, .int .i64 m.plan.crash, .bool m.plan.done, v.kv, .int .i64 m.plan.names, .int .i64 m.calls, .bool m.down]

structure GDAt (o : Nat → DR) (w : World) (i : Nat) (g : GD) : Prop where
  blk : w.heap[g.fp]? = some (.cells #[g.sv, g.pv] 98 (0, 0))
  rol : o g.fp = .file i
  safe : RdB w g.sv g.safe
  os : ∀ k, g.sv.ownBlock = some k → o k = .data
  row : w.ownsRow 0 105 2 g.pv g.ps.length (pwCells g.ps)
  orow : ∀ k, g.pv.ownBlock = some k → o k = .puts i
  each : ∀ x ∈ g.ps, RdB w x.2.2 x.2.1
  oe : ∀ x ∈ g.ps, ∀ k, x.2.2.ownBlock = some k → o k = .data

structure DocAt (o : Nat → DR) (v : DV) (gs : List GD) (w : World) (q : Nat) (m : DM) : Prop where
  blk : w.heap[q]? = some (.cells (docCells v m) 56 (0, 0))
  rol : o q = .disk
  fls : m.files = gs.map GD.df
  row : w.ownsRow 0 85 1 v.fv gs.length (fpCells gs)
  orow : ∀ k, v.fv.ownBlock = some k → o k = .files
  each : ∀ i g, gs[i]? = some g → GDAt o w i g
  now : Rd w 2 v.nv m.now.length (bCells m.now)
  onow : ∀ k, v.nv.ownBlock = some k → o k = .data
  old : Rd w 2 v.ov m.old.length (bCells m.old)
  oold : ∀ k, v.ov.ownBlock = some k → o k = .data
  chg : w.ownsRow 0 101 3 v.lv m.loose.length (dcCells m.loose)
  ochg : ∀ k, v.lv.ownBlock = some k → o k = .loose
  keep : ∃ a n c, v.kv = .slice a n c
  lt : ∀ k, o k ≠ .out → k < w.heap.size

def DF_ (o : Nat → DR) (k : Nat) : Prop := o k ≠ .out

theorem rd_kept_any {R : Nat → Prop} {w w' : World} {sz n : Nat} {v : Value} {cs : List Value} (h : Rd w sz v n cs) (hk : Kept R w w') (ho : n ≠ 0 → ∀ k, v.ownBlock = some k → R k) : Rd w' sz v n cs := by
  by_cases h0 : n = 0
  · subst h0
    obtain ⟨a, cap, rfl, h1, h2, h3, h4⟩ := h
    refine ⟨a, cap, rfl, h1, h2, h3, ?_⟩
    rcases h4 with ⟨h5, h6⟩ | ⟨b, off, rfl, h5, h6⟩
    · exact .inl ⟨h5, h6⟩
    · exact .inl ⟨rfl, fun h => by cases h⟩
  · exact Rd.kept h hk fun k e => ho h0 k e

theorem GDAt.kept {o : Nat → DR} {w w' : World} {i : Nat} {g : GD} {R : Nat → Prop} (h : GDAt o w i g) (hk : Kept R w w') (hR : ∀ k, o k = .file i ∨ o k = .data ∨ o k = .puts i → R k) : GDAt o w' i g where
  blk := (hk.block _ (hR _ (.inl h.rol))).trans h.blk
  rol := h.rol
  safe := rd_kept_any h.safe hk fun _ k e => hR k (.inr (.inl (h.os k e)))
  os := h.os
  row := own_kept h.row hk fun k e => hR k (.inr (.inr (h.orow k e)))
  orow := h.orow
  each x hx := rd_kept_any (h.each x hx) hk fun _ k e => hR k (.inr (.inl (h.oe x hx k e)))
  oe := h.oe

theorem DocAt.kept {o : Nat → DR} {v : DV} {gs : List GD} {w w' : World} {q : Nat} {m : DM} {R : Nat → Prop} (h : DocAt o v gs w q m) (hk : Kept R w w') (hR : ∀ k, DF_ o k → R k) : DocAt o v gs w' q m where
  blk := (hk.block q (hR q (by unfold DF_; rw [h.rol]; decide))).trans h.blk
  rol := h.rol
  fls := h.fls
  row := own_kept h.row hk fun k e => hR k (by unfold DF_; rw [h.orow k e]; decide)
  orow := h.orow
  each i g hg := (h.each i g hg).kept hk fun k e => hR k (by unfold DF_; rcases e with e | e | e <;> rw [e] <;> simp)
  now := rd_kept_any h.now hk fun _ k e => hR k (by unfold DF_; rw [h.onow k e]; decide)
  onow := h.onow
  old := rd_kept_any h.old hk fun _ k e => hR k (by unfold DF_; rw [h.oold k e]; decide)
  oold := h.oold
  chg := own_kept h.chg hk fun k e => hR k (by unfold DF_; rw [h.ochg k e]; decide)
  ochg := h.ochg
  keep := h.keep
  lt k hk' := Nat.lt_of_lt_of_le (h.lt k hk') hk.size

theorem DocAt.below {o : Nat → DR} {v : DV} {gs : List GD} {w w' : World} {q : Nat} {m : DM} (h : DocAt o v gs w q m) (hb : Below w.heap.size w w') : DocAt o v gs w' q m :=
  h.kept (R := DF_ o) (Kept.of hb fun k hk => h.lt k hk) fun _ h => h

/-- What a call leaves of what is not the disk's. -/
def DocTo (o : Nat → DR) (w w' : World) (q : Nat) (m : DM) : Prop := ∃ o' v' gs', DocAt o' v' gs' w' q m ∧ Touch (DF_ o) w w' ∧ Grows (DF_ o) (DF_ o') w w'

theorem DocTo.of_below {o : Nat → DR} {v : DV} {gs : List GD} {w w' : World} {q : Nat} {m : DM} (h : DocAt o v gs w q m) (hb : Below w.heap.size w w') : DocTo o w w' q m := ⟨o, v, gs, h.below hb, Touch.of_below hb, Grows.refl _ _ _⟩
theorem DocTo.trans {o o1 : Nat → DR} {w w1 w' : World} {q : Nat} {m : DM} (ht : Touch (DF_ o) w w1) (hg : Grows (DF_ o) (DF_ o1) w w1) (h : DocTo o1 w1 w' q m) : DocTo o w w' q m := by
  obtain ⟨o2, v2, gs2, h1, h2, h3⟩ := h
  exact ⟨o2, v2, gs2, h1, ht.trans h2 hg, hg.trans h3 ht.size h2.size⟩

/-- The disk's own numbers, or the values in its cells, are written; nothing else. -/
theorem DocAt.scal {o : Nat → DR} {v : DV} {gs : List GD} {w w' : World} {q : Nat} {m m' : DM} (h : DocAt o v gs w q m) (hk : Kept (fun k => k < w.heap.size ∧ k ≠ q) w w') (hb : w'.heap[q]? = some (.cells (docCells v m') 56 (0, 0)))
    (h1 : m'.files = m.files) (h2 : m'.now = m.now) (h3 : m'.old = m.old) (h4 : m'.loose = m.loose) : DocAt o v gs w' q m' where
  blk := hb
  rol := h.rol
  fls := by rw [h1]; exact h.fls
  row := own_kept h.row hk fun k e => ⟨h.lt k (by rw [h.orow k e]; decide), fun ep => by subst ep; have := h.orow k e; rw [h.rol] at this; cases this⟩
  orow := h.orow
  each i g hg := (h.each i g hg).kept hk fun k e => ⟨h.lt k (by rcases e with e | e | e <;> rw [e] <;> simp), fun ep => by subst ep; rcases e with e | e | e <;> rw [h.rol] at e <;> cases e⟩
  now := by rw [h2]; exact rd_kept_any h.now hk fun _ k e => ⟨h.lt k (by rw [h.onow k e]; decide), fun ep => by subst ep; have := h.onow k e; rw [h.rol] at this; cases this⟩
  onow := h.onow
  old := by rw [h3]; exact rd_kept_any h.old hk fun _ k e => ⟨h.lt k (by rw [h.oold k e]; decide), fun ep => by subst ep; have := h.oold k e; rw [h.rol] at this; cases this⟩
  oold := h.oold
  chg := by rw [h4]; exact own_kept h.chg hk fun k e => ⟨h.lt k (by rw [h.ochg k e]; decide), fun ep => by subst ep; have := h.ochg k e; rw [h.rol] at this; cases this⟩
  ochg := h.ochg
  keep := h.keep
  lt k hk' := Nat.lt_of_lt_of_le (h.lt k hk') hk.size

theorem doc_touch {o : Nat → DR} {w w' : World} {q : Nat} (ho : o q = .disk) (hk : Kept (fun k => k < w.heap.size ∧ k ≠ q) w w') : Touch (DF_ o) w w' :=
  Kept.mono hk fun k hk' => ⟨hk'.1, fun e => by subst e; exact hk'.2 (by unfold DF_; rw [ho]; decide)⟩

theorem newDisk_any (w : World) (p : DP) (ka : Option Addr) (kn kc : Nat) :
    Calls Try.prog 7 #[.agg #[.int .i64 p.room, .int .i64 p.crash, .bool p.done, .slice ka kn kc, .int .i64 p.names]] w fun e w' => ∃ q o v, e = .returned (.pointer (some ⟨q, 0, none⟩)) ∧ DocAt o v [] w' q (DM.new p) ∧ Below w.heap.size w w' ∧ ∀ k, DF_ o k → w.heap.size ≤ k := by
  go_enter Try.func7, Try.ntmps7
  go_wp2
  go_ret
  refine ⟨w.heap.size + 1, fun k => if k = w.heap.size + 1 then .disk else .out, ⟨.slice none 0 0, .slice none 0 0, .slice none 0 0, .slice none 0 0, .slice ka kn kc⟩, rfl, ⟨?_, by simp, rfl, World.ownsRow_nil _ _ _ _, fun k e => (nomatch e), fun i g h => by simp at h, Rd.nil _ _, fun k e => (nomatch e), Rd.nil _ _, fun k e => (nomatch e), World.ownsRow_nil _ _ _ _, fun k e => (nomatch e), ⟨ka, kn, kc, rfl⟩, ?_⟩, ?_, ?_⟩
  · exact heap_new2 w _ _
  · intro k hk
    simp only [ne_eq, ite_eq_right_iff, Classical.not_imp] at hk
    simp [hk.1]
  · exact ((Below.refl w.heap.size w).alloc (Nat.le_refl _) _).alloc (by simp) _
  · intro k hk
    simp only [DF_, ne_eq, ite_eq_right_iff, Classical.not_imp] at hk
    omega

theorem ddown_any (w : World) (q : Nat) (b : Bool) (h : w.cell? ⟨q, 10, none⟩ = some (.bool b)) : Calls Try.prog 14 #[.pointer (some ⟨q, 0, none⟩)] w fun e w' => e = .returned (.bool b) ∧ w = w' := by
  go_enter Try.func14, Try.ntmps14
  go_wp2
  go_ret
  exact ⟨rfl, rfl⟩
theorem dcalls_any (w : World) (q : Nat) (n : Int) (h : w.cell? ⟨q, 9, none⟩ = some (.int .i64 n)) : Calls Try.prog 16 #[.pointer (some ⟨q, 0, none⟩)] w fun e w' => e = .returned (.int .i64 n) ∧ w = w' := by
  go_enter Try.func16, Try.ntmps16
  go_wp2
  go_ret
  exact ⟨rfl, rfl⟩
end Go.Proofs.Ytfeogoihkpclcaa
