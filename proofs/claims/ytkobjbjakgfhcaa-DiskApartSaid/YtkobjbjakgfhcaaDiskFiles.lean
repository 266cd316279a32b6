/-
  All files of a disk, by rising names (Files); Size.
-/
import Derived.Test.YtkobjbjakgfhcaaDiskWrite
namespace Go.Proofs.Ytkobjbjakgfhcaa
open Go.RowKit

theorem info_afile : (Try.prog.info? 81).map (fun i => (i.zero, i.size, i.bytes)) = some (some (.agg #[.string ⟨#[]⟩, .string ⟨#[]⟩, .int .i64 0]), 3, 40) := by kernel_rfl

def fiCells (l : List (List UInt8 × List UInt8 × Nat)) : List Value := l.flatMap fun x => [.string (strB x.1), .string (strB x.2.1), .int .i64 (x.2.2 : Int)]
def PD.list (d : PD) : List (List UInt8 × List UInt8 × Nat) := d.names.map fun x => (x.1, (d.file x.2).now, (d.file x.2).many)

theorem fi_one (l : List (List UInt8 × List UInt8 × Nat)) : ∀ u ∈ fiCells l, u.oneCell' = true := by
  intro u hu
  unfold fiCells at hu
  obtain ⟨p, _, hp⟩ := List.mem_flatMap.1 hu
  simp only [List.mem_cons, List.not_mem_nil, or_false] at hp
  rcases hp with rfl | rfl | rfl <;> rfl

theorem srt_find {l : DB} (h : Srt l) {k : Nat} {x : List UInt8 × Nat} (hx : l[k]? = some x) : dfind l x.1 = some x.2 := by
  induction l generalizing k with
  | nil => simp at hx
  | cons y r ih =>
    cases k with
    | zero =>
      simp at hx
      subst hx
      simp [dfind]
    | succ k =>
      simp at hx
      have hm := List.mem_of_getElem? hx
      have hne := srt_ne h x hm
      unfold dfind
      rw [List.find?_cons_of_neg (by simpa using fun e => hne e.symm)]
      exact ih (List.pairwise_cons.1 h).2 hx

set_option maxRecDepth 100000 in
set_option maxHeartbeats 4000000 in
set_option linter.unusedSimpArgs false in
theorem files_at {g : Gh} {w : World} {p : Nat} {d : PD} (h : DiskAt g w p d) (hsm : Small d) :
    Calls Try.prog 12 #[.pointer (some ⟨p, 0, none⟩)] w fun e w' => ∃ v, e = .returned v ∧ w'.ownsRow w.heap.size 81 3 v d.list.length (fiCells d.list) ∧ Below w.heap.size w w' := by
  have c6 : w.cell? ⟨p, 6, none⟩ = some g.nv := blk_cell h.blk
  have hsrt := h.nr.srt
  have hnl := hsm.names
  have HR := Lib.hid (rising_any w p g.nv d.names c6 h.nr (by omega))
  have hdl : d.list.length = d.names.length := by simp [PD.list]
  have HDL := Lib.hid hdl
  have HH := Lib.hid h
  have HSM := Lib.hid hsm
  have HSRT := Lib.hid hsrt
  have hpl := blk_lt h.blk
  clear h hsm hsrt c6 hdl
  go_enter Try.func12, Try.ntmps12
  go_wp2_with (go_at_call 42; refine HR.out.mono ?_; rintro e w1 ⟨nv, rfl, hnr, hB1⟩; obtain ⟨na, ncap, hnv, _, _⟩ := rd_of_own hnr; subst hnv; have HNR := Lib.hid hnr; have HB1 := Lib.hid hB1; clear hnr hB1)
  obtain ⟨B1, hB1e⟩ : ∃ B, B = w1.heap.size := ⟨_, rfl⟩
  have HBE := Lib.hid hB1e
  clear hB1e
  go_loopw [3, 12] (fun lv i wr => ∃ (k : Nat) (v : Value), k ≤ d.names.length ∧ i = .int .i64 k ∧ v = lv ∧ wr.ownsRow B1 81 3 v k (fiCells (d.list.take k)) ∧ Below B1 w1 wr) (fun _ i _ => d.names.length - (intOf i).toNat)
  case atStart => exact ⟨0, _, Nat.zero_le _, rfl, rfl, World.ownsRow_nil _ _ _ _, Below.refl _ _⟩
  case round =>
    obtain ⟨k, v, hk, rfl, rfl, hv, hB⟩ := hrel
    have HV0 := Lib.hid hv
    have HBW := Lib.hid hB
    clear hv hB
    by_cases hlt : k < d.names.length
    · obtain ⟨xn, hxn⟩ : ∃ xn, d.names[k]? = some xn := ⟨_, List.getElem?_eq_getElem hlt⟩
      have hfnd := srt_find HSRT.out hxn
      have hmem := List.mem_of_getElem? hxn
      obtain ⟨s, hs⟩ : ∃ s, s = strB xn.1 := ⟨_, rfl⟩
      have hsd : s.data.toList = xn.1 := by rw [hs]
      obtain ⟨nb, ncap2, ncur, hnv2, _, _, hnb, hncell, _⟩ := own_form HNR.out (by omega)
      cases hnv2
      have hnbl := blk_lt hnb
      have hBE := HBE.out
      have ecell : wr.cell? ⟨nb, k, none⟩ = some (.string s) := by
        refine (HBW.out.cell (p := ⟨nb, k, none⟩) (by show nb < B1; omega)).trans (hncell k _ ?_)
        rw [hs]; unfold nmCells; rw [List.getElem?_map, hxn]; rfl
      have hszw := HBW.out.size
      have hszb := HB1.out.size
      have hBall : Below w.heap.size w wr := HB1.out.trans (HBW.out.mono (by omega))
      have hdw : DiskAt g wr p d := HH.out.below hBall
      have hnm := HSM.out.nml xn hmem
      have hss : s.size ≤ maxLen := by rw [hs, strB_size]; unfold maxLen; omega
      rcases find_at hdw s hss HSM.out.idn with ⟨hf, _⟩ | ⟨id, fb, cap, x, f, hf, hidl, hfv, hx, hff, hofb, hfbl, hfa, e0, e1, e2, ef, hcall⟩
      · rw [hsd, hfnd] at hf; cases hf
      · rw [hsd, hfnd] at hf
        have hid : xn.2 = id := by simpa using hf
        have hfile : d.file id = f := by unfold PD.file; rw [List.getD_eq_getElem?_getD, hff]; rfl
        have hfs := HSM.out.fl f (List.mem_of_getElem? hff)
        have hfbB : fb < B1 := by
          have := HH.out.olt fb (by rw [hofb]; simp)
          omega
        obtain ⟨an, cn, hvn, _, _⟩ := RdB.form hfa.vn.read
        obtain ⟨w3, hw3⟩ : ∃ w3, w3 = wr.drew := ⟨_, rfl⟩
        have hb3 : Below wr.heap.size wr w3 := by subst hw3; exact (Below.refl _ _).drew
        have HV := Lib.hid (by subst hw3; exact HV0.out : w3.ownsRow B1 81 3 v k (fiCells (d.list.take k)))
        have hd3 := hdw.below hb3
        have HFA := Lib.hid (hd3.fa _ (List.mem_of_getElem? hx))
        have HKN := Lib.hid (by subst hw3; rw [← hvn]; exact e1 : w3.cell? ⟨fb, id * 3 + 1, none⟩ = some (.slice an f.now.length cn))
        have HKL := Lib.hid (by subst hw3; exact e2 : w3.cell? ⟨fb, id * 3 + 2, none⟩ = some x.vl)
        have HRN := Lib.hid HFA.out.vn.read
        have HSZ3 := Lib.hid (by subst hw3; rw [hBE]; exact hszw : B1 ≤ w3.heap.size)
        have HVB := Lib.hid (fun (_ : f.now ≠ []) j (e : x.vn.ownBlock = some j) (_ : j < w3.heap.size) => (by have := HH.out.olt j (by rw [hfa.on j e]; simp); omega : j < B1))
        have HFB := Lib.hid hfbB
        have HFS := Lib.hid hfs
        have HVN := Lib.hid hvn
        have Hw3 := Lib.hid hw3
        have HC := Lib.hid hcall
        have hq := eqf_nil
        have hstep : d.list.take (k + 1) = d.list.take k ++ [(s.data.toList, f.now, f.many)] := by
          have : d.list[k]? = some (s.data.toList, f.now, f.many) := by
            unfold PD.list
            rw [List.getElem?_map, hxn, hsd]
            simp [hid, hfile]
          obtain ⟨h1, h2⟩ := List.getElem?_eq_some_iff.1 this
          rw [List.take_succ_eq_append_getElem h1, h2]
        have HSTEP := Lib.hid hstep
        have HXN := Lib.hid hxn
        have HBALL := Lib.hid hBall
        clear hxn hfnd hmem hs hsd hnb hncell hdw hf hfv hx hff hfa e0 e1 e2 ef hcall hd3 hvn hw3 hb3 hfile hfs hstep hBall hid
        go_wp2_with (go_at_call 43; refine HC.out.mono ?_; rintro e w5 ⟨rfl, rfl⟩)
        refine wp_region_two (fun wz => Below B1 w3 wz) (fun wz => Below B1 w3 wz) [(0, 0), (0, 1), (0, 2), (0, 3), (0, 4), (0, 5), (0, 6), (0, 7), (2, 8), (0, 9), (2, 10), (2, 11), (0, 12)] [] (by kernel_rfl) (by kernel_rfl) (by kernel_rfl) (by kernel_rfl) (by kernel_rfl) (by rw [← Hw3.out]; exact Below.refl _ _) (by rw [← Hw3.out]; exact Below.refl _ _) ?_
        simp only [planT, List.drop_succ_cons, List.drop_zero]
        rw [← Hw3.out]
        refine PlanT.take0 (v := ?v0) (by kernel_rfl) ?y0 ?r0
        case y0 => (intro wz hz; have k1 : wz.cell? ⟨fb, id * 3 + 1, none⟩ = some (.slice an f.now.length cn) := (hz.cell (p := ⟨fb, id * 3 + 1, none⟩) HFB.out).trans HKN.out; go_simp; try with_reducible rfl)
        (try simp only [Act.put, List.setIfInBounds_toArray, List.set_cons_zero, List.set_cons_succ])
        refine PlanT.take0 (v := ?v1) (by kernel_rfl) ?y1 ?r1
        case y1 => (intro wz hz; have k1 : wz.cell? ⟨fb, id * 3 + 1, none⟩ = some (.slice an f.now.length cn) := (hz.cell (p := ⟨fb, id * 3 + 1, none⟩) HFB.out).trans HKN.out; go_simp; try with_reducible rfl)
        (try simp only [Act.put, List.setIfInBounds_toArray, List.set_cons_zero, List.set_cons_succ])
        refine PlanT.take0 (v := ?v2) (by kernel_rfl) ?y2 ?r2
        case y2 => (intro wz hz; have k1 : wz.cell? ⟨fb, id * 3 + 1, none⟩ = some (.slice an f.now.length cn) := (hz.cell (p := ⟨fb, id * 3 + 1, none⟩) HFB.out).trans HKN.out; go_simp; try with_reducible rfl)
        (try simp only [Act.put, List.setIfInBounds_toArray, List.set_cons_zero, List.set_cons_succ])
        refine PlanT.take0 (v := ?v3) (by kernel_rfl) ?y3 ?r3
        case y3 => (intro wz hz; have k1 : wz.cell? ⟨fb, id * 3 + 1, none⟩ = some (.slice an f.now.length cn) := (hz.cell (p := ⟨fb, id * 3 + 1, none⟩) HFB.out).trans HKN.out; go_simp; try with_reducible rfl)
        (try simp only [Act.put, List.setIfInBounds_toArray, List.set_cons_zero, List.set_cons_succ])
        refine PlanT.take0 (v := ?v4) (by kernel_rfl) ?y4 ?r4
        case y4 => (intro wz hz; have k1 : wz.cell? ⟨fb, id * 3 + 1, none⟩ = some (.slice an f.now.length cn) := (hz.cell (p := ⟨fb, id * 3 + 1, none⟩) HFB.out).trans HKN.out; go_simp; try with_reducible rfl)
        (try simp only [Act.put, List.setIfInBounds_toArray, List.set_cons_zero, List.set_cons_succ])
        refine PlanT.take0 (v := ?v5) (by kernel_rfl) ?y5 ?r5
        case y5 => (intro wz hz; have k1 : wz.cell? ⟨fb, id * 3 + 1, none⟩ = some (.slice an f.now.length cn) := (hz.cell (p := ⟨fb, id * 3 + 1, none⟩) HFB.out).trans HKN.out; go_simp; try with_reducible rfl)
        (try simp only [Act.put, List.setIfInBounds_toArray, List.set_cons_zero, List.set_cons_succ])
        refine PlanT.take0 (v := .string (strB f.now)) (by kernel_rfl) ?y6 ?r6
        case y6 => (intro wz hz; have hcv := rdB_convert (rdB_kept HRN.out (Kept.of hz (R := fun k => k < B1) fun _ h => h) HVB.out) 32 5 9 Try.underlying32 Try.underlying5 Try.underlying9; rw [HVN.out] at hcv; go_simp)
        (try simp only [Act.put, List.setIfInBounds_toArray, List.set_cons_zero, List.set_cons_succ])
        refine PlanT.take0 (v := ?v7) (by kernel_rfl) ?y7 ?r7
        case y7 => (intro wz hz; have k1 : wz.cell? ⟨fb, id * 3 + 1, none⟩ = some (.slice an f.now.length cn) := (hz.cell (p := ⟨fb, id * 3 + 1, none⟩) HFB.out).trans HKN.out; go_simp; try with_reducible rfl)
        (try simp only [Act.put, List.setIfInBounds_toArray, List.set_cons_zero, List.set_cons_succ])
        refine PlanT.exec2 (fun K hK => ⟨by kernel_rfl, ?_⟩)
        go_simp
        refine (pending_any w3 fb (id * 3) x.vl f.loose HKL.out HFA.out.vl (by have := HFS.out.2.2.2.1; show manyL f.loose < _; omega) (by have := HFS.out.2.2.1; omega)).mono ?_
        rintro e w4 ⟨rfl, hB4⟩
        have hB4x := hB4
        have hB4 : Below B1 w3 w4 := hB4.mono (by have := HSZ3.out; omega)
        refine hK.out _ _ hB4 hB4 ?_
        clear hK K
        (try simp only [Act.put, List.setIfInBounds_toArray, List.set_cons_zero, List.set_cons_succ])
        refine PlanT.take0 (v := ?v9) (by kernel_rfl) ?y9 ?r9
        case y9 => (intro wz hz; have k1 : wz.cell? ⟨fb, id * 3 + 1, none⟩ = some (.slice an f.now.length cn) := (hz.cell (p := ⟨fb, id * 3 + 1, none⟩) HFB.out).trans HKN.out; go_simp; try with_reducible rfl)
        (try simp only [Act.put, List.setIfInBounds_toArray, List.set_cons_zero, List.set_cons_succ])
        refine PlanT.exec2 (fun K hK => ⟨by kernel_rfl, ?_⟩)
        go_simp
        have hB5 : Below B1 w3 (w4.alloc (.cells #[.string s, .string (strB f.now), .int .i64 (((f.loose.map fun p => p.2.length).sum : Nat) : Int)] 81)) := hB4.alloc (by have := hB4.size; have := HSZ3.out; omega) _
        refine hK.out _ _ hB5 hB5 ?_
        clear hK K
        (try simp only [Act.put, List.setIfInBounds_toArray, List.set_cons_zero, List.set_cons_succ])
        refine PlanT.exec2 (fun K hK => ⟨by kernel_rfl, ?_⟩)
        refine wp_append_at (.tmp 19) (.tmp 29) 38 rfl 81 3 40 (.agg #[.string ⟨#[]⟩, .string ⟨#[]⟩, .int .i64 0]) Try.underlying38 info_afile rfl (by decide) v _ k 1 (fiCells (d.list.take k)) (fiCells [(s.data.toList, f.now, f.many)]) rfl rfl ?own ?rd (fi_one _) (by omega) (by unfold maxLen; omega) ?_
        case own => exact own_kept (own_base HV.out fun _ _ => Nat.zero_le _) (R := fun j => j < w3.heap.size) ((Kept.of (hB4x.alloc (by have := hB4x.size; omega) _) fun _ h => h)) fun j e => own_lt HV.out j e
        case rd => exact ⟨_, 1, rfl, Nat.le_refl _, by unfold maxLen; omega, rfl, .inr ⟨w4.heap.size, 0, rfl, by simp, fun j u hj => by rw [blk_cell (heap_alloc_new w4 _)]; simpa [fiCells, strB_data, PF.many] using hj⟩⟩
        intro v5 w5 ho5 hm5
        have hv5b : ∀ j, v5.ownBlock = some j → B1 ≤ j := fun j e => by rcases hm5.at_ j e with h | h; exact (World.ownsRow.lt HV.out j h).1; have := hB5.size; have := HSZ3.out; omega
        have hB6 : Below B1 w3 w5 := hB5.grown hm5.grown (by have := hB5.size; have := HSZ3.out; omega) (fun j e => (World.ownsRow.lt HV.out j e).1)
        refine hK.out _ _ hB6 hB6 ?_
        clear hK K
        (try simp only [Act.put, List.setIfInBounds_toArray, List.set_cons_zero, List.set_cons_succ])
        refine PlanT.take0 (v := ?v12) (by kernel_rfl) ?y12 ?r12
        case y12 => (intro wz hz; have k1 : wz.cell? ⟨fb, id * 3 + 1, none⟩ = some (.slice an f.now.length cn) := (hz.cell (p := ⟨fb, id * 3 + 1, none⟩) HFB.out).trans HKN.out; go_simp; try with_reducible rfl)
        (try simp only [Act.put, List.setIfInBounds_toArray, List.set_cons_zero, List.set_cons_succ])
        refine PlanT.done (NoPanic.normal ?_)
        have HO5 := Lib.hid ho5
        have hB6 := hB6
        clear hm5 ho5
        go_wp2
        go_roundw
        case rel =>
          refine ⟨k + 1, v5, by omega, by go_num, rfl, ?_, ?_⟩
          · have e1 : fiCells (d.list.take (k + 1)) = fiCells (d.list.take k) ++ fiCells [(s.data.toList, f.now, f.many)] := by rw [HSTEP.out]; simp [fiCells]
            rw [e1]
            exact own_base HO5.out fun j e => hv5b j e
          · exact HBW.out.trans (((by rw [Hw3.out]; exact (Below.refl _ _).drew : Below B1 wr w3)).trans hB6)
        case measure => simp [intOf]; omega
    · go_wp2
      go_ret
      refine ⟨v, rfl, ?_, HB1.out.trans (HBW.out.mono (by have := HBE.out; have := HB1.out.size; omega))⟩
      have hkn : k = d.names.length := by omega
      have hv := HV0.out
      rw [hkn, ← HDL.out, List.take_length] at hv
      exact own_base hv fun j e => by have := (World.ownsRow.lt hv j e).1; have := HBE.out; have := HB1.out.size; omega
end Go.Proofs.Ytkobjbjakgfhcaa
