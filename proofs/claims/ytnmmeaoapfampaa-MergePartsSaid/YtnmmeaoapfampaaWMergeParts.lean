/-
  The walk of MergeParts.
-/
import Derived.Test.YtnmmeaoapfampaaMergeDeal
import Derived.Test.YtnmmeaoapfampaaEntSame
namespace Go.Proofs.Ytnmmeaoapfampaa
open Go.RowKit

theorem Moves.cell_far {w w' : World} {v v' : Value} (h : Moves w w' v v') {p : Addr} (hp : p.block < w.heap.size ∧ v.ownBlock ≠ some p.block) : w'.cell? p = w.cell? p := World.cell?_of_block (w := w) (h.grown.block p.block hp.1 fun e => hp.2 e.symm)
theorem Moves.frozen_far {w w' : World} {v v' : Value} (h : Moves w w' v v') {p : Addr} (hp : p.block < w.heap.size ∧ v.ownBlock ≠ some p.block) : w'.frozen? p = w.frozen? p := World.frozen?_of_block (w := w) (h.grown.block p.block hp.1 fun e => hp.2 e.symm)

set_option maxRecDepth 100000 in
set_option maxHeartbeats 1000000 in
theorem mergeParts_walkC (HP : MergeC) (HA : ViewC) (v0 : Value) (ns : List UInt8) (v1 : Value) (ds : List UInt8) (a : Int) (W : World) (w0 : RdB W v0 ns) (w1 : RdB W v1 ds) (wa : (Lit.int .u8 a).wf = true) :
    Calls Try.prog 5 #[v0, v1, .int .u8 a] W fun r w' => r = .returned (.bool true) ∧ Below W.heap.size W w' := by
  have HAW := Lib.hid (awake15_any HP HA)
  have HM := Lib.hid HP
  obtain ⟨va, vc, rfl, hc1, hc2⟩ := w0.form
  obtain ⟨ua, uc, rfl, hd1, hd2⟩ := w1.form
  unfold maxLen at hc2 hd2
  have ba := bounds_u8 wa
  obtain ⟨sp, rfl⟩ : ∃ n : Nat, a = (n : Int) := ⟨a.toNat, by omega⟩
  have HV0 := Lib.hid w0
  have HV1 := Lib.hid w1
  clear w0 w1 HP HA wa
  by_cases c1 : 80 < ns.length
  · have d1 : decide ((80 : Int) < (ns.length : Int)) = true := by simp; omega
    have d1n : decide (80 < ns.length) = true := by simp; omega
    go_enter Try.func5, Try.ntmps5
    go_wp2_with (go_at_call 10; (refine (HAW.out _).mono ?_); rintro e w9 ⟨rfl, hb9⟩)
    go_ret
    exact ⟨rfl, hb9⟩
  have d1 : decide ((80 : Int) < (ns.length : Int)) = false := by simp; omega
  have d1n : decide (80 < ns.length) = false := by simp; omega
  have HMK := Lib.hid (make12_any _ ns sp (by omega) W HV0.out (by omega))
  have hup := mkB_up ns sp
  have hsm := may_small (mkB_may ns sp) (by have := mkB_len ns sp; omega)
  have HFT := Lib.hid (mk_fits ns sp)
  have hLl : (mkB ns sp).length ≤ 80 := by have := mkB_len ns sp; omega
  generalize mkB ns sp = L at *
  have HUP := Lib.hid hup
  have HSM := Lib.hid hsm
  have HLL := Lib.hid (show L.length < 1000000 by omega)
  clear hup hsm c1
  go_enter Try.func5, Try.ntmps5
  go_wp2_with (first | (go_at_call 19; (refine HMK.out.mono ?_); rintro e w2 ⟨x1, rfl, ho1, hb1⟩; obtain ⟨la, lc, rfl, hl1, hl2⟩ := ho1.form; have HO1 := Lib.hid (own_monoE ho1 (Nat.zero_le _)); have HB1 := Lib.hid hb1; clear ho1 hb1) | (at_make; refine wpList_make_deal rfl _ _ rfl _ _ rfl rfl ?kk))
  intro w3 hd3 hb3
  obtain ⟨gp, hgp⟩ : ∃ gp, w2.heap.size = gp := ⟨_, rfl⟩
  rw [hgp] at hd3 ⊢
  have HB3 := Lib.hid (show Below gp w2 w3 by rw [← hgp]; exact hb3)
  have HGS := Lib.hid hgp
  have HD3 := Lib.hid hd3
  clear hd3 hb3 hgp
  go_wp2
  go_loopw [9] (fun x9 wr => ∃ (i : Nat) (vs : List Value) (ps : List (List Ent)), x9 = .int .i64 (i : Int) ∧ i ≤ L.length ∧ Hid (Deal gp gp vs ps wr) ∧ Hid ((∀ x, x ∈ ps.flatten ↔ x ∈ L.take i) ∧ ps.flatten.length = i) ∧ Hid (Below gp w2 wr ∧ gp ≤ wr.heap.size)) (fun i _ => L.length - (intOf i).toNat)
  case atStart => exact ⟨0, _, _, rfl, Nat.zero_le _, HD3, Lib.hid ⟨fun x => by simp, rfl⟩, Lib.hid ⟨HB3.out, by rw [← HGS.out]; exact HB3.out.size⟩⟩
  case round =>
    clear HD3
    obtain ⟨i, vs, ps, rfl, hi, HD, HF, HBB⟩ := hrel
    have HB := HBB.out
    have HO2 : Hid (OwnE wr 0 (.slice la L.length lc) L) := Lib.hid (HO1.out.below (by rw [HGS.out]; exact HB.1))
    by_cases hlt : i < L.length
    · have hltz : (i : Int) < (L.length : Int) := by omega
      have hin : (i : Int) < (L.length : Int) := by omega
      obtain ⟨g, hlg, hgl, x0, x1, x2, x3⟩ := own_ent HO2.out hlt
      subst hlg
      have hgl : g < wr.drew.heap.size := hgl
      have htk := List.take_succ_eq_append_getElem hlt
      have hgd : L.getD i Ent.none_ = L[i] := by simp [List.getD, hlt]
      have HTK : Hid (∀ x, x ∈ L.take (i + 1) ↔ x = L.getD i Ent.none_ ∨ x ∈ L.take i) := Lib.hid fun x => by rw [htk, hgd, List.mem_append, List.mem_singleton]; exact or_comm
      clear htk hgd
      generalize L.getD i Ent.none_ = X at *
      obtain ⟨xu, xs, xk, xv⟩ := X
      simp only at x0 x1 x2 x3
      by_cases hd : i < ds.length
      · have hdz : (i : Int) < (ds.length : Int) := by omega
        obtain ⟨bb, off, cap', hvv, _, _, hbw, hcell⟩ := HV1.out.cells (by intro h; subst h; simp at hd)
        cases hvv
        have z0 := (HB.1.cell (p := ⟨bb, off + i, none⟩) (by have := HB1.out.size; have := HGS.out; show bb < gp; omega)).trans ((HB1.out.cell (p := ⟨bb, off + i, none⟩) hbw).trans (hcell i hd))
        have hnb := byte_le (ds.getD i 0)
        unfold bv at z0
        generalize (ds.getD i 0).toNat = n at *
        obtain ⟨k, hkk⟩ : ∃ k, n % 4 = k := ⟨_, rfl⟩
        have hk4 : k < 4 := by omega
        have g1 : (n : Int).tmod 4 = (k : Int) := by rw [Int.tmod_eq_emod_of_nonneg (by omega)]; omega
        have g2 : (n : Int) % 4 = (k : Int) := by omega
        have hk4z : (k : Int) < 4 := by omega
        clear hcell hbw hkk
        go_upto_region 11 with (fail)
        obtain ⟨pa, pc, hvk, gk, gf⟩ := HD.out.form hk4
        obtain ⟨pk, hpk⟩ : ∃ pk, ps.getD k [] = pk := ⟨_, rfl⟩
        have hpl := part_le (ps := ps) (k := k) (by rw [HD.out.lp]; exact hk4)
        rw [hpk] at hpl hvk gk
        obtain ⟨pn, hpn⟩ : ∃ pn, pk.length = pn := ⟨_, rfl⟩
        have hok : wr.ownsRow 0 38 4 (.slice pa pn pc) pn (pk.flatMap Ent.cells) := by
          have := HD.out.own k hk4
          rw [hvk, hpk] at this
          unfold OwnE at this
          rw [hpn] at this
          exact this
        rw [hpn] at hpl hvk gk
        have HOK := Lib.hid hok
        have HVK := Lib.hid hvk
        have HPK := Lib.hid hpk
        have HPN := Lib.hid (show pn ≤ 80 by have := HF.out.2; omega)
        have HPN2 := Lib.hid hpn
        have HGP : Hid (gp < (wr.drew.alloc (.cells #[.string xu, .int .i64 xs, .int .i64 xk, .string xv] 38)).heap.size ∧ (Value.slice pa pn pc).ownBlock ≠ some gp) := Lib.hid ⟨by have := blk_lt HD.out.row; show gp < (wr.heap.push _).size; rw [Array.size_push]; omega, fun e => by rw [← hvk] at e; exact (HD.out.far k hk4 gp e).2 rfl⟩
        have hgpl : gp < wr.drew.heap.size := blk_lt HD.out.row
        clear hok hvk hpk hpn hpl
        refine wp_region_two (fun wz => Below wr.drew.heap.size wr.drew wz) (fun _ => True) [(1, 0), (1, 1), (0, 2), (0, 3), (0, 4), (0, 5), (0, 6), (0, 7), (0, 8), (0, 9), (2, 10), (3, 11), (1, 12), (3, 13)] [11, 13] (by kernel_rfl) (by kernel_rfl) (by kernel_rfl) (by kernel_rfl) (by kernel_rfl) (Below.refl _ _) trivial ?_
        simp only [planT, List.drop_succ_cons, List.drop_zero]
        refine PlanT.take1 (v := ?vP0) (by kernel_rfl) ?yP0 ?rP0
        case yP0 => (intro wz hz; go_simp; try with_reducible rfl)
        (try simp only [Act.put, List.setIfInBounds_toArray, List.set_cons_zero, List.set_cons_succ])
        refine PlanT.take1 (v := ?vP1) (by kernel_rfl) ?yP1 ?rP1
        case yP1 => (intro wz hz; go_simp; try with_reducible rfl)
        (try simp only [Act.put, List.setIfInBounds_toArray, List.set_cons_zero, List.set_cons_succ])
        refine PlanT.take0 (v := ?vP2) (by kernel_rfl) ?yP2 ?rP2
        case yP2 => (intro wz hz; go_simp; try with_reducible rfl)
        (try simp only [Act.put, List.setIfInBounds_toArray, List.set_cons_zero, List.set_cons_succ])
        refine PlanT.take0 (v := ?vP3) (by kernel_rfl) ?yP3 ?rP3
        case yP3 => (intro wz hz; go_simp; try with_reducible rfl)
        (try simp only [Act.put, List.setIfInBounds_toArray, List.set_cons_zero, List.set_cons_succ])
        refine PlanT.take0 (v := ?vP4) (by kernel_rfl) ?yP4 ?rP4
        case yP4 => (intro wz hz; go_simp; try with_reducible rfl)
        (try simp only [Act.put, List.setIfInBounds_toArray, List.set_cons_zero, List.set_cons_succ])
        refine PlanT.take0 (v := ?vP5) (by kernel_rfl) ?yP5 ?rP5
        case yP5 => (intro wz hz; have c0 := (hz.cell (p := ⟨gp, k, none⟩) hgpl).trans gk; go_simp; try with_reducible rfl)
        (try simp only [Act.put, List.setIfInBounds_toArray, List.set_cons_zero, List.set_cons_succ])
        refine PlanT.take0 (v := ?vP6) (by kernel_rfl) ?yP6 ?rP6
        case yP6 => (intro wz hz; go_simp; try with_reducible rfl)
        (try simp only [Act.put, List.setIfInBounds_toArray, List.set_cons_zero, List.set_cons_succ])
        refine PlanT.take0 (v := ?vP7) (by kernel_rfl) ?yP7 ?rP7
        case yP7 => (intro wz hz; go_simp; try with_reducible rfl)
        (try simp only [Act.put, List.setIfInBounds_toArray, List.set_cons_zero, List.set_cons_succ])
        refine PlanT.take0 (v := ?vP8) (by kernel_rfl) ?yP8 ?rP8
        case yP8 => (intro wz hz; go_simp; try with_reducible rfl)
        (try simp only [Act.put, List.setIfInBounds_toArray, List.set_cons_zero, List.set_cons_succ])
        refine PlanT.take0 (v := ?vP9) (by kernel_rfl) ?yP9 ?rP9
        case yP9 => (intro wz hz; have c0 := (hz.cell (p := ⟨g, i * 4, none⟩) hgl).trans x0; have c1 := (hz.cell (p := ⟨g, i * 4 + 1, none⟩) hgl).trans x1; have c2 := (hz.cell (p := ⟨g, i * 4 + 2, none⟩) hgl).trans x2; have c3 := (hz.cell (p := ⟨g, i * 4 + 3, none⟩) hgl).trans x3; go_simp; try with_reducible rfl)
        (try simp only [Act.put, List.setIfInBounds_toArray, List.set_cons_zero, List.set_cons_succ])
        refine PlanT.exec2 (fun K hK => ⟨by kernel_rfl, ?_⟩)
        go_simp
        refine hK.out _ _ ((Below.refl _ _).alloc (Nat.le_refl _) _) trivial ?_
        clear hK K
        (try simp only [Act.put, List.setIfInBounds_toArray, List.set_cons_zero, List.set_cons_succ])
        refine PlanT.exec3 (fun K hK => ⟨by kernel_rfl, ?_⟩)
        refine wp_append_at (.tmp 42) (.tmp 47) 25 rfl 38 4 48 (.agg #[.string ⟨#[]⟩, .int .i64 0, .int .i64 0, .string ⟨#[]⟩]) Try.underlying25 info_ent rfl (by decide) (.slice pa pn pc) (.slice (some ⟨wr.drew.heap.size, 0, none⟩) 1 1) pn 1 (pk.flatMap Ent.cells) ([⟨xu, xs, xk, xv⟩].flatMap Ent.cells) ?q1P ?q2P ?q3P ?q4P (entFlat_one _) ?q5P ?q6P ?_
        case q1P => rfl
        case q2P => rfl
        case q3P => exact World.ownsRow.alloc (World.ownsRow.drew HOK.out) _
        case q4P => exact one_entry wr.drew ⟨xu, xs, xk, xv⟩
        case q5P => (have := HPN.out; omega)
        case q6P => (have := HPN.out; unfold maxLen; omega)
        intro v' w' hown hmv
        obtain ⟨na, nc, rfl, _, _⟩ := rd_of_own hown
        have hpush := HD.out.push (k := k) hk4 (wB := wr.drew.alloc (.cells #[.string xu, .int .i64 xs, .int .i64 xk, .string xv] 38)) ((Below.refl _ _).drew.alloc (Nat.le_refl _) _) HB.2 (w' := w') (v' := .slice na (pn + 1) nc) (e := ⟨xu, xs, xk, xv⟩) (by rw [HPK.out]; unfold OwnE; rw [List.flatMap_append, List.length_append, HPN2.out]; exact hown) (by rw [HVK.out]; exact hmv)
        have hgp : w'.cell? ⟨gp, k, none⟩ = some (.slice pa pn pc) := (hmv.cell_far HGP.out).trans ((((Below.refl wr.heap.size wr).drew.alloc (Nat.le_refl _) (.cells #[.string xu, .int .i64 xs, .int .i64 xk, .string xv] 38)).cell (p := ⟨gp, k, none⟩) hgpl).trans gk)
        have hgf : w'.frozen? ⟨gp, k, none⟩ = false := (hmv.frozen_far HGP.out).trans ((((Below.refl wr.heap.size wr).drew.alloc (Nat.le_refl _) (.cells #[.string xu, .int .i64 xs, .int .i64 xk, .string xv] 38)).frozen (p := ⟨gp, k, none⟩) hgpl).trans gf)
        have HPU := Lib.hid hpush
        clear hown hmv hpush
        refine hK.out _ _ trivial ?_
        clear hK K
        (try simp only [Act.put, List.setIfInBounds_toArray, List.set_cons_zero, List.set_cons_succ])
        refine PlanT.take1 (v := ?vP12) (by kernel_rfl) ?yP12 ?rP12
        case yP12 => (intro wz hz; go_simp; try with_reducible rfl)
        (try simp only [Act.put, List.setIfInBounds_toArray, List.set_cons_zero, List.set_cons_succ])
        refine PlanT.exec3 (fun K hK => ⟨by kernel_rfl, ?_⟩)
        go_simp
        refine hK.out _ _ trivial ?_
        clear hK K
        (try simp only [Act.put, List.setIfInBounds_toArray, List.set_cons_zero, List.set_cons_succ])
        refine PlanT.done (NoPanic.normal ?_)
        go_wp2
        refine ⟨⟨i + 1, _, _, by go_num, hlt, Lib.hid HPU.out.1, Lib.hid ⟨fun x => ?_, ?_⟩, Lib.hid ⟨HB.1.trans HPU.out.2, Nat.le_trans HB.2 HPU.out.2.size⟩⟩, by simp [intOf]; omega⟩
        · rw [HTK.out x, (dealt (by rw [HD.out.lp]; exact hk4) _).1 x, HF.out.1 x]
        · rw [(dealt (by rw [HD.out.lp]; exact hk4) _).2, HF.out.2]
      · have hdz : ¬ (i : Int) < (ds.length : Int) := by omega
        have hk4 : 0 < 4 := by omega
        go_upto_region 11 with (fail)
        obtain ⟨pa, pc, hvk, gk, gf⟩ := HD.out.form hk4
        obtain ⟨pk, hpk⟩ : ∃ pk, ps.getD 0 [] = pk := ⟨_, rfl⟩
        have hpl := part_le (ps := ps) (k := 0) (by rw [HD.out.lp]; exact hk4)
        rw [hpk] at hpl hvk gk
        obtain ⟨pn, hpn⟩ : ∃ pn, pk.length = pn := ⟨_, rfl⟩
        have hok : wr.ownsRow 0 38 4 (.slice pa pn pc) pn (pk.flatMap Ent.cells) := by
          have := HD.out.own 0 hk4
          rw [hvk, hpk] at this
          unfold OwnE at this
          rw [hpn] at this
          exact this
        rw [hpn] at hpl hvk gk
        have HOK := Lib.hid hok
        have HVK := Lib.hid hvk
        have HPK := Lib.hid hpk
        have HPN := Lib.hid (show pn ≤ 80 by have := HF.out.2; omega)
        have HPN2 := Lib.hid hpn
        have HGP : Hid (gp < (wr.drew.alloc (.cells #[.string xu, .int .i64 xs, .int .i64 xk, .string xv] 38)).heap.size ∧ (Value.slice pa pn pc).ownBlock ≠ some gp) := Lib.hid ⟨by have := blk_lt HD.out.row; show gp < (wr.heap.push _).size; rw [Array.size_push]; omega, fun e => by rw [← hvk] at e; exact (HD.out.far 0 hk4 gp e).2 rfl⟩
        have hgpl : gp < wr.drew.heap.size := blk_lt HD.out.row
        clear hok hvk hpk hpn hpl
        refine wp_region_two (fun wz => Below wr.drew.heap.size wr.drew wz) (fun _ => True) [(1, 0), (1, 1), (0, 2), (0, 3), (0, 4), (0, 5), (0, 6), (0, 7), (0, 8), (0, 9), (2, 10), (3, 11), (1, 12), (3, 13)] [11, 13] (by kernel_rfl) (by kernel_rfl) (by kernel_rfl) (by kernel_rfl) (by kernel_rfl) (Below.refl _ _) trivial ?_
        simp only [planT, List.drop_succ_cons, List.drop_zero]
        refine PlanT.take1 (v := ?vQ0) (by kernel_rfl) ?yQ0 ?rQ0
        case yQ0 => (intro wz hz; go_simp; try with_reducible rfl)
        (try simp only [Act.put, List.setIfInBounds_toArray, List.set_cons_zero, List.set_cons_succ])
        refine PlanT.take1 (v := ?vQ1) (by kernel_rfl) ?yQ1 ?rQ1
        case yQ1 => (intro wz hz; go_simp; try with_reducible rfl)
        (try simp only [Act.put, List.setIfInBounds_toArray, List.set_cons_zero, List.set_cons_succ])
        refine PlanT.take0 (v := ?vQ2) (by kernel_rfl) ?yQ2 ?rQ2
        case yQ2 => (intro wz hz; go_simp; try with_reducible rfl)
        (try simp only [Act.put, List.setIfInBounds_toArray, List.set_cons_zero, List.set_cons_succ])
        refine PlanT.take0 (v := ?vQ3) (by kernel_rfl) ?yQ3 ?rQ3
        case yQ3 => (intro wz hz; go_simp; try with_reducible rfl)
        (try simp only [Act.put, List.setIfInBounds_toArray, List.set_cons_zero, List.set_cons_succ])
        refine PlanT.take0 (v := ?vQ4) (by kernel_rfl) ?yQ4 ?rQ4
        case yQ4 => (intro wz hz; go_simp; try with_reducible rfl)
        (try simp only [Act.put, List.setIfInBounds_toArray, List.set_cons_zero, List.set_cons_succ])
        refine PlanT.take0 (v := ?vQ5) (by kernel_rfl) ?yQ5 ?rQ5
        case yQ5 => (intro wz hz; have c0 := (hz.cell (p := ⟨gp, 0, none⟩) hgpl).trans gk; go_simp; try with_reducible rfl)
        (try simp only [Act.put, List.setIfInBounds_toArray, List.set_cons_zero, List.set_cons_succ])
        refine PlanT.take0 (v := ?vQ6) (by kernel_rfl) ?yQ6 ?rQ6
        case yQ6 => (intro wz hz; go_simp; try with_reducible rfl)
        (try simp only [Act.put, List.setIfInBounds_toArray, List.set_cons_zero, List.set_cons_succ])
        refine PlanT.take0 (v := ?vQ7) (by kernel_rfl) ?yQ7 ?rQ7
        case yQ7 => (intro wz hz; go_simp; try with_reducible rfl)
        (try simp only [Act.put, List.setIfInBounds_toArray, List.set_cons_zero, List.set_cons_succ])
        refine PlanT.take0 (v := ?vQ8) (by kernel_rfl) ?yQ8 ?rQ8
        case yQ8 => (intro wz hz; go_simp; try with_reducible rfl)
        (try simp only [Act.put, List.setIfInBounds_toArray, List.set_cons_zero, List.set_cons_succ])
        refine PlanT.take0 (v := ?vQ9) (by kernel_rfl) ?yQ9 ?rQ9
        case yQ9 => (intro wz hz; have c0 := (hz.cell (p := ⟨g, i * 4, none⟩) hgl).trans x0; have c1 := (hz.cell (p := ⟨g, i * 4 + 1, none⟩) hgl).trans x1; have c2 := (hz.cell (p := ⟨g, i * 4 + 2, none⟩) hgl).trans x2; have c3 := (hz.cell (p := ⟨g, i * 4 + 3, none⟩) hgl).trans x3; go_simp; try with_reducible rfl)
        (try simp only [Act.put, List.setIfInBounds_toArray, List.set_cons_zero, List.set_cons_succ])
        refine PlanT.exec2 (fun K hK => ⟨by kernel_rfl, ?_⟩)
        go_simp
        refine hK.out _ _ ((Below.refl _ _).alloc (Nat.le_refl _) _) trivial ?_
        clear hK K
        (try simp only [Act.put, List.setIfInBounds_toArray, List.set_cons_zero, List.set_cons_succ])
        refine PlanT.exec3 (fun K hK => ⟨by kernel_rfl, ?_⟩)
        refine wp_append_at (.tmp 42) (.tmp 47) 25 rfl 38 4 48 (.agg #[.string ⟨#[]⟩, .int .i64 0, .int .i64 0, .string ⟨#[]⟩]) Try.underlying25 info_ent rfl (by decide) (.slice pa pn pc) (.slice (some ⟨wr.drew.heap.size, 0, none⟩) 1 1) pn 1 (pk.flatMap Ent.cells) ([⟨xu, xs, xk, xv⟩].flatMap Ent.cells) ?q1Q ?q2Q ?q3Q ?q4Q (entFlat_one _) ?q5Q ?q6Q ?_
        case q1Q => rfl
        case q2Q => rfl
        case q3Q => exact World.ownsRow.alloc (World.ownsRow.drew HOK.out) _
        case q4Q => exact one_entry wr.drew ⟨xu, xs, xk, xv⟩
        case q5Q => (have := HPN.out; omega)
        case q6Q => (have := HPN.out; unfold maxLen; omega)
        intro v' w' hown hmv
        obtain ⟨na, nc, rfl, _, _⟩ := rd_of_own hown
        have hpush := HD.out.push (k := 0) hk4 (wB := wr.drew.alloc (.cells #[.string xu, .int .i64 xs, .int .i64 xk, .string xv] 38)) ((Below.refl _ _).drew.alloc (Nat.le_refl _) _) HB.2 (w' := w') (v' := .slice na (pn + 1) nc) (e := ⟨xu, xs, xk, xv⟩) (by rw [HPK.out]; unfold OwnE; rw [List.flatMap_append, List.length_append, HPN2.out]; exact hown) (by rw [HVK.out]; exact hmv)
        have hgp : w'.cell? ⟨gp, 0, none⟩ = some (.slice pa pn pc) := (hmv.cell_far HGP.out).trans ((((Below.refl wr.heap.size wr).drew.alloc (Nat.le_refl _) (.cells #[.string xu, .int .i64 xs, .int .i64 xk, .string xv] 38)).cell (p := ⟨gp, 0, none⟩) hgpl).trans gk)
        have hgf : w'.frozen? ⟨gp, 0, none⟩ = false := (hmv.frozen_far HGP.out).trans ((((Below.refl wr.heap.size wr).drew.alloc (Nat.le_refl _) (.cells #[.string xu, .int .i64 xs, .int .i64 xk, .string xv] 38)).frozen (p := ⟨gp, 0, none⟩) hgpl).trans gf)
        have HPU := Lib.hid hpush
        clear hown hmv hpush
        refine hK.out _ _ trivial ?_
        clear hK K
        (try simp only [Act.put, List.setIfInBounds_toArray, List.set_cons_zero, List.set_cons_succ])
        refine PlanT.take1 (v := ?vQ12) (by kernel_rfl) ?yQ12 ?rQ12
        case yQ12 => (intro wz hz; go_simp; try with_reducible rfl)
        (try simp only [Act.put, List.setIfInBounds_toArray, List.set_cons_zero, List.set_cons_succ])
        refine PlanT.exec3 (fun K hK => ⟨by kernel_rfl, ?_⟩)
        go_simp
        refine hK.out _ _ trivial ?_
        clear hK K
        (try simp only [Act.put, List.setIfInBounds_toArray, List.set_cons_zero, List.set_cons_succ])
        refine PlanT.done (NoPanic.normal ?_)
        go_wp2
        refine ⟨⟨i + 1, _, _, by go_num, hlt, Lib.hid HPU.out.1, Lib.hid ⟨fun x => ?_, ?_⟩, Lib.hid ⟨HB.1.trans HPU.out.2, Nat.le_trans HB.2 HPU.out.2.size⟩⟩, by simp [intOf]; omega⟩
        · rw [HTK.out x, (dealt (by rw [HD.out.lp]; exact hk4) _).1 x, HF.out.1 x]
        · rw [(dealt (by rw [HD.out.lp]; exact hk4) _).2, HF.out.2]
    · have hltz : ¬ (i : Int) < (L.length : Int) := by omega
      have hie : i = L.length := by omega
      have HFE := Lib.hid (show (∀ x, x ∈ ps.flatten ↔ x ∈ L) ∧ ps.flatten.length = L.length by
        have := HF.out
        rw [hie, List.take_length] at this
        exact this)
      obtain ⟨w5, hw5⟩ : ∃ w5, w5 = wr := ⟨_, rfl⟩
      subst hw5
      have HPF : Hid (∀ l ∈ ps, ∀ e ∈ l, e.fits) := Lib.hid fun l hl e he => HFT.out e ((HFE.out.1 e).1 (List.mem_flatten.2 ⟨l, hl, he⟩))
      have HS1 : Hid (SmallE ps.flatten) := Lib.hid ⟨by rw [HFE.out.2]; exact HSM.out.1, fun e he => HSM.out.2 e ((HFE.out.1 e).1 he)⟩
      have hpr := (List.reverse_perm ps).flatten
      have HS2 : Hid (SmallE ps.reverse.flatten) := Lib.hid ⟨by rw [hpr.length_eq]; exact HS1.out.1, fun e he => HS1.out.2 e (hpr.mem_iff.1 he)⟩
      have HE1 := Lib.hid (merge_of (l := ps) HUP.out HFE.out.1)
      have HE2 := Lib.hid (merge_of (l := ps.reverse) HUP.out fun x => (hpr.mem_iff).trans (HFE.out.1 x))
      have HVD : Hid (vs.drop 4 = []) := Lib.hid (List.drop_eq_nil_of_le (by rw [HD.out.lv]; exact Nat.le_refl _))
      clear hie HF hpr
      go_wp2
      go_loopw [11, 12] (fun x11 x12 wr => ∃ (j : Nat) (ba : Option Addr) (bc : Nat), x11 = .slice ba (4 - j) bc ∧ x12 = .int .i64 ((j : Int) - 1) ∧ j ≤ 4 ∧ Hid (wr.ownsRow w5.heap.size 25 1 (.slice ba (4 - j) bc) (4 - j) (vs.drop j).reverse) ∧ Hid (Below w5.heap.size w5 wr)) (fun _ i _ => (intOf i + 1).toNat)
      case atStart => exact ⟨4, none, 0, rfl, rfl, Nat.le_refl _, Lib.hid (by rw [HVD.out]; exact World.ownsRow_nil _ _ _ _), Lib.hid (Below.refl _ _)⟩
      case round =>
        obtain ⟨j, bka, bkc, rfl, rfl, hj, HO, HBJ⟩ := hrel
        by_cases hj0 : 0 < j
        · obtain ⟨p, rfl⟩ : ∃ p, j = p + 1 := ⟨j - 1, by omega⟩
          have hp4 : p < 4 := by omega
          have hpz : (p : Int) < 4 := by omega
          obtain ⟨pa, pc, hvk, gk0, _⟩ := HD.out.form hp4
          obtain ⟨pl, hpl⟩ : ∃ pl, (ps.getD p []).length = pl := ⟨_, rfl⟩
          rw [hpl] at hvk gk0
          have gk := (HBJ.out.cell (p := ⟨gp, p, none⟩) (blk_lt HD.out.row)).trans gk0
          have HVR : Hid ((vs.drop p).reverse = (vs.drop (p + 1)).reverse ++ [.slice pa pl pc]) := Lib.hid (by
            have hlt : p < vs.length := by rw [HD.out.lv]; exact hp4
            rw [List.drop_eq_getElem_cons hlt, List.reverse_cons]
            have : vs[p] = .slice pa pl pc := by rw [← hvk]; simp [List.getD, hlt]
            rw [this])
          obtain ⟨m, hm⟩ : ∃ m, 4 - (p + 1) = m := ⟨_, rfl⟩
          have HM4 := Lib.hid (show m + 1 = 4 - p by omega)
          have hm3 : m ≤ 3 := by omega
          rw [hm] at HO ⊢
          clear hvk gk0 hpl hm
          go_wp2_with (at_builtin; refine wpList_append_rd rfl (.tmp 54) (.tmp 59) 22 rfl w5.heap.size 25 1 24 (.slice none 0 0) Try.underlying22 info_ents rfl (by decide) (.slice bka m bkc) (.slice (some ⟨wr.heap.size, 0, none⟩) 1 1) m 1 ((vs.drop (p + 1)).reverse) [.slice pa pl pc] rfl rfl (World.ownsRow.alloc HO.out _) (one_slice wr _) ?ob ?bb ?l1 ?l2 ?kk2)
          case ob => (intro u hu; rw [List.mem_singleton.1 hu]; rfl)
          case bb => (have := HBJ.out.size; simp; omega)
          case l1 => omega
          case l2 => (unfold maxLen; omega)
          case kk2 =>
            intro v' w' hown hBk
            obtain ⟨na, nc, rfl, _, _⟩ := rd_of_own hown
            have HO2 := Lib.hid (show w'.ownsRow w5.heap.size 25 1 (.slice na (4 - p) nc) (4 - p) (vs.drop p).reverse by rw [HVR.out, ← HM4.out]; exact hown)
            have HB2 := Lib.hid (hBk w5.heap.size w5 (Nat.le_refl _) (HBJ.out.alloc HBJ.out.size _))
            rw [HM4.out]
            clear hown hBk
            go_wp2
            exact ⟨⟨p, na, nc, rfl, by first | rfl | go_num, by omega, HO2, HB2⟩, by simp [intOf]⟩
        · obtain rfl : j = 0 := by omega
          have HOB := Lib.hid (show wr.ownsRow w5.heap.size 25 1 (.slice bka 4 bkc) 4 vs.reverse from HO.out)
          have HD6 := Lib.hid (HD.out.below HBJ.out)
          have HRP := Lib.hid (HD6.out.read HPF.out)
          have HRB := Lib.hid (HD6.out.back HPF.out HOB.out)
          have HO6 := Lib.hid (HO2.out.below HBJ.out)
          have HLP := Lib.hid (show ps.length ≤ 1000 by rw [HD.out.lp]; omega)
          have HLQ := Lib.hid (show ps.reverse.length ≤ 1000 by rw [List.length_reverse, HD.out.lp]; omega)
          have HM1 : Hid (∀ w, Below wr.heap.size wr w → Calls Try.prog 13 #[.slice (some ⟨gp, 0, none⟩) 4 4] w fun e w' => ∃ a c, e = .returned (.slice a L.length c) ∧ OwnE w' 0 (.slice a L.length c) L ∧ Below w.heap.size w w') := Lib.hid fun w hw => by
            refine (HM.out _ ps w (HRP.out.below hw (Nat.le_refl _)) HLP.out HS1.out).mono ?_
            rintro e w' ⟨x, rfl, ho, hb⟩
            rw [HE1.out] at ho
            obtain ⟨a, c, rfl, _, _⟩ := ho.form
            exact ⟨a, c, rfl, own_monoE ho (Nat.zero_le _), hb⟩
          have HM2 : Hid (∀ w, Below wr.heap.size wr w → Calls Try.prog 13 #[.slice bka 4 bkc] w fun e w' => ∃ a c, e = .returned (.slice a L.length c) ∧ OwnE w' 0 (.slice a L.length c) L ∧ Below w.heap.size w w') := Lib.hid fun w hw => by
            refine (HM.out _ ps.reverse w (HRB.out.below hw (Nat.le_refl _)) HLQ.out HS2.out).mono ?_
            rintro e w' ⟨x, rfl, ho, hb⟩
            rw [HE2.out] at ho
            obtain ⟨a, c, rfl, _, _⟩ := ho.form
            exact ⟨a, c, rfl, own_monoE ho (Nat.zero_le _), hb⟩
          have HBE : Hid (Below W.heap.size W wr) := Lib.hid (HB1.out.trans (((HB.1.mono (by have := HB1.out.size; have := HGS.out; omega)).trans (HBJ.out.mono (by have := HB1.out.size; have := HGS.out; have := HB.2; omega)))))
          go_wp2_with (first | (go_at_call 13; first | ((with_reducible refine (HM2.out _ HB8.out).mono ?_); rintro e w10 ⟨a3, c3, rfl, ho, hb⟩; have HX10 := Lib.hid ho; have HB10 := Lib.hid (belowT HB8.out hb); clear ho hb) | ((with_reducible refine (HM1.out _ (Below.refl _ _)).mono ?_); rintro e w7 ⟨a2, c2, rfl, ho, hb⟩; have HX7 := Lib.hid ho; have HB7 := Lib.hid hb; clear ho hb)) | (go_at_call 12; first | ((refine (rsame_ent _ _ L _ HLL.out HX10.out (HO6.out.below HB10.out)).mono ?_); rintro e w11 ⟨rfl, hb⟩; have HB11 := Lib.hid (belowT HB10.out hb); clear hb) | ((refine (rsame_ent _ _ L _ HLL.out HX7.out (HO6.out.below HB7.out)).mono ?_); rintro e w8 ⟨rfl, hb⟩; have HB8 := Lib.hid (belowT HB7.out hb); clear hb)) | (go_at_call 10; (refine (HAW.out _).mono ?_); rintro e w9 ⟨rfl, hb9⟩))
          go_ret
          exact ⟨rfl, HBE.out.trans ((belowT HB11.out hb9).mono HBE.out.size)⟩
end Go.Proofs.Ytnmmeaoapfampaa
