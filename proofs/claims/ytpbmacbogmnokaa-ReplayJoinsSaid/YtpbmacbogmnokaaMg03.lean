import Derived.Test.YtpbmacbogmnokaaMg02

/-
  The walk of ReplayJoins: batches in several logs, some of them in two, some in tables already, are told each once, in order; a gap ends it.
-/
namespace Go.Proofs.Ytpbmacbogmnokaa
open Go.RowKit

theorem info_rows9 : (Try.prog.info? 27).map (fun i => (i.zero, i.size, i.bytes)) = some (some (.slice none 0 0), 1, 24) := by kernel_rfl

theorem flat_few9 {ls : List (List UInt8)} {m : Nat} (h : ∀ l ∈ ls, l.length ≤ m) : (ls.flatMap fun l => (logL l).1).length ≤ m * ls.length := by
  induction ls with
  | nil => simp
  | cons a r ih =>
    rw [List.flatMap_cons, List.length_append, List.length_cons, Nat.mul_succ]
    have h1 := logL_few a
    have h2 := h a (by simp)
    have h3 := ih fun l hl => h l (by simp [hl])
    omega

theorem rowB_seg (bs : List Bat) (f k : Nat) (hf : f ≤ k) (hk : k < bs.length) : rowB ((bs.drop f).take (k + 1 - f)) = rowB ((bs.drop f).take (k - f)) ++ recB (bs.getD k default) := by
  have h := rowB_take (bs.drop f) (k - f) (by rw [List.length_drop]; omega)
  rw [show k - f + 1 = k + 1 - f by omega] at h
  rw [h]
  simp [List.getD, List.getElem?_drop, show f + (k - f) = k by omega]

/-- Behind a gap nothing is told. -/
theorem join_far {r : List UInt8} {bs : List Bat} {M M1 e : Nat} (hr : logL r = (bs.drop M1, e)) (hc : Consec 1 bs) (hm : M + 1 = M1) : joinL [r] (M : Int) = [] := by
  unfold joinL
  rw [List.flatMap_cons, List.flatMap_nil, hr, List.append_nil]
  have h := hc.drop M1
  cases hd : bs.drop M1 with
  | nil => simp [joinF]
  | cons b t =>
    rw [hd] at h
    have := h 0 b rfl
    show joinF (b :: t) (M : Int) = []
    rw [joinF_far (by omega) (by omega)]

/-- A slice of one slice that was built. -/
theorem rdLL_one9 {w : World} {c : Value} {l : List UInt8} {e : Nat} (h : RdB w c l) : RdLL (w.alloc (.cells #[c] e)) (.slice (some ⟨w.heap.size, 0, none⟩) 1 1) [l] := by
  refine ⟨[c], ⟨_, 1, rfl, Nat.le_refl _, by unfold maxLen; omega, rfl, .inr ⟨w.heap.size, 0, rfl, by simp, fun j u hj => ?_⟩⟩, fun i d m hd hm => ?_⟩
  · rw [Nat.zero_add, blk_cell (heap_alloc_new w _)]
    simpa using hj
  · match i, hd, hm with
    | 0, hd, hm =>
      simp at hd hm
      subst hd hm
      exact h.below ((Below.refl _ _).alloc (Nat.le_refl _) _) (Nat.le_refl _)
    | i + 1, hd, hm => simp at hd

/-- A part of a slice from an index on: where it lies hangs on whether room is left. -/
theorem slice_from {w : World} {gg lc M so : Nat} {xs : List BV} (h : RdBs w (.slice (some ⟨gg, 0, none⟩) xs.length lc) xs) (hM : M ≤ xs.length) (hl : xs.length ≤ lc)
    (hs : (if lc = M then some (⟨gg, 0, none⟩ : Addr) else some ⟨gg, M * 2, none⟩) = some ⟨gg, so, none⟩) : RdBs w (.slice (some ⟨gg, so, none⟩) (xs.length - M) (lc - M)) (xs.drop M) := by
  by_cases e : lc = M
  · rw [List.drop_of_length_le (by omega), show xs.length - M = 0 by omega, show lc - M = 0 by omega]
    exact ⟨⟨_, 0, rfl, Nat.le_refl _, Nat.zero_le _, rfl, .inl ⟨rfl, fun h => by cases h⟩⟩, fun x hx => by cases hx⟩
  · rw [if_neg e] at hs
    obtain rfl : M * 2 = so := by simpa using hs
    have := h.from_ M hM
    rwa [Nat.zero_add] at this

theorem ownBs_split {w : World} {B : Nat} {v : Value} {xs : List BV} (h : OwnBs w B v xs) : (v = .slice none 0 0 ∧ xs = []) ∨ ∃ g cap, v = .slice (some ⟨g, 0, none⟩) xs.length cap ∧ xs.length ≤ cap ∧ cap ≤ maxLen := by
  obtain ⟨⟨h0, h1⟩, _⟩ := h
  rcases h1 with ⟨rfl, hn⟩ | ⟨g, cap, cur, rfl, _, _, hn', hm, _⟩
  · exact .inl ⟨rfl, List.eq_nil_of_length_eq_zero hn⟩
  · exact .inr ⟨g, cap, rfl, hn', hm⟩

set_option maxRecDepth 100000 in
set_option maxHeartbeats 16000000 in
set_option linter.unusedSimpArgs false in
theorem replayJoins_walk (v : Value) (ns : List UInt8) (pv : Value) (ps : List UInt8) (last back : Int) (gap : Bool) (W : World) (hv : RdB W v ns) (hp : RdB W pv ps) (hl : (Lit.int .u8 last).wf = true) (hb : (Lit.int .u8 back).wf = true) :
    Calls Try.prog 5 #[v, pv, .int .u8 last, .int .u8 back, .bool gap] W fun e w' => e = .returned (.bool true) ∧ Below W.heap.size W w' := by
  have hlb := bounds_u8 hl
  have hbb := bounds_u8 hb
  clear hl hb
  have h9 := Lib.hid (fun w => awake9_any w)
  obtain ⟨na, nc, rfl, _, hnc⟩ := hv.form
  obtain ⟨pa, pc, rfl, _, hpc⟩ := hp.form
  unfold maxLen at hnc hpc
  by_cases g1 : (40 : Int) < (ns.length : Int)
  · clear hv hp
    go_enter Try.func5, Try.ntmps5
    go_wp2_with (go_at_call 8; refine (h9.out _).mono ?_; rintro e w1 ⟨rfl, hb1⟩)
    go_ret
    exact ⟨rfl, hb1⟩
  by_cases g2 : (8 : Int) < (ps.length : Int)
  · clear hv hp
    go_enter Try.func5, Try.ntmps5
    go_wp2_with (go_at_call 8; refine (h9.out _).mono ?_; rintro e w1 ⟨rfl, hb1⟩)
    go_ret
    exact ⟨rfl, hb1⟩
  obtain ⟨lN, rfl⟩ := Int.eq_ofNat_of_zero_le hlb.1
  obtain ⟨bN, rfl⟩ := Int.eq_ofNat_of_zero_le hbb.1
  obtain ⟨b3, hb3⟩ : ∃ b, b = bN % 3 := ⟨_, rfl⟩
  have hb3l : b3 < 3 := by omega
  have hm1 : (bN : Int) % 3 = (b3 : Int) := by rw [hb3]; rfl
  have hm2 : (bN : Int).tmod 3 = (b3 : Int) := by rw [Int.tmod_eq_emod_of_nonneg (by omega)]; exact hm1
  have hwb : IntKind.i64.wrap (bN : Int) = (bN : Int) := IntWalk.i64_in _ (by omega)
  have hwb3 : IntKind.i64.wrap (b3 : Int) = (b3 : Int) := IntWalk.i64_in _ (by omega)
  have hwl : IntKind.i64.wrap (lN : Int) = (lN : Int) := IntWalk.i64_in _ (by omega)
  have HMK := Lib.hid (make_any W _ ns 1 hv (by omega) (by omega))
  have HMAY : Hid (AllMay (mkB ns 1 ns.length)) := Lib.hid (mkB_may ns.length (by omega) (by omega))
  have HCON : Hid (Consec 1 (mkB ns 1 ns.length)) := Lib.hid (mkB_consec ns 1 ns.length)
  have HLEN : Hid ((mkB ns 1 ns.length).length = ns.length) := Lib.hid (mkB_length ns 1 ns.length)
  have HP := Lib.hid hp
  generalize mkB ns 1 ns.length = bs at *
  clear hv hp hb3
  go_enter Try.func5, Try.ntmps5
  go_upto_region 4 with (go_at_call 16; (with_reducible refine HMK.out.mono ?_); rintro e w0 ⟨lv, xs, rfl, hxs, hown, hb0⟩; obtain ⟨la, lc, rfl, hlx, hlc⟩ := hown.form; unfold maxLen at hlc; have HOWN := Lib.hid hown; have HXS := Lib.hid hxs; have HL := Lib.hid hown.read; have HB0 := Lib.hid hb0; have hxl : xs.length ≤ 40 := (by have := congrArg List.length hxs; rw [HLEN.out] at this; simp at this; omega); have HXL : Hid (bs.length = xs.length) := Lib.hid (by rw [← hxs]; simp); clear hxs hown hb0)
  have HP0 := Lib.hid (HP.out.below HB0.out (Nat.le_refl _))
  obtain ⟨M, hM⟩ : ∃ M, min lN xs.length = M := ⟨_, rfl⟩
  have hMl : M ≤ xs.length := by omega
  have hmn : min (lN : Int) (xs.length : Int) = (M : Int) := by omega
  clear hM
  rcases ownBs_split HOWN.out with ⟨hlv, rfl⟩ | ⟨gg, lc2, hlv, _, _⟩
  · cases hlv
    clear HL HOWN hmn hMl M
    have hmn0 : min (lN : Int) 0 = 0 := by omega
    go_wp2
    go_loopw [12, 13, 14] (fun lg at_ i wr => lg = .slice none 0 0 ∧ at_ = .int .i64 0 ∧ i = .int .i64 0 ∧ Hid (Below w0.heap.size w0 wr)) (fun _ _ _ _ => 0)
    case atStart => exact ⟨rfl, rfl, rfl, Lib.hid (Below.refl _ _)⟩
    case round =>
      obtain ⟨rfl, rfl, rfl, HB⟩ := hrel
      obtain ⟨w6, hw6⟩ : ∃ w6, w6 = wr.drew := ⟨_, rfl⟩
      have HB6 : Hid (Below w0.heap.size w0 w6) := Lib.hid (by rw [hw6]; exact HB.out.drew)
      have hjc := rpjoin_any w6 (.slice none 0 0) [] 0 ⟨[], Rd.nil _ _, fun i c l h => by simp at h⟩ (fun l h => by cases h) (by simp) (by decide)
      rw [show joinL [] 0 = [] by simp [joinL, joinF]] at hjc
      have HJC := Lib.hid hjc
      have HW6 := Lib.hid hw6
      have hpl : (0 : Int) ≤ (ps.length : Int) := by omega
      clear hjc hw6
      go_upto_region 21 with (fail)
      refine wp_region_plan [(true, 0), (true, 1), (true, 3), (true, 4), (true, 5), (false, 2), (false, 6), (true, 7)] (by kernel_rfl) (by kernel_rfl) (by kernel_rfl) (by kernel_rfl) (by kernel_rfl) ?_
      simp only [planO, List.drop_succ_cons, List.drop_zero]
      rw [← HW6.out]
      refine PlanO.take (v := ?vn0) (by kernel_rfl) ?yn0 ?rn0
      case yn0 => (intro wz hz; go_simp; try with_reducible rfl)
      (try simp only [Act.put, List.setIfInBounds_toArray, List.set_cons_zero, List.set_cons_succ])
      refine PlanO.take (v := ?vn1) (by kernel_rfl) ?yn1 ?rn1
      case yn1 => (intro wz hz; go_simp; try with_reducible rfl)
      (try simp only [Act.put, List.setIfInBounds_toArray, List.set_cons_zero, List.set_cons_succ])
      refine PlanO.take (v := ?vn3) (by kernel_rfl) ?yn3 ?rn3
      case yn3 => (intro wz hz; go_simp; try with_reducible rfl)
      (try simp only [Act.put, List.setIfInBounds_toArray, List.set_cons_zero, List.set_cons_succ])
      refine PlanO.take (v := ?vn4) (by kernel_rfl) ?yn4 ?rn4
      case yn4 => (intro wz hz; go_simp; try with_reducible rfl)
      (try simp only [Act.put, List.setIfInBounds_toArray, List.set_cons_zero, List.set_cons_succ])
      refine PlanO.take (v := ?vn5) (by kernel_rfl) ?yn5 ?rn5
      case yn5 => (intro wz hz; go_simp; try with_reducible rfl)
      (try simp only [Act.put, List.setIfInBounds_toArray, List.set_cons_zero, List.set_cons_succ])
      refine PlanO.exec (fun K hK => ?_)
      go_simp
      go_at_call 14
      (with_reducible refine HJC.out.mono ?_)
      rintro e v3 ⟨j1, x1, rfl, hx1, hj1, hb3⟩
      obtain rfl := List.map_eq_nil_iff.1 hx1
      have HJ1 := Lib.hid hj1.read
      have HE3 : Hid (Ext w6 v3) := Lib.hid hb3
      clear hx1 hj1
      obtain ⟨ja1, jc1, rfl, _, _⟩ := HJ1.out.form
      have HJ2 : Hid (RdBs v3 (.slice ja1 0 jc1) []) := HJ1
      go_wp2_with fail
      refine hK.out _ _ HE3.out ?_
      clear hK K
      (try simp only [Act.put, List.setIfInBounds_toArray, List.set_cons_zero, List.set_cons_succ])
      refine PlanO.exec (fun K hK => ?_)
      go_simp
      go_at_call 11
      (with_reducible refine (rbats_any (.slice ja1 0 jc1) (.slice none 0 0) [] [] v3 HJ2.out (RdBs.nil _) rfl).mono ?_)
      rintro e v5 ⟨rfl, hb5⟩
      have HE5 : Hid (Ext w6 v5) := Lib.hid (Ext.trans HE3.out hb5)
      have HB5 := Lib.hid (HB6.out.trans (Below.mono HE5.out HB6.out.size))
      go_wp2_with fail
      refine hK.out _ _ hb5 ?_
      clear hK K
      (try simp only [Act.put, List.setIfInBounds_toArray, List.set_cons_zero, List.set_cons_succ])
      refine PlanO.take (v := ?vn7) (by kernel_rfl) ?yn7 ?rn7
      case yn7 => (intro wz hz; go_simp; try with_reducible rfl)
      (try simp only [Act.put, List.setIfInBounds_toArray, List.set_cons_zero, List.set_cons_succ])
      refine PlanO.done (NoPanic.normal ?_)
      cases gap with
      | false =>
        go_wp2_with (go_at_call 8; refine (h9.out _).mono ?_; rintro e w8 ⟨rfl, hb8⟩; have HB8 := Lib.hid (HB5.out.trans (hb8.mono HB5.out.size)); clear hb8)
        go_ret
        exact ⟨rfl, HB0.out.trans (Below.mono HB8.out HB0.out.size)⟩
      | true =>
        go_wp2_with (go_at_call 8; refine (h9.out _).mono ?_; rintro e w8 ⟨rfl, hb8⟩; have HB8 := Lib.hid (HB5.out.trans (hb8.mono HB5.out.size)); clear hb8)
        go_ret
        exact ⟨rfl, HB0.out.trans (Below.mono HB8.out HB0.out.size)⟩
  cases hlv
  clear HOWN
  obtain ⟨so, hso⟩ : ∃ so, (if lc = M then some (⟨gg, 0, none⟩ : Addr) else some ⟨gg, M * 2, none⟩) = some ⟨gg, so, none⟩ := by
    by_cases h : lc = M
    · exact ⟨0, by rw [if_pos h]⟩
    · exact ⟨M * 2, by rw [if_neg h]⟩
  have HSO := Lib.hid hso
  clear hso
  go_wp2
  go_loopw [12, 13, 14] (fun lg at_ i wr => ∃ (j a : Nat) (ls : List (List UInt8)), j ≤ ps.length + 1 ∧ a ≤ xs.length ∧ at_ = .int .i64 a ∧ i = .int .i64 j ∧ Hid (j = ps.length + 1 → a = xs.length) ∧ Hid (ls.length ≤ j) ∧ Hid (∀ l ∈ ls, l.length ≤ 5000000) ∧ Hid (JoinSo bs ls M a) ∧ Hid (OwnLL wr w0.heap.size 5 27 lg ls) ∧ Hid (Below w0.heap.size w0 wr)) (fun _ _ i _ => ps.length + 1 - (intOf i).toNat)
  case atStart => exact ⟨0, 0, [], by omega, by omega, rfl, rfl, Lib.hid (fun h => by omega), Lib.hid (Nat.zero_le _), Lib.hid (fun l h => by cases h), Lib.hid (JoinSo.start bs M), Lib.hid (OwnLL.nil _ _ _ _), Lib.hid (Below.refl _ _)⟩
  case round =>
    obtain ⟨j, a, ls, hj, ha, rfl, rfl, HE, HLS, HLE, HJS, HOL, HB⟩ := hrel
    by_cases hjp : j ≤ ps.length
    · by_cases hal : a < xs.length
      · have hjpi : (j : Int) ≤ (ps.length : Int) := by omega
        have hali : (a : Int) < (xs.length : Int) := by omega
        obtain ⟨f, hf⟩ : ∃ f, a - b3 = f := ⟨_, rfl⟩
        have hfr : max 0 ((a : Int) - (b3 : Int)) = (f : Int) := by omega
        have hws : IntKind.i64.wrap ((a : Int) - (b3 : Int)) = (a : Int) - (b3 : Int) := IntWalk.i64_in _ (by omega)
        have hfa : f ≤ a := by omega
        obtain ⟨d, hd⟩ : ∃ d, xs.length - a = d := ⟨_, rfl⟩
        have hwd : IntKind.i64.wrap ((xs.length : Int) - (a : Int)) = (d : Int) := by rw [IntWalk.i64_in _ (by omega)]; omega
        clear hf
        by_cases hjl : j < ps.length
        · obtain ⟨b, off, cp, hpv, _, _, hbw, hcell⟩ := (HP0.out.below HB.out (Nat.le_refl _)).cells (by intro e; rw [e] at hjl; simp at hjl)
          cases hpv
          have a0 := hcell j hjl
          have hn255 := byte255 (ps.getD j 0)
          have hbv : bv (ps.getD j 0) = .int .u8 ((ps.getD j 0).toNat : Int) := rfl
          rw [hbv] at a0
          clear hcell hbv
          generalize (ps.getD j 0).toNat = c at *
          obtain ⟨q8, hq8⟩ : ∃ q, c % 8 = q := ⟨_, rfl⟩
          have h81 : (c : Int) % 8 = (q8 : Int) := by rw [← hq8]; rfl
          have h82 : (c : Int).tmod 8 = (q8 : Int) := by rw [Int.tmod_eq_emod_of_nonneg (by omega)]; exact h81
          have hwc : IntKind.i64.wrap (c : Int) = (c : Int) := IntWalk.i64_in _ (by omega)
          have hwq : IntKind.i64.wrap (q8 : Int) = (q8 : Int) := IntWalk.i64_in _ (by omega)
          obtain ⟨n, hn⟩ : ∃ n, min d q8 = n := ⟨_, rfl⟩
          have hmn2 : min (d : Int) (q8 : Int) = (n : Int) := by omega
          have hjli : (j : Int) < (ps.length : Int) := by omega
          obtain ⟨g, hg⟩ : ∃ g, g = a + n := ⟨_, rfl⟩
          have hnd : n ≤ d := by omega
          have HEN : Hid (j + 1 = ps.length + 1 → g = xs.length) := Lib.hid fun h => by omega
          clear hq8 hn
          have hag : IntKind.i64.wrap ((a : Int) + (n : Int)) = (g : Int) := by rw [IntWalk.i64_in _ (by omega)]; omega
          have hgl : g ≤ xs.length := by omega
          have hga : a ≤ g := by omega
          obtain ⟨wV, hwV⟩ : ∃ wV, wV = wr := ⟨_, rfl⟩
          subst hwV
          clear hg
          go_wp2
          go_loopw [17, 18] (fun xb k wr => ∃ n : Nat, f ≤ n ∧ n ≤ g ∧ k = .int .i64 n ∧ Hid (RB wV wr xb (rowB ((bs.drop f).take (n - f))))) (fun _ k _ => g - (intOf k).toNat)
          case atStart => exact ⟨f, Nat.le_refl _, by omega, rfl, Lib.hid (by rw [Nat.sub_self]; exact RB.start wV wV (Below.refl _ _))⟩
          case round =>
            obtain ⟨k, hk1, hk2, rfl, HF⟩ := hrel
            by_cases hlt : k < g
            · have hkx : k < xs.length := by omega
              obtain ⟨b, o, pa2, cap, hla, _, _, c0, c1, hrx, _⟩ := (HL.out.below (HB.out.trans (HF.out.be.mono HB.out.size)) (Nat.le_refl _)).at_ hkx
              obtain ⟨rfl, rfl⟩ : b = gg ∧ o = 0 := by simp at hla; exact ⟨hla.1.symm, hla.2.symm⟩
              rw [Nat.zero_add] at c0 c1
              have hmay := made_may HXS.out HMAY.out hkx
              have hput := rpput_any (xs.getD k BV.none_).1.s _ _ wr hrx (by have := may_len hmay; omega)
              have hrt := rowB_seg bs f k hk1 (by rw [HXL.out]; exact hkx)
              rw [← HXS.out, bats_getD, HXS.out] at hrt
              have hrow := rowB_take_len (bs.drop f) (k - f)
              have hrec := recB_len (xs.getD k BV.none_).1
              have hnw : IntKind.i64.wrap ((k : Int) + 1) = (k : Int) + 1 := IntWalk.i64_in _ (by omega)
              have hni : (k : Int) < (g : Int) := by omega
              clear hmay hla
              generalize (xs.getD k BV.none_).1 = x at *
              obtain ⟨s, ops⟩ := x
              simp only at *
              have HPUT := Lib.hid hput
              have HRT := Lib.hid hrt
              have HROW := Lib.hid hrow
              have HREC := Lib.hid hrec
              clear hput hrt hrow hrec hrx
              go_wp2_with (first | (go_at_call 12; (with_reducible refine HPUT.out.mono ?_); rintro e w1 ⟨u, rfl, hu, hb1⟩; obtain ⟨qa, qc, rfl⟩ := rdB_form' hu.read; have HU := Lib.hid hu.read; have HB1 := Lib.hid hb1; clear hu hb1) | (at_builtin; refine wpList_plain rfl fun K' hK' => ?_; refine wp_append_at (.tmp 75) (.tmp 80) 27 rfl 5 1 1 (.int .u8 0) Try.underlying27 info_u8 rfl (by decide) _ _ _ _ _ _ rfl rfl (own_base (OwnB.below HF.out.own HB1.out (Nat.le_refl _)) fun _ _ => Nat.zero_le _) HU.out (bv_oneCell _) (by have := HROW.out; have := HREC.out; omega) (by have := HROW.out; have := HREC.out; unfold maxLen; omega) ?_; intro xb' w5 hown hmv; refine hK' _ _ ?_; have hown2 : OwnB w5 0 5 xb' (rowB ((bs.drop f).take (k + 1 - f))) := (by rw [HRT.out]; unfold OwnB; rw [List.length_append, List.map_append]; exact hown); have HF3 := Lib.hid ((HF.out.call HB1.out).put hown2 hmv); clear hown hmv hown2 hK'))
              go_roundw
              case rel => exact ⟨k + 1, by omega, by omega, by go_num, HF3⟩
              case measure => simp [intOf]; omega
            · obtain rfl : g = k := by omega
              have hown := HF.out.own
              have hbe := HF.out.be
              have hjs := HJS.out.next HMAY.out HCON.out f g (by omega) (by rw [HXL.out]; omega) (by omega)
              have hrl := rowB_take_len (bs.drop f) (g - f)
              generalize rowB ((bs.drop f).take (g - f)) = r at *
              obtain ⟨xa, xc, rfl⟩ := rdB_form' hown.read
              obtain ⟨cs, r1, r2, r3⟩ := HOL.out.push (e2 := 27) hbe HB.out.size hown
              have R1 := Lib.hid r1
              have R2 := Lib.hid r2
              have R3 := Lib.hid r3
              have HN := Lib.hid hjs
              have HRL := Lib.hid hrl
              have jw : IntKind.i64.wrap ((j : Int) + 1) = (j : Int) + 1 := IntWalk.i64_in _ (by omega)
              clear hown hbe hjs hrl r1 r2 r3 HF
              go_wp2_with (at_builtin; refine wpList_plain rfl fun K' hK' => ?_; refine wp_append_at (.tmp 82) (.tmp 84) 25 rfl 27 1 24 (.slice none 0 0) Try.underlying25 info_rows9 rfl (by decide) _ _ _ 1 _ _ rfl rfl R1.out R2.out (by simp [Value.oneCell']) ?n1 ?n2 ?k1)
              case n1 => have := HLS.out; omega
              case n2 => have := HLS.out; unfold maxLen; omega
              case k1 =>
                intro v' w' hown hmv
                refine hK' _ _ ?_
                obtain ⟨q1, q2⟩ := R3.out v' w' hown hmv
                have Q1 := Lib.hid q1
                have Q2 := Lib.hid q2
                clear q1 q2 hown hmv
                go_wp2
                go_roundw
                case rel => exact ⟨j + 1, g, ls ++ [r], by omega, by omega, rfl, by go_num, HEN, Lib.hid (by have := HLS.out; simp; omega), Lib.hid (fun l hl => by
                  rcases List.mem_append.1 hl with h | h
                  · exact HLE.out l h
                  · obtain rfl := List.mem_singleton.1 h
                    have := HRL.out
                    omega), HN, Q1, Lib.hid (HB.out.trans Q2.out)⟩
                case measure => simp [intOf]; omega
        · obtain ⟨g, hg⟩ : ∃ g, g = a + d := ⟨_, rfl⟩
          obtain ⟨n, hn⟩ : ∃ n, n = d := ⟨_, rfl⟩
          rw [← hn] at hwd hg
          have hjli : ¬ (j : Int) < (ps.length : Int) := by omega
          have hnd : n ≤ d := by omega
          have HEN : Hid (j + 1 = ps.length + 1 → g = xs.length) := Lib.hid fun h => by omega
          clear hn
          have hag : IntKind.i64.wrap ((a : Int) + (n : Int)) = (g : Int) := by rw [IntWalk.i64_in _ (by omega)]; omega
          have hgl : g ≤ xs.length := by omega
          have hga : a ≤ g := by omega
          obtain ⟨wV, hwV⟩ : ∃ wV, wV = wr := ⟨_, rfl⟩
          subst hwV
          clear hg
          go_wp2
          go_loopw [17, 18] (fun xb k wr => ∃ n : Nat, f ≤ n ∧ n ≤ g ∧ k = .int .i64 n ∧ Hid (RB wV wr xb (rowB ((bs.drop f).take (n - f))))) (fun _ k _ => g - (intOf k).toNat)
          case atStart => exact ⟨f, Nat.le_refl _, by omega, rfl, Lib.hid (by rw [Nat.sub_self]; exact RB.start wV wV (Below.refl _ _))⟩
          case round =>
            obtain ⟨k, hk1, hk2, rfl, HF⟩ := hrel
            by_cases hlt : k < g
            · have hkx : k < xs.length := by omega
              obtain ⟨b, o, pa2, cap, hla, _, _, c0, c1, hrx, _⟩ := (HL.out.below (HB.out.trans (HF.out.be.mono HB.out.size)) (Nat.le_refl _)).at_ hkx
              obtain ⟨rfl, rfl⟩ : b = gg ∧ o = 0 := by simp at hla; exact ⟨hla.1.symm, hla.2.symm⟩
              rw [Nat.zero_add] at c0 c1
              have hmay := made_may HXS.out HMAY.out hkx
              have hput := rpput_any (xs.getD k BV.none_).1.s _ _ wr hrx (by have := may_len hmay; omega)
              have hrt := rowB_seg bs f k hk1 (by rw [HXL.out]; exact hkx)
              rw [← HXS.out, bats_getD, HXS.out] at hrt
              have hrow := rowB_take_len (bs.drop f) (k - f)
              have hrec := recB_len (xs.getD k BV.none_).1
              have hnw : IntKind.i64.wrap ((k : Int) + 1) = (k : Int) + 1 := IntWalk.i64_in _ (by omega)
              have hni : (k : Int) < (g : Int) := by omega
              clear hmay hla
              generalize (xs.getD k BV.none_).1 = x at *
              obtain ⟨s, ops⟩ := x
              simp only at *
              have HPUT := Lib.hid hput
              have HRT := Lib.hid hrt
              have HROW := Lib.hid hrow
              have HREC := Lib.hid hrec
              clear hput hrt hrow hrec hrx
              go_wp2_with (first | (go_at_call 12; (with_reducible refine HPUT.out.mono ?_); rintro e w1 ⟨u, rfl, hu, hb1⟩; obtain ⟨qa, qc, rfl⟩ := rdB_form' hu.read; have HU := Lib.hid hu.read; have HB1 := Lib.hid hb1; clear hu hb1) | (at_builtin; refine wpList_plain rfl fun K' hK' => ?_; refine wp_append_at (.tmp 75) (.tmp 80) 27 rfl 5 1 1 (.int .u8 0) Try.underlying27 info_u8 rfl (by decide) _ _ _ _ _ _ rfl rfl (own_base (OwnB.below HF.out.own HB1.out (Nat.le_refl _)) fun _ _ => Nat.zero_le _) HU.out (bv_oneCell _) (by have := HROW.out; have := HREC.out; omega) (by have := HROW.out; have := HREC.out; unfold maxLen; omega) ?_; intro xb' w5 hown hmv; refine hK' _ _ ?_; have hown2 : OwnB w5 0 5 xb' (rowB ((bs.drop f).take (k + 1 - f))) := (by rw [HRT.out]; unfold OwnB; rw [List.length_append, List.map_append]; exact hown); have HF3 := Lib.hid ((HF.out.call HB1.out).put hown2 hmv); clear hown hmv hown2 hK'))
              go_roundw
              case rel => exact ⟨k + 1, by omega, by omega, by go_num, HF3⟩
              case measure => simp [intOf]; omega
            · obtain rfl : g = k := by omega
              have hown := HF.out.own
              have hbe := HF.out.be
              have hjs := HJS.out.next HMAY.out HCON.out f g (by omega) (by rw [HXL.out]; omega) (by omega)
              have hrl := rowB_take_len (bs.drop f) (g - f)
              generalize rowB ((bs.drop f).take (g - f)) = r at *
              obtain ⟨xa, xc, rfl⟩ := rdB_form' hown.read
              obtain ⟨cs, r1, r2, r3⟩ := HOL.out.push (e2 := 27) hbe HB.out.size hown
              have R1 := Lib.hid r1
              have R2 := Lib.hid r2
              have R3 := Lib.hid r3
              have HN := Lib.hid hjs
              have HRL := Lib.hid hrl
              have jw : IntKind.i64.wrap ((j : Int) + 1) = (j : Int) + 1 := IntWalk.i64_in _ (by omega)
              clear hown hbe hjs hrl r1 r2 r3 HF
              go_wp2_with (at_builtin; refine wpList_plain rfl fun K' hK' => ?_; refine wp_append_at (.tmp 82) (.tmp 84) 25 rfl 27 1 24 (.slice none 0 0) Try.underlying25 info_rows9 rfl (by decide) _ _ _ 1 _ _ rfl rfl R1.out R2.out (by simp [Value.oneCell']) ?n1 ?n2 ?k1)
              case n1 => have := HLS.out; omega
              case n2 => have := HLS.out; unfold maxLen; omega
              case k1 =>
                intro v' w' hown hmv
                refine hK' _ _ ?_
                obtain ⟨q1, q2⟩ := R3.out v' w' hown hmv
                have Q1 := Lib.hid q1
                have Q2 := Lib.hid q2
                clear q1 q2 hown hmv
                go_wp2
                go_roundw
                case rel => exact ⟨j + 1, g, ls ++ [r], by omega, by omega, rfl, by go_num, HEN, Lib.hid (by have := HLS.out; simp; omega), Lib.hid (fun l hl => by
                  rcases List.mem_append.1 hl with h | h
                  · exact HLE.out l h
                  · obtain rfl := List.mem_singleton.1 h
                    have := HRL.out
                    omega), HN, Q1, Lib.hid (HB.out.trans Q2.out)⟩
                case measure => simp [intOf]; omega
      · obtain rfl : a = xs.length := by omega
        have hjpi : (j : Int) ≤ (ps.length : Int) := by omega
        have SLP : Hid (∀ w, Below w0.heap.size w0 w → RdBs w (.slice (some ⟨gg, so, none⟩) (xs.length - M) (lc - M)) (xs.drop M)) := Lib.hid fun w h => slice_from (HL.out.below h (Nat.le_refl _)) (by omega) hlx HSO.out
        have hjn := HJS.out
        rw [← HXL.out] at hjn
        have hjd := hjn.done
        have HXD : Hid ((xs.drop M).map (fun x => x.1) = bs.drop M) := Lib.hid (by rw [bats_from, HXS.out])
        have hll := HOL.out.read
        obtain ⟨ga, gc, rfl, _, _⟩ := hll.form
        have hlm : ∀ l ∈ ls, l.length < 1000000000 := fun l hl => by have := HLE.out l hl; omega
        have hcn : (ls.flatMap fun l => (logL l).1).length ≤ 1000000000 := by have := flat_few9 HLE.out; have := HLS.out; omega
        obtain ⟨w6, hw6⟩ : ∃ w6, w6 = wr.drew := ⟨_, rfl⟩
        have hb6 : Below w0.heap.size w0 w6 := by rw [hw6]; exact HB.out.drew
        have hjc := rpjoin_any w6 _ ls (M : Int) (by rw [hw6]; exact hll.below (Below.refl _ _).drew (Nat.le_refl _)) hlm hcn (by omega)
        rw [hjd] at hjc
        have HJC := Lib.hid hjc
        have HB6 := Lib.hid hb6
        have HW6 := Lib.hid hw6
        have HSL : Hid (∀ w, Ext w6 w → RdBs w (.slice (some ⟨gg, so, none⟩) (xs.length - M) (lc - M)) (xs.drop M)) := Lib.hid fun w h => SLP.out w (HB6.out.trans (Below.mono h HB6.out.size))
        clear hjn hjd hll hlm hcn hb6 hw6 hjc HJS HOL HLE HLS HB
        go_upto_region 21 with (fail)
        refine wp_region_plan [(true, 0), (true, 1), (true, 3), (true, 4), (true, 5), (false, 2), (false, 6), (true, 7)] (by kernel_rfl) (by kernel_rfl) (by kernel_rfl) (by kernel_rfl) (by kernel_rfl) ?_
        simp only [planO, List.drop_succ_cons, List.drop_zero]
        rw [← HW6.out]
        refine PlanO.take (v := ?va0) (by kernel_rfl) ?ya0 ?ra0
        case ya0 => (intro wz hz; go_simp; try with_reducible rfl)
        (try simp only [Act.put, List.setIfInBounds_toArray, List.set_cons_zero, List.set_cons_succ])
        refine PlanO.take (v := ?va1) (by kernel_rfl) ?ya1 ?ra1
        case ya1 => (intro wz hz; go_simp; try with_reducible rfl)
        (try simp only [Act.put, List.setIfInBounds_toArray, List.set_cons_zero, List.set_cons_succ])
        refine PlanO.take (v := ?va3) (by kernel_rfl) ?ya3 ?ra3
        case ya3 => (intro wz hz; go_simp; try with_reducible rfl)
        (try simp only [Act.put, List.setIfInBounds_toArray, List.set_cons_zero, List.set_cons_succ])
        refine PlanO.take (v := ?va4) (by kernel_rfl) ?ya4 ?ra4
        case ya4 => (intro wz hz; go_simp; try with_reducible rfl)
        (try simp only [Act.put, List.setIfInBounds_toArray, List.set_cons_zero, List.set_cons_succ])
        refine PlanO.take (v := (.slice (some ⟨gg, so, none⟩) (xs.length - M) (lc - M))) (by kernel_rfl) ?ya5 ?ra5
        case ya5 => (intro wz hz; go_simp; exact HSO.out)
        (try simp only [Act.put, List.setIfInBounds_toArray, List.set_cons_zero, List.set_cons_succ])
        refine PlanO.exec (fun K hK => ?_)
        go_simp
        go_at_call 14
        (with_reducible refine HJC.out.mono ?_)
        rintro e v3 ⟨j1, x1, rfl, hx1, hj1, hb3⟩
        have HX1 := Lib.hid hx1
        have HJ1 := Lib.hid hj1.read
        have HE3 : Hid (Ext w6 v3) := Lib.hid hb3
        clear hx1 hj1
        obtain ⟨ja1, jc1, rfl, _, _⟩ := HJ1.out.form
        go_wp2_with fail
        refine hK.out _ _ HE3.out ?_
        clear hK K
        (try simp only [Act.put, List.setIfInBounds_toArray, List.set_cons_zero, List.set_cons_succ])
        refine PlanO.exec (fun K hK => ?_)
        go_simp
        go_at_call 11
        (with_reducible refine (rbats_any _ _ x1 (xs.drop M) v3 HJ1.out (HSL.out v3 HE3.out) (HX1.out.trans HXD.out.symm)).mono ?_)
        rintro e v5 ⟨rfl, hb5⟩
        have HE5 : Hid (Ext w6 v5) := Lib.hid (Ext.trans HE3.out hb5)
        have HB5 := Lib.hid (HB6.out.trans (Below.mono HE5.out HB6.out.size))
        go_wp2_with fail
        refine hK.out _ _ hb5 ?_
        clear hK K
        (try simp only [Act.put, List.setIfInBounds_toArray, List.set_cons_zero, List.set_cons_succ])
        refine PlanO.take (v := ?va7) (by kernel_rfl) ?ya7 ?ra7
        case ya7 => (intro wz hz; go_simp; try with_reducible rfl)
        (try simp only [Act.put, List.setIfInBounds_toArray, List.set_cons_zero, List.set_cons_succ])
        refine PlanO.done (NoPanic.normal ?_)
        cases gap with
        | false =>
          go_wp2_with (go_at_call 8; refine (h9.out _).mono ?_; rintro e w8 ⟨rfl, hb8⟩; have HB8 := Lib.hid (HB5.out.trans (hb8.mono HB5.out.size)); clear hb8)
          go_ret
          exact ⟨rfl, HB0.out.trans (Below.mono HB8.out HB0.out.size)⟩
        | true =>
          obtain ⟨M1, hM1⟩ : ∃ M1 : Nat, M1 = M + 1 := ⟨_, rfl⟩
          have hmw : IntKind.i64.wrap ((M : Int) + 1) = (M1 : Int) := by rw [IntWalk.i64_in _ (by omega)]; omega
          by_cases hgp : M1 < xs.length
          · have hgi : (M1 : Int) < (xs.length : Int) := by omega
            have HM1 := Lib.hid hM1
            clear hM1
            go_wp2
            go_loopw [20, 21] (fun xb k wr => ∃ n : Nat, M1 ≤ n ∧ n ≤ xs.length ∧ k = .int .i64 n ∧ Hid (RB v5 wr xb (rowB ((bs.drop M1).take (n - M1))))) (fun _ k _ => xs.length - (intOf k).toNat)
            case atStart => exact ⟨M1, Nat.le_refl _, by omega, rfl, Lib.hid (by rw [Nat.sub_self]; exact RB.start v5 v5 (Below.refl _ _))⟩
            case round =>
              obtain ⟨k, hk1, hk2, rfl, HF⟩ := hrel
              by_cases hlt : k < xs.length
              · have hkx : k < xs.length := by omega
                obtain ⟨b, o, pa2, cap, hla, _, _, c0, c1, hrx, _⟩ := (HL.out.below (HB5.out.trans (HF.out.be.mono HB5.out.size)) (Nat.le_refl _)).at_ hkx
                obtain ⟨rfl, rfl⟩ : b = gg ∧ o = 0 := by simp at hla; exact ⟨hla.1.symm, hla.2.symm⟩
                rw [Nat.zero_add] at c0 c1
                have hmay := made_may HXS.out HMAY.out hkx
                have hput := rpput_any (xs.getD k BV.none_).1.s _ _ wr hrx (by have := may_len hmay; omega)
                have hrt := rowB_seg bs M1 k hk1 (by rw [HXL.out]; exact hkx)
                rw [← HXS.out, bats_getD, HXS.out] at hrt
                have hrow := rowB_take_len (bs.drop M1) (k - M1)
                have hrec := recB_len (xs.getD k BV.none_).1
                have hnw : IntKind.i64.wrap ((k : Int) + 1) = (k : Int) + 1 := IntWalk.i64_in _ (by omega)
                have hni : (k : Int) < (xs.length : Int) := by omega
                clear hmay hla
                generalize (xs.getD k BV.none_).1 = x at *
                obtain ⟨s, ops⟩ := x
                simp only at *
                have HPUT := Lib.hid hput
                have HRT := Lib.hid hrt
                have HROW := Lib.hid hrow
                have HREC := Lib.hid hrec
                clear hput hrt hrow hrec hrx
                go_wp2_with (first | (go_at_call 12; (with_reducible refine HPUT.out.mono ?_); rintro e w1 ⟨u, rfl, hu, hb1⟩; obtain ⟨qa, qc, rfl⟩ := rdB_form' hu.read; have HU := Lib.hid hu.read; have HB1 := Lib.hid hb1; clear hu hb1) | (at_builtin; refine wpList_plain rfl fun K' hK' => ?_; refine wp_append_at (.tmp 118) (.tmp 123) 27 rfl 5 1 1 (.int .u8 0) Try.underlying27 info_u8 rfl (by decide) _ _ _ _ _ _ rfl rfl (own_base (OwnB.below HF.out.own HB1.out (Nat.le_refl _)) fun _ _ => Nat.zero_le _) HU.out (bv_oneCell _) (by have := HROW.out; have := HREC.out; omega) (by have := HROW.out; have := HREC.out; unfold maxLen; omega) ?_; intro xb' w5 hown hmv; refine hK' _ _ ?_; have hown2 : OwnB w5 0 5 xb' (rowB ((bs.drop M1).take (k + 1 - M1))) := (by rw [HRT.out]; unfold OwnB; rw [List.length_append, List.map_append]; exact hown); have HF3 := Lib.hid ((HF.out.call HB1.out).put hown2 hmv); clear hown hmv hown2 hK'))
                go_roundw
                case rel => exact ⟨k + 1, by omega, by omega, by go_num, HF3⟩
                case measure => simp [intOf]; omega
              · obtain rfl : xs.length = k := by omega
                have hown := HF.out.own
                have hbe := HF.out.be
                rw [List.take_of_length_le (by rw [List.length_drop, HXL.out]; omega)] at hown
                have hrl := rowB_len (bs.drop M1)
                rw [List.length_drop, HXL.out] at hrl
                have hlog := log_whole _ _ (HMAY.out.drop M1) (HCON.out.drop M1)
                have hjoin := join_far hlog HCON.out HM1.out.symm
                generalize rowB (bs.drop M1) = r at *
                obtain ⟨xa, xc, rfl⟩ := rdB_form' hown.read
                have HR := Lib.hid hown.read
                have HRL : Hid (r.length ≤ 100008 * 40) := Lib.hid (by omega)
                have HRM : Hid ((logL r).1.length ≤ 1000000000) := Lib.hid (by have := logL_few r; omega)
                have HJ0 := Lib.hid hjoin
                have HBr := Lib.hid (HB5.out.trans (hbe.mono HB5.out.size))
                clear hown hbe hrl hlog hjoin HF
                have HJR : Hid (∀ w, RdB w (.slice xa r.length xc) r → Calls Try.prog 14 #[.slice (some ⟨w.heap.size, 0, none⟩) 1 1, .int .i64 (M : Int)] (w.alloc (.cells #[.slice xa r.length xc] 27)) (RetBs (w.alloc (.cells #[.slice xa r.length xc] 27)) [])) := Lib.hid fun w h => by
                  rw [← HJ0.out]
                  refine rpjoin_any _ _ [r] (M : Int) (rdLL_one9 h) (fun l hl => ?_) ?_ (by omega)
                  · obtain rfl := List.mem_singleton.1 hl
                    have := HRL.out
                    omega
                  · rw [List.flatMap_cons, List.flatMap_nil, List.append_nil]
                    exact HRM.out
                go_wp2_with (first | (go_at_call 14; refine (HJR.out _ HR.out).mono ?_; rintro e w7 ⟨v7, x7, rfl, hx7, hv7, hb7⟩; obtain rfl := List.map_eq_nil_iff.1 hx7; obtain ⟨a7, c7, rfl, _, _⟩ := hv7.form; have HB7 := Lib.hid (HBr.out.trans ((((Below.refl wr.heap.size wr).alloc (Nat.le_refl _) _).trans (hb7.mono (by simp))).mono HBr.out.size)); clear hv7 hb7 hx7) | (go_at_call 8; refine (h9.out _).mono ?_; rintro e w8 ⟨rfl, hb8⟩; have HB8 := Lib.hid (HB7.out.trans (hb8.mono HB7.out.size)); clear hb8))
                go_ret
                exact ⟨rfl, HB0.out.trans (Below.mono HB8.out HB0.out.size)⟩
          · have hgi : ¬ (M1 : Int) < (xs.length : Int) := by omega
            clear hM1
            go_wp2_with (go_at_call 8; refine (h9.out _).mono ?_; rintro e w8 ⟨rfl, hb8⟩; have HB8 := Lib.hid (HB5.out.trans (hb8.mono HB5.out.size)); clear hb8)
            go_ret
            exact ⟨rfl, HB0.out.trans (Below.mono HB8.out HB0.out.size)⟩
    · obtain rfl : a = xs.length := HE.out (by omega)
      have hjpi : ¬ (j : Int) ≤ (ps.length : Int) := by omega
      have SLP : Hid (∀ w, Below w0.heap.size w0 w → RdBs w (.slice (some ⟨gg, so, none⟩) (xs.length - M) (lc - M)) (xs.drop M)) := Lib.hid fun w h => slice_from (HL.out.below h (Nat.le_refl _)) (by omega) hlx HSO.out
      have hjn := HJS.out
      rw [← HXL.out] at hjn
      have hjd := hjn.done
      have HXD : Hid ((xs.drop M).map (fun x => x.1) = bs.drop M) := Lib.hid (by rw [bats_from, HXS.out])
      have hll := HOL.out.read
      obtain ⟨ga, gc, rfl, _, _⟩ := hll.form
      have hlm : ∀ l ∈ ls, l.length < 1000000000 := fun l hl => by have := HLE.out l hl; omega
      have hcn : (ls.flatMap fun l => (logL l).1).length ≤ 1000000000 := by have := flat_few9 HLE.out; have := HLS.out; omega
      obtain ⟨w6, hw6⟩ : ∃ w6, w6 = wr.drew := ⟨_, rfl⟩
      have hb6 : Below w0.heap.size w0 w6 := by rw [hw6]; exact HB.out.drew
      have hjc := rpjoin_any w6 _ ls (M : Int) (by rw [hw6]; exact hll.below (Below.refl _ _).drew (Nat.le_refl _)) hlm hcn (by omega)
      rw [hjd] at hjc
      have HJC := Lib.hid hjc
      have HB6 := Lib.hid hb6
      have HW6 := Lib.hid hw6
      have HSL : Hid (∀ w, Ext w6 w → RdBs w (.slice (some ⟨gg, so, none⟩) (xs.length - M) (lc - M)) (xs.drop M)) := Lib.hid fun w h => SLP.out w (HB6.out.trans (Below.mono h HB6.out.size))
      clear hjn hjd hll hlm hcn hb6 hw6 hjc HJS HOL HLE HLS HB
      go_upto_region 21 with (fail)
      refine wp_region_plan [(true, 0), (true, 1), (true, 3), (true, 4), (true, 5), (false, 2), (false, 6), (true, 7)] (by kernel_rfl) (by kernel_rfl) (by kernel_rfl) (by kernel_rfl) (by kernel_rfl) ?_
      simp only [planO, List.drop_succ_cons, List.drop_zero]
      rw [← HW6.out]
      refine PlanO.take (v := ?vb0) (by kernel_rfl) ?yb0 ?rb0
      case yb0 => (intro wz hz; go_simp; try with_reducible rfl)
      (try simp only [Act.put, List.setIfInBounds_toArray, List.set_cons_zero, List.set_cons_succ])
      refine PlanO.take (v := ?vb1) (by kernel_rfl) ?yb1 ?rb1
      case yb1 => (intro wz hz; go_simp; try with_reducible rfl)
      (try simp only [Act.put, List.setIfInBounds_toArray, List.set_cons_zero, List.set_cons_succ])
      refine PlanO.take (v := ?vb3) (by kernel_rfl) ?yb3 ?rb3
      case yb3 => (intro wz hz; go_simp; try with_reducible rfl)
      (try simp only [Act.put, List.setIfInBounds_toArray, List.set_cons_zero, List.set_cons_succ])
      refine PlanO.take (v := ?vb4) (by kernel_rfl) ?yb4 ?rb4
      case yb4 => (intro wz hz; go_simp; try with_reducible rfl)
      (try simp only [Act.put, List.setIfInBounds_toArray, List.set_cons_zero, List.set_cons_succ])
      refine PlanO.take (v := (.slice (some ⟨gg, so, none⟩) (xs.length - M) (lc - M))) (by kernel_rfl) ?yb5 ?rb5
      case yb5 => (intro wz hz; go_simp; exact HSO.out)
      (try simp only [Act.put, List.setIfInBounds_toArray, List.set_cons_zero, List.set_cons_succ])
      refine PlanO.exec (fun K hK => ?_)
      go_simp
      go_at_call 14
      (with_reducible refine HJC.out.mono ?_)
      rintro e v3 ⟨j1, x1, rfl, hx1, hj1, hb3⟩
      have HX1 := Lib.hid hx1
      have HJ1 := Lib.hid hj1.read
      have HE3 : Hid (Ext w6 v3) := Lib.hid hb3
      clear hx1 hj1
      obtain ⟨ja1, jc1, rfl, _, _⟩ := HJ1.out.form
      go_wp2_with fail
      refine hK.out _ _ HE3.out ?_
      clear hK K
      (try simp only [Act.put, List.setIfInBounds_toArray, List.set_cons_zero, List.set_cons_succ])
      refine PlanO.exec (fun K hK => ?_)
      go_simp
      go_at_call 11
      (with_reducible refine (rbats_any _ _ x1 (xs.drop M) v3 HJ1.out (HSL.out v3 HE3.out) (HX1.out.trans HXD.out.symm)).mono ?_)
      rintro e v5 ⟨rfl, hb5⟩
      have HE5 : Hid (Ext w6 v5) := Lib.hid (Ext.trans HE3.out hb5)
      have HB5 := Lib.hid (HB6.out.trans (Below.mono HE5.out HB6.out.size))
      go_wp2_with fail
      refine hK.out _ _ hb5 ?_
      clear hK K
      (try simp only [Act.put, List.setIfInBounds_toArray, List.set_cons_zero, List.set_cons_succ])
      refine PlanO.take (v := ?vb7) (by kernel_rfl) ?yb7 ?rb7
      case yb7 => (intro wz hz; go_simp; try with_reducible rfl)
      (try simp only [Act.put, List.setIfInBounds_toArray, List.set_cons_zero, List.set_cons_succ])
      refine PlanO.done (NoPanic.normal ?_)
      cases gap with
      | false =>
        go_wp2_with (go_at_call 8; refine (h9.out _).mono ?_; rintro e w8 ⟨rfl, hb8⟩; have HB8 := Lib.hid (HB5.out.trans (hb8.mono HB5.out.size)); clear hb8)
        go_ret
        exact ⟨rfl, HB0.out.trans (Below.mono HB8.out HB0.out.size)⟩
      | true =>
        obtain ⟨M1, hM1⟩ : ∃ M1 : Nat, M1 = M + 1 := ⟨_, rfl⟩
        have hmw : IntKind.i64.wrap ((M : Int) + 1) = (M1 : Int) := by rw [IntWalk.i64_in _ (by omega)]; omega
        by_cases hgp : M1 < xs.length
        · have hgi : (M1 : Int) < (xs.length : Int) := by omega
          have HM1 := Lib.hid hM1
          clear hM1
          go_wp2
          go_loopw [20, 21] (fun xb k wr => ∃ n : Nat, M1 ≤ n ∧ n ≤ xs.length ∧ k = .int .i64 n ∧ Hid (RB v5 wr xb (rowB ((bs.drop M1).take (n - M1))))) (fun _ k _ => xs.length - (intOf k).toNat)
          case atStart => exact ⟨M1, Nat.le_refl _, by omega, rfl, Lib.hid (by rw [Nat.sub_self]; exact RB.start v5 v5 (Below.refl _ _))⟩
          case round =>
            obtain ⟨k, hk1, hk2, rfl, HF⟩ := hrel
            by_cases hlt : k < xs.length
            · have hkx : k < xs.length := by omega
              obtain ⟨b, o, pa2, cap, hla, _, _, c0, c1, hrx, _⟩ := (HL.out.below (HB5.out.trans (HF.out.be.mono HB5.out.size)) (Nat.le_refl _)).at_ hkx
              obtain ⟨rfl, rfl⟩ : b = gg ∧ o = 0 := by simp at hla; exact ⟨hla.1.symm, hla.2.symm⟩
              rw [Nat.zero_add] at c0 c1
              have hmay := made_may HXS.out HMAY.out hkx
              have hput := rpput_any (xs.getD k BV.none_).1.s _ _ wr hrx (by have := may_len hmay; omega)
              have hrt := rowB_seg bs M1 k hk1 (by rw [HXL.out]; exact hkx)
              rw [← HXS.out, bats_getD, HXS.out] at hrt
              have hrow := rowB_take_len (bs.drop M1) (k - M1)
              have hrec := recB_len (xs.getD k BV.none_).1
              have hnw : IntKind.i64.wrap ((k : Int) + 1) = (k : Int) + 1 := IntWalk.i64_in _ (by omega)
              have hni : (k : Int) < (xs.length : Int) := by omega
              clear hmay hla
              generalize (xs.getD k BV.none_).1 = x at *
              obtain ⟨s, ops⟩ := x
              simp only at *
              have HPUT := Lib.hid hput
              have HRT := Lib.hid hrt
              have HROW := Lib.hid hrow
              have HREC := Lib.hid hrec
              clear hput hrt hrow hrec hrx
              go_wp2_with (first | (go_at_call 12; (with_reducible refine HPUT.out.mono ?_); rintro e w1 ⟨u, rfl, hu, hb1⟩; obtain ⟨qa, qc, rfl⟩ := rdB_form' hu.read; have HU := Lib.hid hu.read; have HB1 := Lib.hid hb1; clear hu hb1) | (at_builtin; refine wpList_plain rfl fun K' hK' => ?_; refine wp_append_at (.tmp 118) (.tmp 123) 27 rfl 5 1 1 (.int .u8 0) Try.underlying27 info_u8 rfl (by decide) _ _ _ _ _ _ rfl rfl (own_base (OwnB.below HF.out.own HB1.out (Nat.le_refl _)) fun _ _ => Nat.zero_le _) HU.out (bv_oneCell _) (by have := HROW.out; have := HREC.out; omega) (by have := HROW.out; have := HREC.out; unfold maxLen; omega) ?_; intro xb' w5 hown hmv; refine hK' _ _ ?_; have hown2 : OwnB w5 0 5 xb' (rowB ((bs.drop M1).take (k + 1 - M1))) := (by rw [HRT.out]; unfold OwnB; rw [List.length_append, List.map_append]; exact hown); have HF3 := Lib.hid ((HF.out.call HB1.out).put hown2 hmv); clear hown hmv hown2 hK'))
              go_roundw
              case rel => exact ⟨k + 1, by omega, by omega, by go_num, HF3⟩
              case measure => simp [intOf]; omega
            · obtain rfl : xs.length = k := by omega
              have hown := HF.out.own
              have hbe := HF.out.be
              rw [List.take_of_length_le (by rw [List.length_drop, HXL.out]; omega)] at hown
              have hrl := rowB_len (bs.drop M1)
              rw [List.length_drop, HXL.out] at hrl
              have hlog := log_whole _ _ (HMAY.out.drop M1) (HCON.out.drop M1)
              have hjoin := join_far hlog HCON.out HM1.out.symm
              generalize rowB (bs.drop M1) = r at *
              obtain ⟨xa, xc, rfl⟩ := rdB_form' hown.read
              have HR := Lib.hid hown.read
              have HRL : Hid (r.length ≤ 100008 * 40) := Lib.hid (by omega)
              have HRM : Hid ((logL r).1.length ≤ 1000000000) := Lib.hid (by have := logL_few r; omega)
              have HJ0 := Lib.hid hjoin
              have HBr := Lib.hid (HB5.out.trans (hbe.mono HB5.out.size))
              clear hown hbe hrl hlog hjoin HF
              have HJR : Hid (∀ w, RdB w (.slice xa r.length xc) r → Calls Try.prog 14 #[.slice (some ⟨w.heap.size, 0, none⟩) 1 1, .int .i64 (M : Int)] (w.alloc (.cells #[.slice xa r.length xc] 27)) (RetBs (w.alloc (.cells #[.slice xa r.length xc] 27)) [])) := Lib.hid fun w h => by
                rw [← HJ0.out]
                refine rpjoin_any _ _ [r] (M : Int) (rdLL_one9 h) (fun l hl => ?_) ?_ (by omega)
                · obtain rfl := List.mem_singleton.1 hl
                  have := HRL.out
                  omega
                · rw [List.flatMap_cons, List.flatMap_nil, List.append_nil]
                  exact HRM.out
              go_wp2_with (first | (go_at_call 14; refine (HJR.out _ HR.out).mono ?_; rintro e w7 ⟨v7, x7, rfl, hx7, hv7, hb7⟩; obtain rfl := List.map_eq_nil_iff.1 hx7; obtain ⟨a7, c7, rfl, _, _⟩ := hv7.form; have HB7 := Lib.hid (HBr.out.trans ((((Below.refl wr.heap.size wr).alloc (Nat.le_refl _) _).trans (hb7.mono (by simp))).mono HBr.out.size)); clear hv7 hb7 hx7) | (go_at_call 8; refine (h9.out _).mono ?_; rintro e w8 ⟨rfl, hb8⟩; have HB8 := Lib.hid (HB7.out.trans (hb8.mono HB7.out.size)); clear hb8))
              go_ret
              exact ⟨rfl, HB0.out.trans (Below.mono HB8.out HB0.out.size)⟩
        · have hgi : ¬ (M1 : Int) < (xs.length : Int) := by omega
          clear hM1
          go_wp2_with (go_at_call 8; refine (h9.out _).mono ?_; rintro e w8 ⟨rfl, hb8⟩; have HB8 := Lib.hid (HB5.out.trans (hb8.mono HB5.out.size)); clear hb8)
          go_ret
          exact ⟨rfl, HB0.out.trans (Below.mono HB8.out HB0.out.size)⟩
end Go.Proofs.Ytpbmacbogmnokaa
