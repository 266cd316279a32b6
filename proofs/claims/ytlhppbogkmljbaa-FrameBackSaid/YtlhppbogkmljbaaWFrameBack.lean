/-
  The walk of the statement FrameBack.
-/
import Derived.Test.YtlhppbogkmljbaaFrameAwake
import Derived.Test.YtlhppbogkmljbaaOpenLL
namespace Go.Proofs.Ytlhppbogkmljbaa
open Go.ChangeShapes Go.WideShapes Go.ChangeAt Go.RowKit

theorem info_int : (Try.prog.info? 3).map (fun i => (i.zero, i.size, i.bytes)) = some (some (.int .i64 0), 1, 8) := by kernel_rfl

/-- Where records end. -/
def endC (ls : List (List UInt8)) (k : Nat) : List Value := (List.range k).map fun j => .int .i64 ((rowL (ls.take (j + 1))).length : Int)
theorem endC_length (ls : List (List UInt8)) (k : Nat) : (endC ls k).length = k := by simp [endC]
theorem endC_succ (ls : List (List UInt8)) (k : Nat) : endC ls (k + 1) = endC ls k ++ [.int .i64 ((rowL (ls.take (k + 1))).length : Int)] := by simp [endC, List.range_succ]
theorem endC_at (ls : List (List UInt8)) (k j : Nat) (h : j < k) : (endC ls k)[j]? = some (.int .i64 ((rowL (ls.take (j + 1))).length : Int)) := by simp [endC, h]

theorem row_len : ∀ (ls : List (List UInt8)), (∀ p ∈ ls, p.length ≤ 200) → (rowL ls).length ≤ 208 * ls.length
  | [], _ => by simp [rowL]
  | p :: ls, h => by
    have h1 := row_len ls fun q hq => h q (by simp [hq])
    have h2 := h p (by simp)
    rw [row_cons, List.length_append, frRaw_length, List.length_cons]
    omega

theorem row_take (ls : List (List UInt8)) (k : Nat) (p : List UInt8) (h : ls[k]? = some p) : rowL (ls.take (k + 1)) = rowL (ls.take k) ++ frRaw p := by
  obtain ⟨hk, rfl⟩ := List.getElem?_eq_some_iff.1 h
  rw [List.take_succ_eq_append_getElem hk, row_snoc]

theorem row_take_le (ls : List (List UInt8)) (k : Nat) : (rowL (ls.take k)).length ≤ (rowL ls).length := by
  have : rowL ls = rowL (ls.take k) ++ rowL (ls.drop k) := by
    have h := congrArg rowL (List.take_append_drop k ls).symm
    rw [show rowL (ls.take k ++ ls.drop k) = rowL (ls.take k) ++ rowL (ls.drop k) from by unfold rowL; exact List.flatMap_append] at h
    exact h
  rw [this, List.length_append]
  omega

theorem rd_prefix {w : World} {a : Option Addr} {cap : Nat} {l : List UInt8} (h : RdB w (.slice a l.length cap) l) (k : Nat) (hk : k ≤ l.length) : RdB w (.slice a k cap) (l.take k) := by
  obtain ⟨a', cap', hv, h1, h2, _, h3⟩ := h
  cases hv
  have hl : (l.take k).length = k := by rw [List.length_take]; omega
  refine ⟨a, cap, by rw [hl], by omega, h2, by simp, ?_⟩
  rcases h3 with ⟨h3, h4⟩ | ⟨b, off, rfl, h4, h5⟩
  · exact .inl ⟨by omega, h4⟩
  · refine .inr ⟨b, off, rfl, h4, fun j u hj => h5 j u ?_⟩
    rw [List.map_take, List.getElem?_take] at hj
    split at hj
    · exact hj
    · cases hj

theorem rdLL_prefix {w : World} {a : Option Addr} {cap : Nat} {ls : List (List UInt8)} (h : RdLL w (.slice a ls.length cap) ls) (k : Nat) (hk : k ≤ ls.length) : RdLL w (.slice a k cap) (ls.take k) := by
  obtain ⟨cs, ⟨a', cap', hv, h1, h2, h0, h3⟩, h4⟩ := h
  cases hv
  have hl : (ls.take k).length = k := by rw [List.length_take]; omega
  refine ⟨cs.take k, ⟨a, cap, by rw [hl], by omega, h2, by rw [hl, List.length_take]; omega, ?_⟩, fun i c l hc hl' => ?_⟩
  · rcases h3 with ⟨h3, h5⟩ | ⟨b, off, rfl, h6, h5⟩
    · exact .inl ⟨by omega, h5⟩
    · refine .inr ⟨b, off, rfl, h6, fun j u hj => h5 j u ?_⟩
      rw [List.getElem?_take] at hj
      split at hj
      · exact hj
      · cases hj
  · rw [List.getElem?_take] at hc hl'
    split at hc
    · rename_i hi
      rw [if_pos hi] at hl'
      exact h4 i c l hc hl'
    · cases hc

/-- What stands in the loop that puts records in a row. -/
structure FB (W w : World) (xb ev : Value) (ls : List (List UInt8)) (k : Nat) : Prop where
  own : OwnB w W.heap.size 5 xb (rowL (ls.take k))
  ends : w.ownsRow W.heap.size 3 1 ev k (endC ls k)
  ap : ∀ j, xb.ownBlock = some j → ev.ownBlock ≠ some j
  be : Below W.heap.size W w
  short : ∀ p ∈ ls.take k, p.length ≤ 200

theorem FB.start (W : World) (ls : List (List UInt8)) : FB W W (.slice none 0 0) (.slice none 0 0) ls 0 :=
  ⟨OwnB.nil _ _ _, World.ownsRow_nil _ _ _ _, (fun j h => by cases h), Below.refl _ _, (fun p h => by simp at h)⟩

/-- .. behind the first of the two appends. -/
structure FM (W w2 : World) (xb' ev : Value) (ls : List (List UInt8)) (k : Nat) : Prop where
  own : OwnB w2 W.heap.size 5 xb' (rowL (ls.take (k + 1)))
  ends : w2.ownsRow W.heap.size 3 1 ev k (endC ls k)
  ap : ∀ j, xb'.ownBlock = some j → ev.ownBlock ≠ some j
  be : Below W.heap.size W w2

theorem FB.mid {W w w1 w2 : World} {xb ev xb' : Value} {ls : List (List UInt8)} {k : Nat} (h : FB W w xb ev ls k) (hb1 : Below w.heap.size w w1)
    (h2 : OwnB w2 0 5 xb' (rowL (ls.take (k + 1)))) (m2 : Moves w1 w2 xb xb') : FM W w2 xb' ev ls k := by
  have hx : ∀ j, xb'.ownBlock = some j → xb.ownBlock = some j ∨ w1.heap.size ≤ j := fun j hj => (m2.at_ j hj).imp id fun h => h.1
  have hw := hb1.size
  have hW := h.be.size
  refine ⟨own_base h2 fun j hj => ?_, ?_, fun j hj he => ?_, (h.be.trans (hb1.mono hW)).grown m2.grown (by omega) fun j hj => (World.ownsRow.lt h.own j hj).1⟩
  · rcases hx j hj with e | e
    · exact (World.ownsRow.lt h.own j e).1
    · omega
  · have e1 := own_kept h.ends (R := fun k => k < w.heap.size) (Kept.of hb1 fun _ h => h) fun j hj => own_lt h.ends j hj
    exact own_kept e1 (m2.kept (R := fun k => k < w1.heap.size ∧ xb.ownBlock ≠ some k) fun k h => h) fun j hj => ⟨own_lt e1 j hj, fun e => h.ap j e hj⟩
  · rcases hx j hj with e | e
    · exact h.ap j e he
    · have := own_lt h.ends j he
      omega

theorem FM.put {W w2 w3 : World} {xb' ev ev' : Value} {ls : List (List UInt8)} {k : Nat} {p : List UInt8} {o : Obj} (h : FM W w2 xb' ev ls k) (hp : ls[k]? = some p) (hs : p.length ≤ 200) (hall : ∀ q ∈ ls.take k, q.length ≤ 200)
    (h3 : w3.ownsRow 0 3 1 ev' (k + 1) (endC ls k ++ [.int .i64 ((rowL (ls.take (k + 1))).length : Int)])) (m3 : Moves (w2.alloc o) w3 ev ev') : FB W w3 xb' ev' ls (k + 1) := by
  have hal : Below w2.heap.size w2 (w2.alloc o) := (Below.refl _ _).alloc (Nat.le_refl _) _
  have hx : ∀ j, ev'.ownBlock = some j → ev.ownBlock = some j ∨ (w2.alloc o).heap.size ≤ j := fun j hj => (m3.at_ j hj).imp id fun h => h.1
  have hw := hal.size
  have hW := h.be.size
  refine ⟨?_, ?_, fun j hj he => ?_, (h.be.alloc hW _).grown m3.grown (by omega) fun j hj => (World.ownsRow.lt h.ends j hj).1, fun q hq => ?_⟩
  · have e1 := OwnB.below h.own hal (Nat.le_refl _)
    exact own_kept e1 (m3.kept (R := fun k => k < (w2.alloc o).heap.size ∧ ev.ownBlock ≠ some k) fun k h => h) fun j hj => ⟨own_lt e1 j hj, fun e => h.ap j hj e⟩
  · rw [endC_succ]
    refine own_base h3 fun j hj => ?_
    rcases hx j hj with e | e
    · exact (World.ownsRow.lt h.ends j e).1
    · omega
  · rcases hx j he with e | e
    · exact h.ap j hj e
    · have := own_lt h.own j hj
      omega
  · obtain ⟨hk, rfl⟩ := List.getElem?_eq_some_iff.1 hp
    rw [List.take_succ_eq_append_getElem hk] at hq
    rcases List.mem_append.1 hq with h | h
    · exact hall q h
    · have : q = ls[k] := by simpa using h
      rw [this]; exact hs

theorem end_one (l : List (List UInt8)) (k : Nat) : ∀ u ∈ endC l k, u.oneCell' = true := by
  intro u hu
  obtain ⟨j, _, rfl⟩ := List.mem_map.1 hu
  rfl

set_option maxRecDepth 100000 in
set_option maxHeartbeats 4000000 in
set_option linter.unusedSimpArgs false in
theorem frameBack_walk (v : Value) (ls : List (List UInt8)) (cut : Int) (W : World) (hv : RdLL W v ls) (hc : (Lit.int .u16 cut).wf = true) :
    Calls Try.prog 4 #[v, .int .u16 cut] W fun e w' => e = .returned (.bool true) ∧ Below W.heap.size W w' := by
  have hcb := bounds_u16 hc
  clear hc
  have h7 := Lib.hid (fun w => awake7_any w)
  obtain ⟨la, lc, rfl, hlc1, hlc2⟩ := hv.form
  unfold maxLen at hlc2
  have HL := Lib.hid hv
  clear hv
  by_cases g1 : (30 : Int) < (ls.length : Int)
  · go_enter Try.func4, Try.ntmps4
    go_wp2_with (go_at_call 6; refine (h7.out _).mono ?_; rintro e w1 ⟨rfl, hb1⟩)
    go_ret
    exact ⟨rfl, hb1⟩
  go_enter Try.func4, Try.ntmps4
  go_wp2
  go_loopw [5, 6, 7] (fun xb ev i wr => ∃ k : Nat, k ≤ ls.length ∧ i = .int .i64 k ∧ Hid (FB W wr xb ev ls k)) (fun _ _ i _ => ls.length - (intOf i).toNat)
  case atStart => exact ⟨0, Nat.zero_le _, rfl, Lib.hid (FB.start W ls)⟩
  case round =>
    obtain ⟨k, hk, rfl, HF⟩ := hrel
    by_cases hlt : k < ls.length
    · obtain ⟨x, hx⟩ : ∃ x, ls[k]? = some x := ⟨_, List.getElem?_eq_getElem hlt⟩
      obtain ⟨b, o, a, cap, rfl, hcell, hrx, _⟩ := (HL.out.below HF.out.be (Nat.le_refl _)).at_ hx
      have HX := Lib.hid hx
      have HRX := Lib.hid hrx
      clear hx hrx
      by_cases hs : (200 : Int) < (x.length : Int)
      · go_wp2_with (go_at_call 6; refine (h7.out _).mono ?_; rintro e w1 ⟨rfl, hb1⟩; have HB1 := Lib.hid hb1; clear hb1)
        go_ret
        exact ⟨rfl, HF.out.be.trans (HB1.out.mono HF.out.be.size)⟩
      · have hrow : (rowL (ls.take k)).length ≤ 208 * k := by
          have := row_len (ls.take k) HF.out.short
          rw [List.length_take, Nat.min_eq_left hk] at this
          exact this
        have hput := fput_any wr _ x HRX.out (by omega)
        have e1 : frL x = frRaw x := by unfold frL; rw [if_pos (by omega)]
        rw [e1] at hput
        have HPUT := Lib.hid hput
        have HROW := Lib.hid hrow
        have HFX := Lib.hid (frRaw_length x)
        clear hput e1 hrow
        have HRT := Lib.hid (row_take ls k x HX.out)
        have hml : (rowL (ls.take (k + 1))).length ≤ 100000 := by rw [HRT.out, List.length_append, HFX.out]; have := HROW.out; omega
        obtain ⟨m, hm⟩ : ∃ m, (rowL (ls.take (k + 1))).length = m := ⟨_, rfl⟩
        rw [hm] at hml
        have HM := Lib.hid hm
        clear hm
        go_wp2_with (first
          | (go_at_call 11; (with_reducible refine HPUT.out.mono ?_); rintro e w1 ⟨u, rfl, hu, hb1⟩; have HU := Lib.hid hu.read; have HB1 := Lib.hid hb1; clear hu hb1)
          | (at_builtin; refine wpList_plain rfl fun K' hK' => ?_; refine wp_append_at (.tmp 32) (.tmp 37) 22 rfl 5 1 1 (.int .u8 0) Try.underlying22 info_u8 rfl (by decide) _ _ _ _ _ _ rfl rfl (own_base (OwnB.below HF.out.own HB1.out (Nat.le_refl _)) fun _ _ => Nat.zero_le _) HU.out (bv_oneCell _) (by have := HROW.out; have := HFX.out; omega) (by have := HROW.out; have := HFX.out; unfold maxLen; omega) ?_; intro xb' w2 hown hmv; refine hK' _ _ ?_; have hown2 : OwnB w2 0 5 xb' (rowL (ls.take (k + 1))) := (by rw [HRT.out]; unfold OwnB; rw [List.length_append, List.map_append]; exact hown); have HFM := Lib.hid (HF.out.mid HB1.out hown2 hmv); (obtain ⟨xa, xc, rfl⟩ := rdB_form' hown2.read); rw [HM.out] at HFM ⊢; clear hown hmv hown2 hK')
          | (at_builtin; refine wpList_plain rfl fun K' hK' => ?_; refine wp_append_at (.tmp 39) (.tmp 42) 33 rfl 3 1 8 (.int .i64 0) Try.underlying33 info_int rfl (by decide) _ _ _ 1 _ [.int .i64 (m : Int)] rfl rfl (own_base (own_kept HFM.out.ends (R := fun k => k < w2.heap.size) (Kept.of ((Below.refl _ _).alloc (Nat.le_refl _) _) fun _ h => h) fun j hj => own_lt HFM.out.ends j hj) fun _ _ => Nat.zero_le _) ⟨_, 1, rfl, Nat.le_refl _, (by unfold maxLen; omega), rfl, .inr ⟨w2.heap.size, 0, rfl, (by simp), fun j u hj => (by rw [Nat.zero_add, blk_cell (heap_alloc_new w2 _)]; simpa using hj)⟩⟩ (by intro u hu; simp at hu; subst hu; rfl) (by omega) (by unfold maxLen; omega) ?_; intro ev' w3 hown hmv; refine hK' _ _ ?_; rw [← HM.out] at hown; have HF3 := Lib.hid (HFM.out.put HX.out (by omega) HF.out.short hown hmv); clear hown hmv hK'))
        go_roundw
        case rel => exact ⟨k + 1, by omega, by go_num, HF3⟩
        case measure => simp [intOf]; omega
    · have hkn : k = ls.length := by omega
      subst hkn
      have hshort : ∀ p ∈ ls, p.length ≤ 200 := fun p hp => HF.out.short p (by rw [List.take_length]; exact hp)
      have hown := HF.out.own
      rw [List.take_length] at hown
      obtain ⟨xa, xc, rfl, hxc, _⟩ := hown.read.form
      obtain ⟨r, hr⟩ : ∃ r, rowL ls = r := ⟨_, rfl⟩
      rw [hr] at hown hxc ⊢
      have hrl : r.length ≤ 6240 := by
        have := row_len ls hshort
        rw [hr] at this
        omega
      have HR := Lib.hid hown.read
      have HE := Lib.hid HF.out.ends
      have HB := Lib.hid HF.out.be
      have HSH := Lib.hid hshort
      have HREQ := Lib.hid hr
      clear hown hr hshort HF
      have hnk : 0 ≤ cut ∧ cut ≤ 65535 := hcb
      obtain ⟨c, rfl⟩ := Int.eq_ofNat_of_zero_le hcb.1
      obtain ⟨k, hk⟩ : ∃ k, k = c % (r.length + 1) := ⟨_, rfl⟩
      have hkl : k < r.length + 1 := by rw [hk]; exact Nat.mod_lt _ (by omega)
      have hm1 : (c : Int) % ((r.length : Int) + 1) = (k : Int) := by rw [hk]; rfl
      have hm2 : (c : Int).tmod ((r.length : Int) + 1) = (k : Int) := by rw [Int.tmod_eq_emod_of_nonneg (by omega)]; exact hm1
      clear hk
      go_wp2
      go_loop [9, 10] (fun n last => ∃ (j m : Nat), j ≤ ls.length ∧ n = .int .i64 j ∧ last = .int .i64 m ∧ m ≤ k ∧ Hid ((rowL (ls.take j)).length = m)) (fun n _ => ls.length - (intOf n).toNat)
      case atStart => exact ⟨0, 0, Nat.zero_le _, rfl, rfl, Nat.zero_le _, Lib.hid rfl⟩
      case round =>
        obtain ⟨j, m, hj, rfl, rfl, hmk, HM⟩ := hrel
        by_cases hlt : j < ls.length
        · obtain ⟨g, gc, cur, rfl, hgc, _, hg, hcc, _⟩ := own_form HE.out (by omega)
          have hcell := hcc j _ (endC_at ls ls.length j hlt)
          obtain ⟨m2, hm2'⟩ : ∃ m2, (rowL (ls.take (j + 1))).length = m2 := ⟨_, rfl⟩
          rw [hm2'] at hcell
          have HM2 := Lib.hid hm2'
          clear hcc hg hm2'
          by_cases hle : m2 ≤ k
          · go_wp2
            go_round
            case rel => exact ⟨j + 1, m2, by omega, by go_num, rfl, hle, HM2⟩
            case measure => simp [intOf]; omega
          · have HGT : Hid (j < ls.length → k < (rowL (ls.take (j + 1))).length) := Lib.hid fun _ => by rw [HM2.out]; omega
            have HSC : Hid (scanL r = (ls, r.length)) := Lib.hid (by
              have := scan_row ls [] (fun p hp => by have := HSH.out p hp; omega) none_nil
              rw [List.append_nil, HREQ.out] at this
              exact this)
            have HSK : Hid (scanL (r.take k) = (ls.take j, m)) := Lib.hid (by
              have := scan_cut ls (fun p hp => by have := HSH.out p hp; omega) j k hj (by rw [HM.out]; exact hmk) HGT.out
              rw [HREQ.out, HM.out] at this
              exact this)
            have HF1 := Lib.hid (fscan_any wr _ r HR.out (by omega))
            go_wp2_with fail
            refine HF1.out.mono ?_
            unfold ScanFr
            rw [HSC.out]
            rintro e w1 ⟨v1, rfl, hv1, hb1⟩
            obtain ⟨a1, c1, rfl⟩ := own_slice hv1
            have HV1 := Lib.hid hv1.read
            have HB1 := Lib.hid (HB.out.trans (hb1.mono HB.out.size))
            have HF2 := Lib.hid (fscan_any w1 _ (r.take k) (by have := rd_prefix (HR.out.below hb1 (Nat.le_refl _)) k (by omega); exact this) (by rw [List.length_take]; omega))
            clear hv1 hb1
            go_wp2_with fail
            refine HF2.out.mono ?_
            unfold ScanFr
            rw [HSK.out]
            rintro e w2 ⟨v2, rfl, hv2, hb2⟩
            obtain ⟨a2, c2, rfl⟩ := own_slice hv2
            have hjl : (ls.take j).length = j := by rw [List.length_take]; omega
            rw [hjl] at hv2 ⊢
            have HV2 := Lib.hid hv2.read
            have HV1' := Lib.hid (HV1.out.below hb2 (Nat.le_refl _))
            have HB2 := Lib.hid (HB1.out.trans (hb2.mono HB1.out.size))
            have HA := Lib.hid (same7_any w2 _ _ ls (by omega) HV1'.out (HL.out.below HB2.out (Nat.le_refl _)))
            clear hv2 hb2
            go_wp2_with fail
            refine HA.out.mono ?_
            rintro e w3 ⟨rfl, hb3⟩
            have HB3 := Lib.hid (HB2.out.trans (hb3.mono HB2.out.size))
            have HC := Lib.hid (same7_any w3 _ _ (ls.take j) (by omega) (HV2.out.below hb3 (Nat.le_refl _)) (rdLL_prefix (HL.out.below HB3.out (Nat.le_refl _)) j hj))
            clear hb3
            clear hjl
            go_wp2_with fail
            refine HC.out.mono ?_
            rintro e w4 ⟨rfl, hb4⟩
            have HB4 := Lib.hid (HB3.out.trans (hb4.mono HB3.out.size))
            clear hb4
            go_wp2_with (go_at_call 6; refine (h7.out _).mono ?_; rintro e w5 ⟨rfl, hb5⟩; have HB5 := Lib.hid hb5; clear hb5)
            go_ret
            exact ⟨rfl, HB4.out.trans (HB5.out.mono HB4.out.size)⟩
        · have HGT : Hid (j < ls.length → k < (rowL (ls.take (j + 1))).length) := Lib.hid fun h => absurd h hlt
          obtain ⟨ea, ec, rfl, _⟩ := rd_of_own HE.out
          have HSC : Hid (scanL r = (ls, r.length)) := Lib.hid (by
            have := scan_row ls [] (fun p hp => by have := HSH.out p hp; omega) none_nil
            rw [List.append_nil, HREQ.out] at this
            exact this)
          have HSK : Hid (scanL (r.take k) = (ls.take j, m)) := Lib.hid (by
            have := scan_cut ls (fun p hp => by have := HSH.out p hp; omega) j k hj (by rw [HM.out]; exact hmk) HGT.out
            rw [HREQ.out, HM.out] at this
            exact this)
          have HF1 := Lib.hid (fscan_any wr _ r HR.out (by omega))
          go_wp2_with fail
          refine HF1.out.mono ?_
          unfold ScanFr
          rw [HSC.out]
          rintro e w1 ⟨v1, rfl, hv1, hb1⟩
          obtain ⟨a1, c1, rfl⟩ := own_slice hv1
          have HV1 := Lib.hid hv1.read
          have HB1 := Lib.hid (HB.out.trans (hb1.mono HB.out.size))
          have HF2 := Lib.hid (fscan_any w1 _ (r.take k) (by have := rd_prefix (HR.out.below hb1 (Nat.le_refl _)) k (by omega); exact this) (by rw [List.length_take]; omega))
          clear hv1 hb1
          go_wp2_with fail
          refine HF2.out.mono ?_
          unfold ScanFr
          rw [HSK.out]
          rintro e w2 ⟨v2, rfl, hv2, hb2⟩
          obtain ⟨a2, c2, rfl⟩ := own_slice hv2
          have hjl : (ls.take j).length = j := by rw [List.length_take]; omega
          rw [hjl] at hv2 ⊢
          have HV2 := Lib.hid hv2.read
          have HV1' := Lib.hid (HV1.out.below hb2 (Nat.le_refl _))
          have HB2 := Lib.hid (HB1.out.trans (hb2.mono HB1.out.size))
          have HA := Lib.hid (same7_any w2 _ _ ls (by omega) HV1'.out (HL.out.below HB2.out (Nat.le_refl _)))
          clear hv2 hb2
          go_wp2_with fail
          refine HA.out.mono ?_
          rintro e w3 ⟨rfl, hb3⟩
          have HB3 := Lib.hid (HB2.out.trans (hb3.mono HB2.out.size))
          have HC := Lib.hid (same7_any w3 _ _ (ls.take j) (by omega) (HV2.out.below hb3 (Nat.le_refl _)) (rdLL_prefix (HL.out.below HB3.out (Nat.le_refl _)) j hj))
          clear hb3
          clear hjl
          go_wp2_with fail
          refine HC.out.mono ?_
          rintro e w4 ⟨rfl, hb4⟩
          have HB4 := Lib.hid (HB3.out.trans (hb4.mono HB3.out.size))
          clear hb4
          go_wp2_with (go_at_call 6; refine (h7.out _).mono ?_; rintro e w5 ⟨rfl, hb5⟩; have HB5 := Lib.hid hb5; clear hb5)
          go_ret
          exact ⟨rfl, HB4.out.trans (HB5.out.mono HB4.out.size)⟩
end Go.Proofs.Ytlhppbogkmljbaa
