/-
  Batches as bytes: batch.putOp, batch.Put and the document's PutBatch, for every batch.
-/
import Derived.Test.YtpbmacbogmnokaaBatchMay
import Derived.Test.YtpbmacbogmnokaaRefText
namespace Go.Proofs.Ytpbmacbogmnokaa
open Go.RowKit

theorem oput_pos (n : Int) (h0 : 0 ≤ n) (h1 : n ≤ 9223372036854775807) (w : World) : Calls Try.prog 37 #[.int .i64 n] w (RetB w.heap.size w (putL n.toNat)) := by
  obtain ⟨m, rfl⟩ := Int.eq_ofNat_of_zero_le h0
  exact put_nat m h1 w

theorem orput_pos (n : Int) (h0 : 0 ≤ n) (h1 : n ≤ 9223372036854775807) (w : World) : Calls Try.prog 44 #[.int .i64 n] w (RetB w.heap.size w (putL n.toNat)) := by
  obtain ⟨m, rfl⟩ := Int.eq_ofNat_of_zero_le h0
  exact rput_nat m h1 w

theorem OwnB.mono_o {w : World} {B B' e : Nat} {v : Value} {l : List UInt8} (h : OwnB w B e v l) (hB : B' ≤ B) : OwnB w B' e v l := own_mono h hB

/-- An operation's bytes. -/
def putOpL (o : Ope) : List UInt8 := putL o.k.toNat ++ putT o.key ++ (if o.k = 1 then putT o.v.data.toList else [])

/-- A batch's bytes. -/
def putBody (s : Int) (l : List Ope) : List UInt8 := putL s.toNat ++ putL l.length ++ l.flatMap putOpL

/-- .. none, if it may not be. -/
def putBat (s : Int) (l : List Ope) : List UInt8 := if mayBt s l = true then putBody s l else []

theorem putT_len (s : ByteArray) (h : s.size ≤ 1000) : (putT s.data.toList).length ≤ 1010 := by
  have := putL_length s.size (by omega)
  unfold putT
  rw [List.length_append, ostr_len]
  omega

theorem putOpL_len {o : Ope} (h : mayO o = 0) : (putOpL o).length ≤ 3000 := by
  obtain ⟨h1, h2, h3, _⟩ := mayO_zero h
  have a := putL_length o.k.toNat (by omega)
  have b : (putT o.key).length ≤ 1010 := putT_len o.u (by omega)
  have c := putT_len o.v (by omega)
  unfold putOpL
  rw [List.length_append, List.length_append]
  split
  · omega
  · simp only [List.length_nil]; omega

theorem putOps_len : ∀ {l : List Ope}, (∀ o ∈ l, mayO o = 0) → (l.flatMap putOpL).length ≤ 3000 * l.length
  | [], _ => by simp
  | o :: r, h => by
    have h1 := putOpL_len (h o (by simp))
    have h2 := putOps_len (l := r) fun x hx => h x (by simp [hx])
    rw [List.flatMap_cons, List.length_append, List.length_cons]
    omega

theorem putOps_take_len {l : List Ope} (h : ∀ o ∈ l, mayO o = 0) (h2 : l.length ≤ 32) (k : Nat) : ((l.take k).flatMap putOpL).length ≤ 96000 := by
  have h3 := putOps_len (l := l.take k) fun o ho => h o (List.mem_of_mem_take ho)
  have h4 : (l.take k).length ≤ 32 := Nat.le_trans (List.length_take_le' _ _) h2
  omega

theorem putOps_more {l : List Ope} {k : Nat} (hk : k < l.length) : (l.take (k + 1)).flatMap putOpL = (l.take k).flatMap putOpL ++ putOpL (l.getD k Ope.none_) := by
  rw [List.take_succ_eq_append_getElem hk, List.flatMap_append]
  simp [List.getD, hk]

set_option maxRecDepth 100000 in
set_option maxHeartbeats 1000000 in
theorem putOp_any (o : Ope) (h : mayO o = 0) (w : World) : Calls Try.prog 38 #[o.val] w (RetB w.heap.size w (putOpL o)) := by
  obtain ⟨hk, hu, hv, _⟩ := mayO_zero h
  have HR : Hid (putOpL o = putL o.k.toNat ++ putT o.key ++ (if o.k = 1 then putT o.v.data.toList else [])) := Lib.hid rfl
  have HLP := Lib.hid (putL_length o.k.toNat (by omega))
  have HLT := Lib.hid (putT_len o.u (by omega))
  have HLV := Lib.hid (putT_len o.v (by omega))
  clear h
  obtain ⟨k, u, v⟩ := o
  simp only at hk hu hv
  obtain ⟨w1, hw1⟩ : ∃ w1, w1 = w.alloc (.cells #[.int .i64 k, .string u, .string v] 43) := ⟨_, rfl⟩
  have d0 : w1.cell? ⟨w.heap.size, 0, none⟩ = some (.int .i64 k) := by rw [hw1]; go_simp
  have d1 : w1.cell? ⟨w.heap.size, 1, none⟩ = some (.string u) := by rw [hw1]; go_simp
  have d2 : w1.cell? ⟨w.heap.size, 2, none⟩ = some (.string v) := by rw [hw1]; go_simp
  have hB : Below w.heap.size w w1 := by rw [hw1]; exact (Below.refl _ _).alloc (Nat.le_refl _) _
  have hlt : w.heap.size < w1.heap.size := by rw [hw1]; simp
  have HW1 := Lib.hid hw1
  clear hw1
  go_enter Try.func38, Try.ntmps38
  go_upto_region 1 with (fail)
  rw [← HW1.out]
  clear HW1
  refine wp_region_plan [(true, 0), (true, 1), (true, 3), (true, 4), (false, 2), (false, 5), (false, 6), (true, 7)] (by kernel_rfl) (by kernel_rfl) (by kernel_rfl) (by kernel_rfl) (by kernel_rfl) ?_
  simp only [planO, List.drop_succ_cons, List.drop_zero]
  refine PlanO.take (v := ?v0) (by kernel_rfl) ?y0 ?r0
  case y0 => (intro wz hz; go_simp; try with_reducible rfl)
  (try simp only [Act.put, List.setIfInBounds_toArray, List.set_cons_zero, List.set_cons_succ])
  refine PlanO.take (v := ?v1) (by kernel_rfl) ?y1 ?r1
  case y1 => (intro wz hz; have c0 := Ext.at_ hz d0; have c1 := Ext.at_ hz d1; have c2 := Ext.at_ hz d2; go_simp; try with_reducible rfl)
  (try simp only [Act.put, List.setIfInBounds_toArray, List.set_cons_zero, List.set_cons_succ])
  refine PlanO.take (v := ?v3) (by kernel_rfl) ?y3 ?r3
  case y3 => (intro wz hz; go_simp; try with_reducible rfl)
  (try simp only [Act.put, List.setIfInBounds_toArray, List.set_cons_zero, List.set_cons_succ])
  refine PlanO.take (v := ?v4) (by kernel_rfl) ?y4 ?r4
  case y4 => (intro wz hz; have c0 := Ext.at_ hz d0; have c1 := Ext.at_ hz d1; have c2 := Ext.at_ hz d2; go_simp; try with_reducible rfl)
  (try simp only [Act.put, List.setIfInBounds_toArray, List.set_cons_zero, List.set_cons_succ])
  refine PlanO.keep (fun K hK => ?_)
  go_simp
  go_at_call 37
  refine (oput_pos _ (by omega) (by omega) _).mono ?_
  rintro e u1 ⟨p1, rfl, ho1, hb1⟩
  have hE1 : Ext w1.drew u1 := hb1
  go_wp2_with fail
  refine hK.out _ _ hb1 ?_
  clear hK K
  (try simp only [Act.put, List.setIfInBounds_toArray, List.set_cons_zero, List.set_cons_succ])
  refine PlanO.keep (fun K hK => ?_)
  go_simp
  go_at_call 53
  refine (putText_any u (by omega) _).mono ?_
  rintro e u2 ⟨p2, rfl, ho2, hb2⟩
  have hr2 := ho2.read
  clear ho2
  have hE2 : Ext w1.drew u2 := Ext.trans hE1 hb2
  have ho1' := ho1.below hb2 (Nat.le_refl _)
  clear ho1
  go_wp2_with fail
  refine hK.out _ _ (hb2.mono hE1.size) ?_
  clear hK K
  (try simp only [Act.put, List.setIfInBounds_toArray, List.set_cons_zero, List.set_cons_succ])
  refine PlanO.keep (fun K hK => ?_)
  refine step_append_bytes rfl (.tmp 6) (.tmp 9) 27 rfl w1.drew.heap.size 5 Try.underlying27 info_u8 _ _ _ _ rfl rfl ho1' hr2 ?b1 ?b2 ?_
  case b1 => exact hE2.size
  case b2 => have := HLT.out; have := HLP.out; omega
  intro v' w' hown' hb'
  have hE3 : Ext w1.drew w' := hb' _ _ (Nat.le_refl _) hE2
  refine hK.out _ _ (hb' _ _ (Nat.le_refl _) (Below.refl _ _)) ?_
  clear hK K
  (try simp only [Act.put, List.setIfInBounds_toArray, List.set_cons_zero, List.set_cons_succ])
  refine PlanO.take (v := ?v7) (by kernel_rfl) ?y7 ?r7
  case y7 => (intro wz hz; go_simp; try with_reducible rfl)
  (try simp only [Act.put, List.setIfInBounds_toArray, List.set_cons_zero, List.set_cons_succ])
  refine PlanO.done (NoPanic.normal ?_)
  have HB := Lib.hid hB
  have HE3 := Lib.hid hE3
  have HO := Lib.hid hown'
  have hb3 := below_draw hE3
  have k0 := (hb3.cell (p := ⟨w.heap.size, 0, none⟩) hlt).trans d0
  have k2 := (hb3.cell (p := ⟨w.heap.size, 2, none⟩) hlt).trans d2
  have HB3 := Lib.hid hb3
  clear hB hE3 hown' hb3 hb1 hb2 hE1 hE2 ho1' hr2 hb' d0 d1 d2
  rcases ope_ways k with rfl | rfl | ⟨_, _, _, h4, h5⟩
  · go_wp2_with (first | (go_at_call 53; refine (putText_any v (by omega) _).mono ?_; rintro e u3 ⟨p3, rfl, ho3, hb3⟩; have HO3 := Lib.hid ho3.read; have HOW := Lib.hid (HO.out.below hb3 (Nat.le_refl _)); have HB4 := Lib.hid hb3; clear ho3 hb3) | (at_builtin; refine wpList_append_bytes rfl (.tmp 14) (.tmp 17) 27 rfl w1.drew.heap.size 5 Try.underlying27 info_u8 _ _ _ _ rfl rfl HOW.out HO3.out ?c1 ?c2 ?c3))
    case c1 => exact Nat.le_trans HE3.out.size HB4.out.size
    case c2 => (rw [List.length_append]; have := HLT.out; have := HLP.out; have := HLV.out; omega)
    case c3 =>
      intro vA wA hown hBk
      have hb := hBk w1.heap.size w1 (Nat.le_refl _) (HB3.out.trans (HB4.out.mono HB3.out.size))
      have HOA := Lib.hid hown
      have HBA := Lib.hid hb
      clear hown hBk hb
      go_wp2
      go_ret
      exact ⟨_, rfl, by have := HOA.out.mono_o HB.out.size; rw [HR.out]; simpa using this, HB.out.trans (HBA.out.mono HB.out.size)⟩
  · go_wp2
    go_ret
    exact ⟨_, rfl, by rw [HR.out]; simp only [show ¬ (2 : Int) = 1 by decide, if_false, List.append_nil]; exact HO.out.mono_o HB.out.size, HB.out.trans (HB3.out.mono HB.out.size)⟩
  · omega

set_option maxRecDepth 100000 in
set_option maxHeartbeats 4000000 in
theorem bput_any (s : Int) (v : Value) (l : List Ope) (w : World) (hv : RdO w v l) (hn : l.length ≤ 100000) :
    Calls Try.prog 22 #[batV s v] w (RetB w.heap.size w (putBat s l)) := by
  obtain ⟨a, cap, rfl, hc1, hc2⟩ := hv.form
  obtain ⟨wB, hwB⟩ : ∃ wB, wB = w.alloc (.cells #[.int .i64 s, .slice a l.length cap] 24) := ⟨_, rfl⟩
  have e0 : wB.cell? ⟨w.heap.size, 0, none⟩ = some (.int .i64 s) := by rw [hwB]; go_simp
  have e1 : wB.cell? ⟨w.heap.size, 1, none⟩ = some (.slice a l.length cap) := by rw [hwB]; go_simp
  have hB : Below w.heap.size w wB := by rw [hwB]; exact (Below.refl _ _).alloc (Nat.le_refl _) _
  have hlt : w.heap.size < wB.heap.size := by rw [hwB]; simp
  have hmay := bmayB_any s (.slice a l.length cap) l wB (hv.below hB (Nat.le_refl _)) hn
  have HWB := Lib.hid hwB
  have HB := Lib.hid hB
  have HV := Lib.hid hv
  clear hB hv hwB
  cases hm : mayBt s l with
  | false =>
    rw [hm] at hmay
    have HM := Lib.hid hmay
    have HR : Hid (putBat s l = []) := Lib.hid (by unfold putBat; rw [hm]; rfl)
    clear hmay hm
    go_enter Try.func22, Try.ntmps22
    go_wp2_with (go_at_call 36; rw [← HWB.out]; refine HM.out.mono ?_; rintro e w1 ⟨rfl, hb⟩)
    go_ret
    exact ⟨_, rfl, by rw [HR.out]; exact OwnB.nil _ _ _, HB.out.trans (hb.mono HB.out.size)⟩
  | true =>
    rw [hm] at hmay
    have HM := Lib.hid hmay
    have HR : Hid (putBat s l = putL s.toNat ++ putL l.length ++ l.flatMap putOpL) := Lib.hid (by unfold putBat; rw [hm]; rfl)
    obtain ⟨hs1, hs2, hmo, _⟩ := mayBt_true hm
    obtain ⟨hl1, hl2, hall⟩ := mayOs_zero hmo
    have HALL := Lib.hid hall
    have HLS := Lib.hid (putL_length s.toNat (by omega))
    have HLN := Lib.hid (putL_length l.length (by omega))
    have hpl : ((l.length : Int)).toNat = l.length := by simp
    clear hmay hm hmo hall
    go_enter Try.func22, Try.ntmps22
    go_upto_region 3 with (go_at_call 36; rw [← HWB.out]; refine HM.out.mono ?_; rintro e w1 ⟨rfl, hb⟩)
    have hb1' := hb
    replace e0 := (hb.cell (p := ⟨w.heap.size, 0, none⟩) hlt).trans e0
    replace e1 := (hb.cell (p := ⟨w.heap.size, 1, none⟩) hlt).trans e1
    have HLT1 : Hid (w.heap.size < w1.heap.size) := Lib.hid (Nat.lt_of_lt_of_le hlt hb.size)
    have HBW := Lib.hid (HB.out.trans (hb.mono HB.out.size))
    have HV1 := Lib.hid (HV.out.below HBW.out (Nat.le_refl _))
    clear hb hb1' hlt
    refine wp_region_plan [(true, 0), (true, 1), (true, 3), (true, 4), (true, 5), (false, 2), (false, 6), (false, 7), (true, 8)] (by kernel_rfl) (by kernel_rfl) (by kernel_rfl) (by kernel_rfl) (by kernel_rfl) ?_
    simp only [planO, List.drop_succ_cons, List.drop_zero]
    refine PlanO.take (v := ?v0) (by kernel_rfl) ?y0 ?r0
    case y0 => (intro wz hz; go_simp; try with_reducible rfl)
    (try simp only [Act.put, List.setIfInBounds_toArray, List.set_cons_zero, List.set_cons_succ])
    refine PlanO.take (v := ?v1) (by kernel_rfl) ?y1 ?r1
    case y1 => (intro wz hz; have c0 := Ext.at_ hz e0; have c1 := Ext.at_ hz e1; go_simp; try with_reducible rfl)
    (try simp only [Act.put, List.setIfInBounds_toArray, List.set_cons_zero, List.set_cons_succ])
    refine PlanO.take (v := ?v3) (by kernel_rfl) ?y3 ?r3
    case y3 => (intro wz hz; go_simp; try with_reducible rfl)
    (try simp only [Act.put, List.setIfInBounds_toArray, List.set_cons_zero, List.set_cons_succ])
    refine PlanO.take (v := ?v4) (by kernel_rfl) ?y4 ?r4
    case y4 => (intro wz hz; have c0 := Ext.at_ hz e0; have c1 := Ext.at_ hz e1; go_simp; try with_reducible rfl)
    (try simp only [Act.put, List.setIfInBounds_toArray, List.set_cons_zero, List.set_cons_succ])
    refine PlanO.take (v := ?v5) (by kernel_rfl) ?y5 ?r5
    case y5 => (intro wz hz; have c0 := Ext.at_ hz e0; have c1 := Ext.at_ hz e1; go_simp; try with_reducible rfl)
    (try simp only [Act.put, List.setIfInBounds_toArray, List.set_cons_zero, List.set_cons_succ])
    refine PlanO.keep (fun K hK => ?_)
    go_simp
    go_at_call 37
    refine (oput_pos _ (by omega) (by omega) _).mono ?_
    rintro e u1 ⟨p1, rfl, ho1, hb1⟩
    have hE1 : Ext w1.drew u1 := hb1
    go_wp2_with fail
    refine hK.out _ _ hb1 ?_
    clear hK K
    (try simp only [Act.put, List.setIfInBounds_toArray, List.set_cons_zero, List.set_cons_succ])
    refine PlanO.keep (fun K hK => ?_)
    go_simp
    go_at_call 37
    refine (oput_pos _ (by omega) (by omega) _).mono ?_
    rintro e u2 ⟨p2, rfl, ho2, hb2⟩
    have hr2 := ho2.read
    clear ho2
    have hE2 : Ext w1.drew u2 := Ext.trans hE1 hb2
    have ho1' := ho1.below hb2 (Nat.le_refl _)
    clear ho1
    go_wp2_with fail
    refine hK.out _ _ (hb2.mono hE1.size) ?_
    clear hK K
    (try simp only [Act.put, List.setIfInBounds_toArray, List.set_cons_zero, List.set_cons_succ])
    refine PlanO.keep (fun K hK => ?_)
    refine step_append_bytes rfl (.tmp 11) (.tmp 15) 27 rfl w1.drew.heap.size 5 Try.underlying27 info_u8 _ _ _ _ rfl rfl ho1' hr2 ?b1 ?b2 ?_
    case b1 => exact hE2.size
    case b2 => (rw [hpl]; have := HLS.out; have := HLN.out; omega)
    intro v' w' hown' hb'
    have hE3 : Ext w1.drew w' := hb' _ _ (Nat.le_refl _) hE2
    refine hK.out _ _ (hb' _ _ (Nat.le_refl _) (Below.refl _ _)) ?_
    clear hK K
    (try simp only [Act.put, List.setIfInBounds_toArray, List.set_cons_zero, List.set_cons_succ])
    refine PlanO.take (v := ?v8) (by kernel_rfl) ?y8 ?r8
    case y8 => (intro wz hz; go_simp; try with_reducible rfl)
    (try simp only [Act.put, List.setIfInBounds_toArray, List.set_cons_zero, List.set_cons_succ])
    refine PlanO.done (NoPanic.normal ?_)
    rw [hpl] at hown'
    have HO := Lib.hid hown'
    have HB3 := Lib.hid (below_draw hE3)
    have k1 := (HB3.out.cell (p := ⟨w.heap.size, 1, none⟩) HLT1.out).trans e1
    have k0 := (HB3.out.cell (p := ⟨w.heap.size, 0, none⟩) HLT1.out).trans e0
    clear hE3 hown' hb1 hb2 hE1 hE2 ho1' hr2 hb' hpl
    go_wp2
    go_loopw [3, 20] (fun u i wr => ∃ (k : Nat) (u' : Value), k ≤ l.length ∧ u' = u ∧ i = .int .i64 k ∧ OwnB wr w1.drew.heap.size 5 u' (putL s.toNat ++ putL l.length ++ (l.take k).flatMap putOpL) ∧ Below w1.heap.size w1 wr) (fun _ i _ => l.length - (intOf i).toNat)
    case atStart => exact ⟨0, _, Nat.zero_le _, rfl, rfl, by simpa using HO.out, HB3.out⟩
    case round =>
      obtain ⟨k, u, hk, rfl, rfl, hu, hbl⟩ := hrel
      have HU := Lib.hid hu
      have HBL := Lib.hid hbl
      clear hu hbl
      by_cases hlt : k < l.length
      · obtain ⟨b, off, rfl, hbw, hcells⟩ := HV1.out.at_ (by intro h; subst h; simp at hlt)
        obtain ⟨d0, d1, d2⟩ := hcells k hlt
        have g0 := (HBL.out.cell (p := ⟨b, off + k * 3, none⟩) hbw).trans d0
        have g1 := (HBL.out.cell (p := ⟨b, off + k * 3 + 1, none⟩) hbw).trans d1
        have g2 := (HBL.out.cell (p := ⟨b, off + k * 3 + 2, none⟩) hbw).trans d2
        have HMORE := Lib.hid (putOps_more hlt)
        have HTL := Lib.hid (putOps_take_len HALL.out hl2 k)
        have HMO : Hid (mayO (l.getD k Ope.none_) = 0) := Lib.hid (HALL.out _ (List.mem_of_getElem? (opGet hlt)))
        have HOL := Lib.hid (putOpL_len HMO.out)
        have HK12 := Lib.hid (mayO_zero HMO.out)
        clear d0 d1 d2 hcells
        generalize l.getD k Ope.none_ = o at *
        go_wp2_with (first | (go_at_call 38; refine (putOp_any o HMO.out _).mono ?_; rintro e u3 ⟨p3, rfl, ho3, hb3⟩; have HO3 := Lib.hid ho3.read; have HOW := Lib.hid (OwnB.below (World.ownsRow.alloc HU.out _) hb3 (Nat.le_refl _)); have HB4 := Lib.hid (((Below.refl _ _).alloc (Nat.le_refl _) _).trans (hb3.mono (by simp))); clear ho3 hb3) | (at_builtin; refine wpList_append_bytes rfl (.tmp 24) (.tmp 26) 27 rfl w1.drew.heap.size 5 Try.underlying27 info_u8 _ _ _ _ rfl rfl HOW.out HO3.out ?c1 ?c2 ?c3))
        case c1 => exact Nat.le_trans HBL.out.size HB4.out.size
        case c2 => (have := HTL.out; have := HOL.out; have := HLS.out; have := HLN.out; simp only [List.length_append]; omega)
        case c3 =>
          intro vA wA hown hBk
          have hb := hBk w1.heap.size w1 (Nat.le_refl _) (HBL.out.trans (HB4.out.mono HBL.out.size))
          have HOA := Lib.hid hown
          have HBA := Lib.hid hb
          clear hown hBk hb
          go_wp2
          refine ⟨⟨k + 1, vA, by omega, rfl, by go_num, ?_, HBA.out⟩, ?_⟩
          · rw [HMORE.out]; simpa using HOA.out
          · simp [intOf]; omega

      · obtain rfl : k = l.length := by omega
        have f0 := (HBL.out.cell (p := ⟨w.heap.size, 0, none⟩) HLT1.out).trans e0
        have f1 := (HBL.out.cell (p := ⟨w.heap.size, 1, none⟩) HLT1.out).trans e1
        go_wp2
        go_ret
        refine ⟨_, rfl, ?_, HBW.out.trans (HBL.out.mono HBW.out.size)⟩
        have hu := HU.out
        rw [List.take_length] at hu
        rw [HR.out]
        exact hu.mono_o HBW.out.size
end Go.Proofs.Ytpbmacbogmnokaa
