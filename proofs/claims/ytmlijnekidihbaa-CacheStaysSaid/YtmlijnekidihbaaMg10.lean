import Derived.Test.YtmlijnekidihbaaMg09
import Derived.Deep.Cut
import Derived.Test.YtmlijnekidihbaaTwo

/-
  A cache's Get.
-/
namespace Go.Proofs.Ytmlijnekidihbaa
open Go.RowKit

theorem eqc_nil (w : World) : (binOp .eql 24 (.pointer none) (.pointer none)).run Try.prog w = .ok (.bool true) w := by kernel_rfl
theorem eqc_some (w : World) (a : Addr) : (binOp .eql 24 (.pointer (some a)) (.pointer none)).run Try.prog w = .ok (.bool false) w := by kernel_rfl

set_option maxRecDepth 100000 in
theorem cnget_any (w : World) (nm : ByteArray) (pc : Int) : Calls Try.prog 11 #[.pointer none, .string nm, .int .i64 pc] w fun e w' => e = .returned (.tuple #[.slice none 0 0, .bool false]) ∧ Below w.heap.size w w' := by
  have hq := eqc_nil
  go_enter Try.func11, Try.ntmps11
  go_wp2
  go_ret2
  exact ⟨rfl, Below.refl _ _⟩
set_option maxRecDepth 100000 in
theorem cnlen_any (w : World) : Calls Try.prog 15 #[.pointer none] w fun e w' => e = .returned (.int .i64 0) ∧ Below w.heap.size w w' := by
  have hq := eqc_nil
  go_enter Try.func15, Try.ntmps15
  go_wp2
  go_ret
  exact ⟨rfl, Below.refl _ _⟩

/-- What Get tells, and leaves. -/
def GotC (g : Gh) (w : World) (q p : Nat) (d : PD) (n : Nat) (l : List Sl) (turn : Int) (nm : ByteArray) (pc : Int) (e : Ending) (w' : World) : Prop :=
  ∃ (x : Value) (l' : List Sl) (turn' : Int), e = .returned (.tuple #[x, .bool (lookC (tellD d l) (nm, pc)).isSome]) ∧ RdB w' x (tellC (lookC (tellD d l) (nm, pc))) ∧ (∀ j, x.ownBlock = some j → w.heap.size ≤ j) ∧ CS g w' q p d n l' turn' ∧ CSt q g g w w' ∧ turn ≤ turn' ∧ turn' ≤ turn + 1 ∧ (l' = l ∨ ∃ m s, l[m]? = some s ∧ s.kind = 1 ∧ l' = l.set m { s with last := turn' })

set_option maxRecDepth 100000 in
set_option maxHeartbeats 4000000 in
set_option linter.unusedSimpArgs false in
theorem cget_at {g : Gh} {w : World} {q p n : Nat} {d : PD} {l : List Sl} {turn : Int} (h : CS g w q p d n l turn) (hi : CI d n l) (hsm : Small d) (ht0 : 0 ≤ turn) (ht1 : turn ≤ 1000) (nm : ByteArray) (pc : Int) :
    Calls Try.prog 11 #[.pointer (some ⟨q, 0, none⟩), .string nm, .int .i64 pc] w (GotC g w q p d n l turn nm pc) := by
  have hq := eqc_some
  have hzl := zero_label
  obtain ⟨w1, hw1⟩ : ∃ w1, w1 = w.alloc (.cells #[.string nm, .int .i64 pc] 47) := ⟨_, rfl⟩
  have hb1 : Below w.heap.size w w1 := by subst hw1; exact (Below.refl _ _).alloc (Nat.le_refl _) _
  have hh1 : w1.heap[w.heap.size]? = some (.cells #[.string nm, .int .i64 pc] 47 (0, 0)) := by subst hw1; exact heap_alloc_new w _
  have c0 : w1.cell? ⟨w.heap.size, 0, none⟩ = some (.string nm) := blk_cell hh1
  have c1 : w1.cell? ⟨w.heap.size, 1, none⟩ = some (.int .i64 pc) := blk_cell hh1
  have HF := Lib.hid (cfind_any (h.below hb1).ca nm pc)
  have HW := Lib.hid hw1
  have HB1 := Lib.hid hb1
  have HH1 := Lib.hid hh1
  have HC := Lib.hid h
  have HI := Lib.hid hi
  have HSM := Lib.hid hsm
  have hqlt := h.lt
  clear hw1 hb1 hh1 h hi hsm
  go_enter Try.func11, Try.ntmps11
  go_wp2_with fail
  rw [← HW.out]
  go_wp2_with fail
  refine HF.out.mono ?_
  rintro e w2 ⟨r, rfl, hr, hb2⟩
  have HB2 := Lib.hid (HB1.out.trans (hb2.mono HB1.out.size))
  have HH2 := Lib.hid (show w2.heap[w.heap.size]? = some (.cells #[.string nm, .int .i64 pc] 47 (0, 0)) from (hb2.block _ (blk_lt HH1.out)).trans HH1.out)
  clear hb2 c0 c1
  rcases hr with ⟨rfl, hno⟩ | ⟨m, s, hm, hm64, rfl, hs⟩
  · have hl : lookC (tellD d l) (nm, pc) = none := by
      unfold tellD
      cases d.down with
      | true => rfl
      | false => exact clook_none _ _ _ _ hno
    have HL := Lib.hid hl
    clear hno hl
    go_wp2_with fail
    go_ret2
    exact ⟨_, l, turn, by rw [HL.out]; rfl, by rw [HL.out]; exact Rd.nil _ _, fun j hj => (by cases hj), HC.out.below HB2.out, CSt.below HB2.out, by omega, by omega, .inl rfl⟩
  · have hrd := cread_any ((HC.out.below HB2.out).da) HSM.out (HC.out.below HB2.out).ca.ptr (HC.out.below HB2.out).lt m hm64
    have hmn : ¬ ((m : Int) < 0) := by omega
    have hm64i : (m : Int) < 64 := by omega
    cases hdn : d.down with
    | true =>
      have hl : lookC (tellD d l) (nm, pc) = none := by unfold tellD; rw [hdn]; rfl
      have HL := Lib.hid hl
      have hrd2 : Calls Try.prog 17 #[.pointer (some ⟨q, 0, none⟩), .int .i64 (m : Int)] w2 (ReadNo w2) := by
        refine hrd.mono ?_
        rintro e w' (⟨nm', pc', b, v, hh, _⟩ | ⟨_, h1⟩)
        · have := has_head hh
          rw [cFile_cur, hdn] at this
          simp at this
        · exact h1
      have HRD := Lib.hid hrd2
      have HDN : Hid (∀ wz, Below w.heap.size w wz → Calls Try.prog 20 #[.pointer (some ⟨p, 0, none⟩)] wz fun e w' => e = .returned (.bool true) ∧ wz = w') := Lib.hid fun wz hz => by
        have := down_any wz p d.down (blk_cell ((HC.out.below hz).da).blk)
        rw [hdn] at this
        exact this
      have HP : Hid (∀ wz, Below w.heap.size w wz → wz.cell? ⟨q, 0, none⟩ = some (.pointer (some ⟨p, 0, none⟩))) := Lib.hid fun wz hz => (HC.out.below hz).ca.ptr
      clear hrd hrd2 hl hdn hm hs
      go_wp2_with fail
      have l0 : w2.cell? ⟨w.heap.size, 0, none⟩ = some (.string nm) := blk_cell HH2.out
      have l1 : w2.cell? ⟨w.heap.size, 1, none⟩ = some (.int .i64 pc) := blk_cell HH2.out
      refine HRD.out.mono ?_
      rintro e w3 ⟨rfl, hb3⟩
      have HB3 := Lib.hid (HB2.out.trans (hb3.mono HB2.out.size))
      have HB4 : Hid (Below w.heap.size w (w3.alloc (.cells #[.string ⟨#[]⟩, .int .i64 0] 47))) := Lib.hid (HB3.out.alloc HB3.out.size _)
      have cp := HP.out _ HB4.out
      clear hb3 l0 l1
      go_wp2_with (go_at_call 20; refine (HDN.out _ HB4.out).mono ?_; rintro e w5 ⟨rfl, rfl⟩)
      go_ret2
      exact ⟨_, l, turn, by rw [HL.out]; rfl, by rw [HL.out]; exact Rd.nil _ _, fun j hj => (by cases hj), HC.out.below HB4.out, CSt.below HB4.out, by omega, by omega, .inl rfl⟩
    | false =>
      obtain ⟨b, hb, hl⟩ := HI.out.tells hdn hm hs
      have HL := Lib.hid hl
      have hrd2 : Calls Try.prog 17 #[.pointer (some ⟨q, 0, none⟩), .int .i64 (m : Int)] w2 fun e w' => ∃ v, e = .returned (.tuple #[labV nm pc, v, .bool true]) ∧ RdB w' v b ∧ (∀ j, v.ownBlock = some j → w2.heap.size ≤ j) ∧ Below w2.heap.size w2 w' := by
        refine hrd.mono ?_
        rintro e w' (⟨nm', pc', b', v, hh, h1, h2, h3, h4⟩ | ⟨h1, _⟩)
        · obtain ⟨rfl, rfl, rfl⟩ := has_one hh hb
          exact ⟨v, h1, h2, h3, h4⟩
        · exact absurd hb (h1 _ _ _)
      have HRD := Lib.hid hrd2
      have HS := Lib.hid hm
      have hk1 := (isL_facts hs).1
      have HK := Lib.hid hk1
      clear hrd hrd2 hl hdn hm hs hb hk1
      go_wp2_with fail
      refine HRD.out.mono ?_
      rintro e w3 ⟨v, rfl, hv, hvo, hb3⟩
      obtain ⟨va, vc, rfl, _, _⟩ := RdB.form hv
      have HB3 := Lib.hid (HB2.out.trans (hb3.mono HB2.out.size))
      have HH3 := Lib.hid (show w3.heap[w.heap.size]? = some (.cells #[.string nm, .int .i64 pc] 47 (0, 0)) from (hb3.block _ (blk_lt HH2.out)).trans HH2.out)
      obtain ⟨w4, hw4⟩ : ∃ w4, w4 = w3.alloc (.cells #[.string nm, .int .i64 pc] 47) := ⟨_, rfl⟩
      have hb4 : Below w3.heap.size w3 w4 := by subst hw4; exact (Below.refl _ _).alloc (Nat.le_refl _) _
      have hh4 : w4.heap[w3.heap.size]? = some (.cells #[.string nm, .int .i64 pc] 47 (0, 0)) := by subst hw4; exact heap_alloc_new w3 _
      have HB4 := Lib.hid (HB3.out.trans (hb4.mono HB3.out.size))
      have HV4 := Lib.hid (hv.below hb4 (Nat.le_refl _))
      have HVO := Lib.hid (show ∀ j, (Value.slice va b.length vc).ownBlock = some j → w.heap.size ≤ j from fun j hj => Nat.le_trans HB2.out.size (hvo j hj))
      have HW4 := Lib.hid hw4
      have l0 : (w3.alloc (.cells #[.string nm, .int .i64 pc] 47)).cell? ⟨w.heap.size, 0, none⟩ = some (.string nm) := hw4 ▸ blk_cell ((hb4.block _ (blk_lt HH3.out)).trans HH3.out)
      have l1 : (w3.alloc (.cells #[.string nm, .int .i64 pc] 47)).cell? ⟨w.heap.size, 1, none⟩ = some (.int .i64 pc) := hw4 ▸ blk_cell ((hb4.block _ (blk_lt HH3.out)).trans HH3.out)
      have m0 : (w3.alloc (.cells #[.string nm, .int .i64 pc] 47)).cell? ⟨w3.heap.size, 0, none⟩ = some (.string nm) := hw4 ▸ blk_cell hh4
      have m1 : (w3.alloc (.cells #[.string nm, .int .i64 pc] 47)).cell? ⟨w3.heap.size, 1, none⟩ = some (.int .i64 pc) := hw4 ▸ blk_cell hh4
      have hC4 := HC.out.below HB4.out
      have ct : (w3.alloc (.cells #[.string nm, .int .i64 pc] 47)).cell? ⟨q, 258, none⟩ = some (.int .i64 turn) := hw4 ▸ hC4.ca.turnc
      have ft : (w3.alloc (.cells #[.string nm, .int .i64 pc] 47)).frozen? ⟨q, 258, none⟩ = false := hw4 ▸ hC4.ca.free 258
      have HC4 := Lib.hid hC4
      obtain ⟨w5, hw5⟩ : ∃ w5, w5 = w4.setCell ⟨q, 258, none⟩ (.int .i64 (turn + 1)) := ⟨_, rfl⟩
      have HW5 := Lib.hid hw5
      have hC5 : CS g w5 q p d n l (turn + 1) := by rw [hw5]; exact hC4.set_turn (turn + 1)
      have HC5 := Lib.hid hC5
      have CT5 : Hid (w5.cell? ⟨q, 258, none⟩ = some (.int .i64 (turn + 1))) := Lib.hid hC5.ca.turnc
      have F5 : Hid (w5.frozen? ⟨q, 2 + m * 4 + 3, none⟩ = false) := Lib.hid (hC5.ca.free _)
      have E5 : Hid (w5.cell? ⟨q, 2 + m * 4 + 3, none⟩ = some (.int .i64 s.last)) := Lib.hid (hC5.ca.four HS.out).2.2.2
      have hwr : wrap64 (turn + 1) = turn + 1 := IntWalk.wrap64_in _ (by omega)
      clear hv hvo hb3 hb4 hh4 hw4 hw5 hC4 hC5
      go_wp2_with fail
      rw [← HW4.out, ← HW5.out]
      have f5 := F5.out
      have e5 := E5.out
      have f5d : w5.drew.frozen? ⟨q, 2 + m * 4 + 3, none⟩ = false := F5.out
      have e5d : w5.drew.cell? ⟨q, 2 + m * 4 + 3, none⟩ = some (.int .i64 s.last) := E5.out
      refine wp_region_two (fun wz => Below w5.drew.heap.size w5.drew wz) (fun _ => True) [(0, 0), (0, 1), (0, 2), (0, 3), (0, 4), (0, 5), (0, 6), (0, 7), (0, 8), (0, 9), (3, 10)] [10] (by kernel_rfl) (by kernel_rfl) (by kernel_rfl) (by kernel_rfl) (by kernel_rfl) (Below.refl _ _) trivial ?_
      simp only [planT, List.drop_succ_cons, List.drop_zero]
      refine PlanT.take0 (v := ?vg0) (by kernel_rfl) ?yg0 ?rg0
      case yg0 => (intro wz hz; go_simp; try with_reducible rfl)
      (try simp only [Act.put, List.setIfInBounds_toArray, List.set_cons_zero, List.set_cons_succ])
      refine PlanT.take0 (v := ?vg1) (by kernel_rfl) ?yg1 ?rg1
      case yg1 => (intro wz hz; go_simp; try with_reducible rfl)
      (try simp only [Act.put, List.setIfInBounds_toArray, List.set_cons_zero, List.set_cons_succ])
      refine PlanT.take0 (v := ?vg2) (by kernel_rfl) ?yg2 ?rg2
      case yg2 => (intro wz hz; go_simp; try with_reducible rfl)
      (try simp only [Act.put, List.setIfInBounds_toArray, List.set_cons_zero, List.set_cons_succ])
      refine PlanT.take0 (v := ?vg3) (by kernel_rfl) ?yg3 ?rg3
      case yg3 => (intro wz hz; go_simp; try with_reducible rfl)
      (try simp only [Act.put, List.setIfInBounds_toArray, List.set_cons_zero, List.set_cons_succ])
      refine PlanT.take0 (v := ?vg4) (by kernel_rfl) ?yg4 ?rg4
      case yg4 => (intro wz hz; go_simp; try with_reducible rfl)
      (try simp only [Act.put, List.setIfInBounds_toArray, List.set_cons_zero, List.set_cons_succ])
      refine PlanT.take0 (v := ?vg5) (by kernel_rfl) ?yg5 ?rg5
      case yg5 => (intro wz hz; have ct := Ext.at_ hz CT5.out; go_simp; try with_reducible rfl)
      (try simp only [Act.put, List.setIfInBounds_toArray, List.set_cons_zero, List.set_cons_succ])
      refine PlanT.take0 (v := ?vg6) (by kernel_rfl) ?yg6 ?rg6
      case yg6 => (intro wz hz; go_simp; try with_reducible rfl)
      (try simp only [Act.put, List.setIfInBounds_toArray, List.set_cons_zero, List.set_cons_succ])
      refine PlanT.take0 (v := ?vg7) (by kernel_rfl) ?yg7 ?rg7
      case yg7 => (intro wz hz; go_simp; try with_reducible rfl)
      (try simp only [Act.put, List.setIfInBounds_toArray, List.set_cons_zero, List.set_cons_succ])
      refine PlanT.take0 (v := ?vg8) (by kernel_rfl) ?yg8 ?rg8
      case yg8 => (intro wz hz; go_simp; try with_reducible rfl)
      (try simp only [Act.put, List.setIfInBounds_toArray, List.set_cons_zero, List.set_cons_succ])
      refine PlanT.take0 (v := ?vg9) (by kernel_rfl) ?yg9 ?rg9
      case yg9 => (intro wz hz; go_simp; try with_reducible rfl)
      (try simp only [Act.put, List.setIfInBounds_toArray, List.set_cons_zero, List.set_cons_succ])
      refine PlanT.exec3 (fun K hK => ⟨by kernel_rfl, ?_⟩)
      go_simp
      refine hK.out _ _ trivial ?_
      clear hK K
      (try simp only [Act.put, List.setIfInBounds_toArray, List.set_cons_zero, List.set_cons_succ])
      refine PlanT.done (NoPanic.normal ?_)
      have hC5d : CS g w5.drew q p d n l (turn + 1) := ⟨HC5.out.da.drew, ⟨HC5.out.ca.blk, HC5.out.ca.len, HC5.out.ca.ok, HC5.out.ca.kinds⟩, HC5.out.out⟩
      have hC6 := hC5d.set1 (i := m) (j := 3) (s := s) (s' := { s with last := turn + 1 }) (v := .int .i64 (turn + 1)) HS.out (by decide) rfl (hC5d.ca.kinds s (List.mem_of_getElem? HS.out))
      have HC6 := Lib.hid hC6
      have hst : CSt q g g w (w5.drew.setCell ⟨q, 2 + m * 4 + 3, none⟩ (.int .i64 (turn + 1))) := ((CSt.below HB4.out).trans (HW5.out ▸ CSt.store 258 (.int .i64 (turn + 1)))).trans ((CSt.below ((Below.refl _ _).drew)).trans (CSt.store _ _))
      have HST := Lib.hid hst
      have hkk : Kept (fun k => k ≠ q) w4 (w5.drew.setCell ⟨q, 2 + m * 4 + 3, none⟩ (.int .i64 (turn + 1))) := by
        rw [HW5.out]
        exact (((Kept.refl _ w4).setCell (by simp) _).drew).setCell (by simp) _
      have HR6 := Lib.hid (HV4.out.kept hkk fun k hk e => by have := HVO.out k hk; omega)
      clear hC5d hC6 hst hkk f5 e5 f5d e5d
      go_wp2_with fail
      go_ret2
      exact ⟨_, _, turn + 1, by rw [HL.out]; rfl, by rw [HL.out]; exact HR6.out, HVO.out, HC6.out, HST.out, by omega, by omega, .inr ⟨m, s, HS.out, HK.out, rfl⟩⟩
end Go.Proofs.Ytmlijnekidihbaa

/-
  A cache's ready.
-/
namespace Go.Proofs.Ytmlijnekidihbaa
open Go.RowKit

set_option maxRecDepth 100000 in
set_option maxHeartbeats 8000000 in
set_option linter.unusedSimpArgs false in
theorem cready_at {D : CKey → List UInt8 → Prop} {g : Gh} {w : World} {q p n : Nat} {d : PD} {l : List Sl} {turn : Int} (h : CS g w q p d n l turn) (hi : CI d n l) (hsh : DShape D d) (hb : d.calls + cntN 2 l ≤ 9990) :
    Calls Try.prog 23 #[.pointer (some ⟨q, 0, none⟩)] w fun e w' => ∃ (b : Bool) (g' : Gh) (d' : PD) (l' : List Sl), e = .returned (.bool b) ∧ CS g' w' q p d' n l' turn ∧ CSt q g g' w w' ∧ RF D d l n b d' l' := by
  have hlen := hi.len
  have hsm : Small d := hsh.small (by omega)
  have hszs : (Try.prog.info? 50).map (·.size) = some (slCells l).length := by rw [slCells_length, hlen]; exact info_slots
  have HSZ := Lib.hid hszs
  have hsz := size_at h.da hsm ⟨#[99, 97, 99, 104, 101]⟩ (by unfold maxLen; decide)
  rw [show (ByteArray.mk #[99, 97, 99, 104, 101]).data.toList = cName from rfl, dsize] at hsz
  have cp0 := h.ca.ptr
  cases hc : cur d with
  | some F =>
    rw [hc] at hsz
    have HSIZ := Lib.hid hsz
    obtain ⟨d1, hd1⟩ : ∃ d1, d1 = d := ⟨_, rfl⟩
    obtain ⟨g1, hg1⟩ : ∃ g1, g1 = g := ⟨_, rfl⟩
    obtain ⟨E, hEd⟩ : ∃ E, E = F.length / 565 := ⟨_, rfl⟩
    have HR1 : Hid (RR D d l n 0 E d1 l) := Lib.hid (by rw [hd1, hEd]; exact rr_some hsh hi hc)
    have HC1 : Hid (CS g1 w q p d1 n l turn) := Lib.hid (by rw [hd1, hg1]; exact h)
    have HT1 : Hid (CSt q g g1 w w) := Lib.hid (by rw [hg1]; exact CSt.refl _ _ _)
    have HRG := Lib.hid h.ca.range
    have hL : F.length ≤ 36160 := (cur_good hsh hc).1
    have hqd : (F.length : Int).tdiv 565 = (E : Int) := by rw [hEd, Int.tdiv_eq_ediv_of_nonneg (by omega)]; omega
    have hqe : (F.length : Int) / 565 = (E : Int) := by rw [hEd]; omega
    clear h hi hsh hsm hszs hsz hc hd1 hg1 hEd
    go_enter Try.func23, Try.ntmps23
    go_wp2_with fail
    refine HSIZ.out.mono ?_
    rintro e w' ⟨rfl, rfl⟩
    go_wp2_with fail
    refine wp_load_mid 50 (.tmp 24) rfl q 2 rfl (slCells l) _ HRG.out Try.underlying50 rfl HSZ.out ?_
    go_wp2_with fail
    go_loopw [26] (fun x wr => ∃ (k : Nat) (g2 : Gh) (d2 : PD) (l2 : List Sl), k ≤ 64 ∧ x = .int .i64 (k : Int) ∧ Hid (CS g2 wr q p d2 n l2 turn) ∧ Hid (RR D d l n k E d2 l2) ∧ Hid (CSt q g g2 w wr)) (fun x _ => 64 - (intOf x).toNat)
    case atStart => exact ⟨0, g1, d1, l, by omega, rfl, HC1, HR1, HT1⟩
    case round =>
      obtain ⟨k, g2, d2, l2, hk, rfl, HC, HR, HT⟩ := hrel
      by_cases hlt : k < 64
      · obtain ⟨s, hs⟩ : ∃ s, l[k]? = some s := ⟨_, List.getElem?_eq_getElem (by omega)⟩
        have hix := run_index_slot hlen hs
        have hs2 : l2[k]? = some s := (HR.out.rest k (Nat.le_refl _)).trans hs
        have HS2 := Lib.hid hs2
        have hki : (k : Int) < 64 := by omega
        obtain ⟨w5, hw5⟩ : ∃ w5, w5 = wr.alloc (.cells #[.int .i64 (s.kind : Int), .string s.nm, .int .i64 s.pc, .int .i64 s.last] 49) := ⟨_, rfl⟩
        have hb5 : Below wr.heap.size wr w5 := by subst hw5; exact (Below.refl _ _).alloc (Nat.le_refl _) _
        have hC5 := HC.out.below hb5
        have HC5 := Lib.hid hC5
        have HT5 := Lib.hid (HT.out.trans (CSt.below hb5))
        obtain ⟨e0, e1, e2, e3⟩ := hC5.ca.four hs2
        have f0 := hC5.ca.free (2 + k * 4)
        have f1 := hC5.ca.free (2 + k * 4 + 1)
        have f2 := hC5.ca.free (2 + k * 4 + 2)
        have f3 := hC5.ca.free (2 + k * 4 + 3)
        have cp := hC5.ca.ptr
        by_cases hE : E ≤ k
        · have hEi : (E : Int) ≤ (k : Int) := by omega
          have HR2 := Lib.hid (HR.out.zero hlt hE)
          have hC6 := hC5.set4 (s' := Sl.none_) hs2 (by simp [Sl.none_])
          have HC6 := Lib.hid hC6
          have HT6 := Lib.hid (HT5.out.trans (CSt.store4 k (.int .i64 0) (.string ⟨#[]⟩) (.int .i64 0) (.int .i64 0)))
          rw [hw5] at e0 e1 e2 e3 f0 f1 f2 f3 HC6 HT6
          clear hs hs2 hw5 hb5 hC5 hC6 cp
          go_wp2_with fail
          exact ⟨⟨k + 1, g2, d2, _, hlt, by go_num, HC6, HR2, HT6⟩, by simp [intOf]; omega⟩
        · have hEi : ¬ (E : Int) ≤ (k : Int) := by omega
          by_cases h2 : s.kind = 2
          · have hk2 : (s.kind : Int) = 2 := by omega
            have hpot := HR.out.pot
            have hsm : Small d2 := HR.out.sh.small (by omega)
            have hmk := cmark_at hC5.da hsm (by omega) hC5.ca.ptr k 0 hlt (by omega)
            have hdw := dwrite HR.out.sh (k * 565) [(0 : UInt8)] (by simp) (HR.out.mark_hg hlt)
            rw [show [UInt8.ofNat 0] = [(0 : UInt8)] from rfl] at hmk
            generalize d2.write cName ((k * 565 : Nat) : Int) [(0 : UInt8)] = rr at hmk hdw
            have HMK := Lib.hid hmk
            have HDW := Lib.hid hdw
            have H2 := Lib.hid h2
            rw [hw5, hk2] at HMK
            rw [hw5, hk2] at HC5 HT5 cp
            clear hs hs2 hw5 hb5 hC5 hmk hdw h2 hpot hsm e0 e1 e2 e3 f0 f1 f2 f3
            go_wp2_with fail
            refine HMK.out.mono ?_
            rintro e w6 ⟨rfl, g3, hd3, hst3⟩
            have hC6 := HC5.out.step hst3 hd3
            have HC6 := Lib.hid hC6
            have HT6 := Lib.hid (HT5.out.trans (CSt.step hst3 hd3))
            obtain ⟨e0, e1, e2, e3⟩ := hC6.ca.four HS2.out
            have f0 := hC6.ca.free (2 + k * 4)
            have f1 := hC6.ca.free (2 + k * 4 + 1)
            have f2 := hC6.ca.free (2 + k * 4 + 2)
            have f3 := hC6.ca.free (2 + k * 4 + 3)
            clear hd3 hst3 hC6
            obtain ⟨r1, d3⟩ := rr
            by_cases hr : r1 = 0
            · obtain ⟨hdid, h3, _⟩ := HDW.out
              have hup : d2.down = false ∧ d3.down = false ∧ ∃ F, cur d2 = some F ∧ k * 565 ≤ F.length ∧ cur d3 = some (Go.Proofs.Ytmlijnekidihbaa.wr F (k * 565) [0]) := by
                rcases h3 with ⟨h4, _⟩ | ⟨h4, _⟩ | ⟨_, h4, h5, h6⟩
                · exact absurd hr h4
                · exact absurd hr h4
                · exact ⟨h4, h5, h6⟩
              obtain ⟨h4, h5, F, h6, h7, h8⟩ := hup
              have HR2 := Lib.hid (HR.out.mark hlt (by omega) HS2.out H2.out hdid h4 h5 h6 h7 h8)
              have hC7 := HC6.out.set4 (s' := Sl.none_) HS2.out (by simp [Sl.none_])
              have HC7 := Lib.hid hC7
              have HT7 := Lib.hid (HT6.out.trans (CSt.store4 k (.int .i64 0) (.string ⟨#[]⟩) (.int .i64 0) (.int .i64 0)))
              have hrb : decide ((r1, d3).1 = 0) = true := by simp [hr]
              clear hdid h3 h4 h5 h6 h7 h8 hC7
              rw [hrb]
              clear hrb hr
              go_wp2_with fail
              exact ⟨⟨k + 1, g3, d3, _, hlt, by go_num, HC7, HR2, HT7⟩, by simp [intOf]; omega⟩
            · obtain ⟨hdid, h3, _⟩ := HDW.out
              have hx : d3 = d2 ∨ d3.down = true := by
                rcases h3 with ⟨_, h4⟩ | ⟨_, h4⟩ | ⟨h4, _⟩
                · exact .inl h4
                · exact .inr h4
                · exact absurd h4 hr
              have HRF := Lib.hid (HR.out.fail HS2.out H2.out hdid hx)
              have hrb : decide ((r1, d3).1 = 0) = false := by simp [hr]
              clear hdid h3 hx
              rw [hrb]
              clear hrb hr
              go_wp2_with fail
              go_ret
              exact ⟨false, g3, d3, l2, rfl, HC6.out, HT6.out, HRF.out⟩
          · have hk2 : ¬ (s.kind : Int) = 2 := by omega
            have HR2 := Lib.hid (HR.out.skip hs2 h2)
            rw [hw5] at HC5 HT5
            clear hs hs2 hw5 hb5 hC5 h2 e0 e1 e2 e3 f0 f1 f2 f3 cp
            go_wp2_with fail
            exact ⟨⟨k + 1, g2, d2, l2, hlt, by go_num, HC5, HR2, HT5⟩, by simp [intOf]; omega⟩
      · have hk64 : k = 64 := by omega
        subst hk64
        go_wp2_with fail
        go_ret
        exact ⟨true, g2, d2, l2, rfl, HC.out, HT.out, HR.out.done⟩
  | none =>
    rw [hc] at hsz
    have HSIZ := Lib.hid hsz
    have hmk := make_at h.da hsm (by omega) ⟨#[99, 97, 99, 104, 101]⟩ (by unfold maxLen; decide)
    rw [show (ByteArray.mk #[99, 97, 99, 104, 101]).data.toList = cName from rfl] at hmk
    obtain ⟨E, hEd⟩ : ∃ E, E = 0 := ⟨_, rfl⟩
    have hR1 : RR D d l n 0 E (d.make cName).2 l := by rw [hEd]; exact rr_none hsh hi hc
    generalize d.make cName = rm at hmk hR1
    obtain ⟨rm1, d1⟩ := rm
    have HR1 : Hid (RR D d l n 0 E d1 l) := Lib.hid hR1
    have HMK := Lib.hid hmk
    have HC0 := Lib.hid h
    clear h hi hsh hsm hszs hsz hc hR1 hmk
    go_enter Try.func23, Try.ntmps23
    go_wp2_with fail
    refine HSIZ.out.mono ?_
    rintro e w' ⟨rfl, rfl⟩
    go_wp2_with fail
    refine HMK.out.mono ?_
    rintro e w1 ⟨rfl, g1, hd1, hst1⟩
    have HC1 := Lib.hid (HC0.out.step hst1 hd1)
    have HT1 : Hid (CSt q g g1 w w1) := Lib.hid (CSt.step hst1 hd1)
    have HRG := Lib.hid HC1.out.ca.range
    have hqe : (E : Int) = 0 := by omega
    have HEZ := Lib.hid hqe
    clear hd1 hst1 hEd hqe
    go_wp2_with fail
    refine wp_load_mid 50 (.tmp 24) rfl q 2 rfl (slCells l) _ HRG.out Try.underlying50 rfl HSZ.out ?_
    go_wp2_with fail
    go_loopw [26] (fun x wr => ∃ (k : Nat) (g2 : Gh) (d2 : PD) (l2 : List Sl), k ≤ 64 ∧ x = .int .i64 (k : Int) ∧ Hid (CS g2 wr q p d2 n l2 turn) ∧ Hid (RR D d l n k E d2 l2) ∧ Hid (CSt q g g2 w wr)) (fun x _ => 64 - (intOf x).toNat)
    case atStart => exact ⟨0, g1, d1, l, by omega, rfl, HC1, HR1, HT1⟩
    case round =>
      obtain ⟨k, g2, d2, l2, hk, rfl, HC, HR, HT⟩ := hrel
      by_cases hlt : k < 64
      · obtain ⟨s, hs⟩ : ∃ s, l[k]? = some s := ⟨_, List.getElem?_eq_getElem (by omega)⟩
        have hix := run_index_slot hlen hs
        have hs2 : l2[k]? = some s := (HR.out.rest k (Nat.le_refl _)).trans hs
        have HS2 := Lib.hid hs2
        have hki : (k : Int) < 64 := by omega
        obtain ⟨w5, hw5⟩ : ∃ w5, w5 = wr.alloc (.cells #[.int .i64 (s.kind : Int), .string s.nm, .int .i64 s.pc, .int .i64 s.last] 49) := ⟨_, rfl⟩
        have hb5 : Below wr.heap.size wr w5 := by subst hw5; exact (Below.refl _ _).alloc (Nat.le_refl _) _
        have hC5 := HC.out.below hb5
        have HC5 := Lib.hid hC5
        have HT5 := Lib.hid (HT.out.trans (CSt.below hb5))
        obtain ⟨e0, e1, e2, e3⟩ := hC5.ca.four hs2
        have f0 := hC5.ca.free (2 + k * 4)
        have f1 := hC5.ca.free (2 + k * 4 + 1)
        have f2 := hC5.ca.free (2 + k * 4 + 2)
        have f3 := hC5.ca.free (2 + k * 4 + 3)
        have cp := hC5.ca.ptr
        by_cases hE : E ≤ k
        · have hEi : (E : Int) ≤ (k : Int) := by omega
          have hE0 : (0 : Int) ≤ (k : Int) := by omega
          have HR2 := Lib.hid (HR.out.zero hlt hE)
          have hC6 := hC5.set4 (s' := Sl.none_) hs2 (by simp [Sl.none_])
          have HC6 := Lib.hid hC6
          have HT6 := Lib.hid (HT5.out.trans (CSt.store4 k (.int .i64 0) (.string ⟨#[]⟩) (.int .i64 0) (.int .i64 0)))
          rw [hw5] at e0 e1 e2 e3 f0 f1 f2 f3 HC6 HT6
          clear hs hs2 hw5 hb5 hC5 hC6 cp
          go_wp2_with fail
          exact ⟨⟨k + 1, g2, d2, _, hlt, by go_num, HC6, HR2, HT6⟩, by simp [intOf]; omega⟩
        · exfalso; have := HEZ.out; omega
      · have hk64 : k = 64 := by omega
        subst hk64
        go_wp2_with fail
        go_ret
        exact ⟨true, g2, d2, l2, rfl, HC.out, HT.out, HR.out.done⟩
end Go.Proofs.Ytmlijnekidihbaa
