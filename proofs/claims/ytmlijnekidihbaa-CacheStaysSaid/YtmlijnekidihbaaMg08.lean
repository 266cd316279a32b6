import Derived.Test.YtmlijnekidihbaaMg06
import Derived.Deep.Cut
import Derived.BigQuiet
import Derived.Test.YtmlijnekidihbaaCacheName
import Derived.Test.YtmlijnekidihbaaMg02
import Derived.Test.YtmlijnekidihbaaText
import Derived.Laws.Rows

/-
  A cache in memory: which piece goes.
-/
namespace Go.Proofs.Ytmlijnekidihbaa
open Go.RowKit

theorem below_drewN {B : Nat} {a w : World} (h : Below B a w) (n : Nat) : Below B a (w.drewN n) := ⟨h.os, h.tape, h.output, h.size, h.block⟩

set_option maxRecDepth 100000 in
set_option maxHeartbeats 2000000 in
theorem cgoes_any {w : World} {q p most : Nat} {l : List Sl} {turn : Int} (h : CAt w q p most l turn) :
    Calls Try.prog 46 #[.pointer (some ⟨q, 0, none⟩)] w fun e w' => ∃ r : Int, e = .returned (.int .i64 r) ∧ Below w.heap.size w w' ∧ ((r = -1 ∧ ∀ s ∈ l, s.kind ≠ 1) ∨ ∃ (m : Nat) (s : Sl), l[m]? = some s ∧ m < 64 ∧ r = (m : Int) ∧ s.kind = 1) := by
  have hlen := h.len
  have hq := h.lt
  have HR := Lib.hid h.range
  have HA := Lib.hid h
  have hs : (Try.prog.info? 50).map (·.size) = some (slCells l).length := by rw [slCells_length, hlen]; exact info_slots
  have HS := Lib.hid hs
  clear hs h
  go_enter Try.func46, Try.ntmps46
  go_wp2
  go_step3
  go_wp2
  go_step3
  go_wp2
  refine wp_load_mid 50 (.tmp 8) rfl q 2 rfl (slCells l) _ HR.out Try.underlying50 rfl HS.out ?_
  go_wp2
  go_loopw [3, 10] (fun n i wr => ∃ (k : Nat) (r : Int), k ≤ 64 ∧ i = .int .i64 (k : Int) ∧ n = .int .i64 r ∧ Hid ((r = -1 ∧ ∀ j s, j < k → l[j]? = some s → s.kind ≠ 1) ∨ ∃ (m : Nat) (s : Sl), l[m]? = some s ∧ m < 64 ∧ r = (m : Int) ∧ s.kind = 1) ∧ Hid (Below w.heap.size w wr)) (fun _ i _ => 64 - (intOf i).toNat)
  case atStart => exact ⟨0, -1, by omega, rfl, rfl, Lib.hid (.inl ⟨rfl, fun j s h => by omega⟩), Lib.hid (Below.refl _ _)⟩
  case round =>
    obtain ⟨k, r, hk, rfl, rfl, HI, HB⟩ := hrel
    by_cases hlt : k < 64
    · obtain ⟨s, hs⟩ : ∃ s, l[k]? = some s := ⟨_, List.getElem?_eq_getElem (by omega)⟩
      have hix := run_index_slot hlen hs
      have HS2 := Lib.hid hs
      clear hs
      by_cases hc : s.kind = 1
      · have hci : (s.kind : Int) = 1 := by omega
        have HNR : Hid ((((k : Nat) : Int) = -1 ∧ ∀ j s, j < k + 1 → l[j]? = some s → s.kind ≠ 1) ∨ ∃ (m : Nat) (s : Sl), l[m]? = some s ∧ m < 64 ∧ (k : Int) = (m : Int) ∧ s.kind = 1) := Lib.hid (.inr ⟨k, s, HS2.out, hlt, rfl, hc⟩)
        have HBN : Hid (Below w.heap.size w (wr.alloc (Obj.cells #[.int .i64 1, .string s.nm, .int .i64 s.pc, .int .i64 s.last] 49))) := Lib.hid (HB.out.alloc HB.out.size _)
        rcases HI.out with ⟨rfl, hn⟩ | ⟨m, t, hm, hm64, rfl, ht⟩
        · clear hn HI
          go_wp2
          exact ⟨⟨k + 1, (k : Int), hlt, by go_num, rfl, HNR, HBN⟩, by simp [intOf]; omega⟩
        · have hbq : q < w.heap.size := hq
          obtain ⟨c0, c1, c2, c3⟩ := (HA.out.below HBN.out hq).four hm
          have HNR2 : Hid (((m : Int) = -1 ∧ ∀ j s, j < k + 1 → l[j]? = some s → s.kind ≠ 1) ∨ ∃ (m' : Nat) (s : Sl), l[m']? = some s ∧ m' < 64 ∧ (m : Int) = (m' : Int) ∧ s.kind = 1) := Lib.hid (.inr ⟨m, t, hm, hm64, rfl, ht⟩)
          have hmi : ¬ ((m : Int) < 0) := by omega
          have hm64i : (m : Int) < 64 := by omega
          clear HI hm ht c0 c1 c2
          by_cases hcmp : s.last < t.last
          · go_wp2
            go_quiet (fail)
            go_wp2
            exact ⟨⟨k + 1, (k : Int), hlt, by go_num, rfl, HNR, Lib.hid (below_drewN HBN.out _)⟩, by simp [intOf]; omega⟩
          · go_wp2
            go_quiet (fail)
            go_wp2
            exact ⟨⟨k + 1, (m : Int), hlt, by go_num, rfl, HNR2, Lib.hid (below_drewN HBN.out _)⟩, by simp [intOf]; omega⟩
      · have hci : ¬ (s.kind : Int) = 1 := by omega
        have HBN : Hid (Below w.heap.size w (wr.alloc (Obj.cells #[.int .i64 (s.kind : Int), .string s.nm, .int .i64 s.pc, .int .i64 s.last] 49))) := Lib.hid (HB.out.alloc HB.out.size _)
        have HNR : Hid ((r = -1 ∧ ∀ j s, j < k + 1 → l[j]? = some s → s.kind ≠ 1) ∨ ∃ (m : Nat) (s : Sl), l[m]? = some s ∧ m < 64 ∧ r = (m : Int) ∧ s.kind = 1) := Lib.hid (by
          rcases HI.out with ⟨h1, h2⟩ | h1
          · refine .inl ⟨h1, fun j t hj ht => ?_⟩
            rcases Nat.lt_or_ge j k with h | h
            · exact h2 j t h ht
            · obtain rfl : j = k := by omega
              rw [HS2.out] at ht
              cases ht
              exact hc
          · exact .inr h1)
        clear HI
        go_wp2
        exact ⟨⟨k + 1, r, hlt, by go_num, rfl, HNR, HBN⟩, by simp [intOf]; omega⟩
    · have hk64 : k = 64 := by omega
      subst hk64
      go_wp2
      rw [Exit.noGoto_ret]
      go_ret
      refine ⟨r, rfl, HB.out, ?_⟩
      rcases HI.out with ⟨h1, h2⟩ | h1
      · refine .inl ⟨h1, fun s hs => ?_⟩
        obtain ⟨j, hj, rfl⟩ := List.getElem_of_mem hs
        exact h2 j _ (by omega) (List.getElem?_eq_getElem hj)
      · exact .inr h1
end Go.Proofs.Ytmlijnekidihbaa

/-
  A cache in memory: the slot for a piece; a slot is marked on the disk.
-/
namespace Go.Proofs.Ytmlijnekidihbaa
open Go.RowKit

/-- What place tells. -/
def PlaceL (most : Nat) (l : List Sl) (nm : ByteArray) (pc : Int) (r : Int) : Prop :=
  (∃ (m : Nat) (s : Sl), l[m]? = some s ∧ m < 64 ∧ r = (m : Int) ∧ s.isL nm pc = true) ∨
  ((∀ s ∈ l, s.isL nm pc = false) ∧ fullN l < most ∧ ((r = -1 ∧ ∀ s ∈ l, s.isE = false) ∨ ∃ (m : Nat) (s : Sl), l[m]? = some s ∧ m < 64 ∧ r = (m : Int) ∧ s.isE = true ∧ ∀ i s', i < m → l[i]? = some s' → s'.isE = false)) ∨
  ((∀ s ∈ l, s.isL nm pc = false) ∧ most ≤ fullN l ∧ ((r = -1 ∧ ∀ s ∈ l, s.kind ≠ 1) ∨ ∃ (m : Nat) (s : Sl), l[m]? = some s ∧ m < 64 ∧ r = (m : Int) ∧ s.kind = 1))

set_option maxRecDepth 100000 in
set_option maxHeartbeats 2000000 in
set_option linter.unusedSimpArgs false in
theorem cplace_any {w : World} {q p most : Nat} {l : List Sl} {turn : Int} (h : CAt w q p most l turn) (nm : ByteArray) (pc : Int) :
    Calls Try.prog 24 #[.pointer (some ⟨q, 0, none⟩), labV nm pc] w fun e w' => ∃ r : Int, e = .returned (.int .i64 r) ∧ PlaceL most l nm pc r ∧ Below w.heap.size w w' := by
  obtain ⟨w1, hw1⟩ : ∃ w1, w1 = w.alloc (.cells #[.string nm, .int .i64 pc] 47) := ⟨_, rfl⟩
  have hb : Below w.heap.size w w1 := by subst hw1; exact (Below.refl _ _).alloc (Nat.le_refl _) _
  have hc : w1.heap[w.heap.size]? = some (.cells #[.string nm, .int .i64 pc] 47 (0, 0)) := by subst hw1; exact heap_alloc_new w _
  have c0 : w1.cell? ⟨w.heap.size, 0, none⟩ = some (.string nm) := blk_cell hc
  have c1 : w1.cell? ⟨w.heap.size, 1, none⟩ = some (.int .i64 pc) := blk_cell hc
  have h1 := h.below hb h.lt
  have HF := Lib.hid (cfind_any h1 nm pc)
  have HLEN : Hid (∀ wz, Below w.heap.size w wz → Calls Try.prog 15 #[.pointer (some ⟨q, 0, none⟩)] wz fun e w' => e = .returned (.int .i64 (fullN l : Int)) ∧ Below wz.heap.size wz w') := Lib.hid fun wz hz => clen_any (h.below hz h.lt)
  have HGO : Hid (∀ wz, Below w.heap.size w wz → Calls Try.prog 46 #[.pointer (some ⟨q, 0, none⟩)] wz fun e w' => ∃ r : Int, e = .returned (.int .i64 r) ∧ Below wz.heap.size wz w' ∧ ((r = -1 ∧ ∀ s ∈ l, s.kind ≠ 1) ∨ ∃ (m : Nat) (s : Sl), l[m]? = some s ∧ m < 64 ∧ r = (m : Int) ∧ s.kind = 1)) := Lib.hid fun wz hz => cgoes_any (h.below hz h.lt)
  have HIX : Hid (∀ wz, Below w.heap.size w wz → Calls Try.prog 41 #[.slice (some ⟨q, 2, none⟩) 64 64, .func (.func 45) #[] #[]] wz fun e w' => ∃ r : Int, e = .returned (.int .i64 r) ∧ Below wz.heap.size wz w' ∧ ((r = -1 ∧ ∀ s ∈ l, s.isE = false) ∨ ∃ (m : Nat) (s : Sl), l[m]? = some s ∧ m < 64 ∧ r = (m : Int) ∧ s.isE = true ∧ ∀ i s', i < m → l[i]? = some s' → s'.isE = false)) := Lib.hid fun wz hz => cindex_any 45 #[] enters_place1 (h.below hz h.lt) Sl.isE (fun s wy _ _ => place1_any s wy)
  have HMO : Hid (∀ wz, Below w.heap.size w wz → wz.cell? ⟨q, 1, none⟩ = some (.int .i64 (most : Int))) := Lib.hid fun wz hz => (h.below hz h.lt).mostc
  have HB := Lib.hid hb
  have HW := Lib.hid hw1
  have hfl : fullN l ≤ 64 := by have := fullN_le l; have := h.len; omega
  have hmo := h.ok
  clear hb hc hw1 h h1
  go_enter Try.func24, Try.ntmps24
  go_wp2_with fail
  rw [← HW.out]
  go_wp2_with fail
  refine HF.out.mono ?_
  rintro e w3 ⟨r, rfl, hr, hb3⟩
  have HB3 := Lib.hid (HB.out.trans (hb3.mono HB.out.size))
  clear hb3
  by_cases hr0 : 0 ≤ r
  · have HR := Lib.hid hr
    clear hr
    go_wp2_with fail
    go_ret
    refine ⟨r, rfl, ?_, HB3.out⟩
    rcases HR.out with ⟨h1, _⟩ | h1
    · omega
    · exact .inl h1
  · have hno : ∀ s ∈ l, s.isL nm pc = false := by
      rcases hr with ⟨_, h1⟩ | ⟨m, s, _, _, h1, _⟩
      · exact h1
      · omega
    have HNO := Lib.hid hno
    have HM := Lib.hid (HMO.out _ HB3.out)
    clear hr hno c0 c1
    have HB3D : Hid (Below w.heap.size w w3.drew) := Lib.hid HB3.out.drew
    go_wp2_with fail
    refine wp_region_plan [(true, 0), (true, 2), (true, 3), (true, 4), (true, 5), (false, 1), (true, 6)] (by kernel_rfl) (by kernel_rfl) (by kernel_rfl) (by kernel_rfl) (by kernel_rfl) ?_
    simp only [planO, List.drop_succ_cons, List.drop_zero]
    refine PlanO.take (v := ?v0) (by kernel_rfl) ?y0 ?r0
    case y0 => (intro wz hz; go_simp; try with_reducible rfl)
    (try simp only [Act.put, List.setIfInBounds_toArray, List.set_cons_zero, List.set_cons_succ])
    refine PlanO.take (v := ?v2) (by kernel_rfl) ?y2 ?r2
    case y2 => (intro wz hz; go_simp; try with_reducible rfl)
    (try simp only [Act.put, List.setIfInBounds_toArray, List.set_cons_zero, List.set_cons_succ])
    refine PlanO.take (v := ?v3) (by kernel_rfl) ?y3 ?r3
    case y3 => (intro wz hz; go_simp; try with_reducible rfl)
    (try simp only [Act.put, List.setIfInBounds_toArray, List.set_cons_zero, List.set_cons_succ])
    refine PlanO.take (v := ?v4) (by kernel_rfl) ?y4 ?r4
    case y4 => (intro wz hz; go_simp; try with_reducible rfl)
    (try simp only [Act.put, List.setIfInBounds_toArray, List.set_cons_zero, List.set_cons_succ])
    refine PlanO.take (v := ?v5) (by kernel_rfl) ?y5 ?r5
    case y5 => (intro wz hz; have c1 := Ext.at_ hz HM.out; go_simp; try with_reducible rfl)
    (try simp only [Act.put, List.setIfInBounds_toArray, List.set_cons_zero, List.set_cons_succ])
    refine PlanO.keep (fun K hK => ?_)
    go_simp
    go_at_call 15
    refine (HLEN.out _ HB3D.out).mono ?_
    rintro e w5 ⟨rfl, hb5⟩
    have HB5 : Hid (Below w.heap.size w w5) := Lib.hid (HB3D.out.trans (hb5.mono HB3D.out.size))
    go_wp2_with fail
    refine hK.out _ _ hb5 ?_
    clear hK K
    (try simp only [Act.put, List.setIfInBounds_toArray, List.set_cons_zero, List.set_cons_succ])
    refine PlanO.take (v := ?v6) (by kernel_rfl) ?y6 ?r6
    case y6 => (intro wz hz; go_simp; try with_reducible rfl)
    (try simp only [Act.put, List.setIfInBounds_toArray, List.set_cons_zero, List.set_cons_succ])
    refine PlanO.done (NoPanic.normal ?_)
    by_cases hlt : fullN l < most
    · have hlti : (fullN l : Int) < (most : Int) := by omega
      go_wp2_with (go_at_call 41; (refine (HIX.out _ HB5.out).mono ?_); rintro e w6 ⟨r6, rfl, hb6, hr6⟩; have HR6 := Lib.hid hr6; have HB6 := Lib.hid (HB5.out.trans (hb6.mono HB5.out.size)); clear hb6 hr6)
      go_ret
      exact ⟨r6, rfl, .inr (.inl ⟨HNO.out, hlt, HR6.out⟩), HB6.out⟩
    · have hlti : ¬ (fullN l : Int) < (most : Int) := by omega
      go_wp2_with (go_at_call 46; (refine (HGO.out _ HB5.out).mono ?_); rintro e w6 ⟨r6, rfl, hb6, hr6⟩; have HR6 := Lib.hid hr6; have HB6 := Lib.hid (HB5.out.trans (hb6.mono HB5.out.size)); clear hb6 hr6)
      go_ret
      exact ⟨r6, rfl, .inr (.inr ⟨HNO.out, by omega, HR6.out⟩), HB6.out⟩

/-- The name of the file. -/
def cName : List UInt8 := [99, 97, 99, 104, 101]

theorem step_below {g g' : Gh} {a b c : World} (h : Below a.heap.size a b) (k : Step g g' b c) : Step g g' a c := Step.trans (Step.below h) k

set_option maxRecDepth 100000 in
set_option maxHeartbeats 1000000 in
theorem cmark_at {g : Gh} {w : World} {q p : Nat} {d : PD} (h : DiskAt g w p d) (hsm : Small d) (hcl : d.calls + 1 < 10000) (hq : w.cell? ⟨q, 0, none⟩ = some (.pointer (some ⟨p, 0, none⟩))) (at_ kind : Nat) (hat : at_ < 64) (hk : kind ≤ 1) :
    Calls Try.prog 25 #[.pointer (some ⟨q, 0, none⟩), .int .i64 (at_ : Int), .int .i64 (kind : Int)] w fun e w' => e = .returned (.bool (decide ((d.write cName ((at_ * 565 : Nat) : Int) [UInt8.ofNat kind]).1 = 0))) ∧ ∃ g', DiskAt g' w' p (d.write cName ((at_ * 565 : Nat) : Int) [UInt8.ofNat kind]).2 ∧ Step g g' w w' := by
  obtain ⟨w1, hw1⟩ : ∃ w1, w1 = w.alloc (.cells #[.int .u8 (kind : Int)] 5) := ⟨_, rfl⟩
  have hb : Below w.heap.size w w1 := by subst hw1; exact (Below.refl _ _).alloc (Nat.le_refl _) _
  have hc : w1.heap[w.heap.size]? = some (.cells #[.int .u8 (kind : Int)] 5 (0, 0)) := by subst hw1; exact heap_alloc_new w _
  have hlt := blk_lt hc
  have hkb : (UInt8.ofNat kind).toNat = kind := by
    rcases Nat.lt_or_ge kind 1 with h | h
    · obtain rfl : kind = 0 := by omega
      rfl
    · obtain rfl : kind = 1 := by omega
      rfl
  have hrd : RdB w1 (.slice (some ⟨w.heap.size, 0, none⟩) 1 1) [UInt8.ofNat kind] := by
    refine ⟨_, _, rfl, Nat.le_refl _, by unfold maxLen; simp, rfl, .inr ⟨w.heap.size, 0, rfl, hlt, fun j u hj => ?_⟩⟩
    rw [Nat.zero_add, blk_cell hc]
    match j, hj with
    | 0, hj =>
      have e : bv (UInt8.ofNat kind) = u := by simpa using hj
      rw [← e]
      show _ = some (Value.int .u8 ((UInt8.ofNat kind).toNat : Int))
      rw [hkb]
      rfl
    | j + 1, hj => simp at hj
  have hm := write_at (h.below hb) hsm hcl ⟨#[99, 97, 99, 104, 101]⟩ (by unfold maxLen; decide) ((at_ * 565 : Nat) : Int) _ [UInt8.ofNat kind] hrd (by simp) (fun _ k e => by
    cases e
    by_cases ho : g.o w.heap.size = .out
    · exact ho
    · have := h.olt _ ho; omega)
  rw [show (ByteArray.mk #[99, 97, 99, 104, 101]).data.toList = cName from rfl] at hm
  generalize d.write cName ((at_ * 565 : Nat) : Int) [UInt8.ofNat kind] = r at *
  rw [show ((at_ * 565 : Nat) : Int) = (at_ : Int) * 565 by omega] at hm
  have HM := Lib.hid hm
  have HW := Lib.hid hw1
  have HB := Lib.hid hb
  have HKI : (IntKind.u8.wrap (kind : Int)) = (kind : Int) := by
    rcases Nat.lt_or_ge kind 1 with h | h
    · obtain rfl : kind = 0 := by omega
      decide
    · obtain rfl : kind = 1 := by omega
      decide
  have e2 : wrap64 ((at_ : Int) * 565) = (at_ : Int) * 565 := IntWalk.wrap64_in _ (by omega)
  clear hm hw1 hb hc hrd h hsm
  go_enter Try.func25, Try.ntmps25
  go_wp2_with fail
  rw [← HW.out]
  refine HM.out.mono ?_
  rintro e w5 ⟨rfl, g', hd, hst⟩
  have HD := Lib.hid hd
  have HST := Lib.hid (step_below HB.out hst)
  clear hd hst
  obtain ⟨r1, r2⟩ := r
  by_cases hr : r1 = 0
  · have hri : ((r1 : Nat) : Int) = 0 := by omega
    have HR := Lib.hid (show decide (r1 = 0) = true by simp [hr])
    clear hr
    go_wp2_with fail
    go_ret
    exact ⟨by rw [HR.out]; rfl, g', HD.out, HST.out⟩
  · have hri : ¬ ((r1 : Nat) : Int) = 0 := by omega
    have hrb : (((r1 : Nat) : Int) == 0) = false := by simpa using hri
    have HR := Lib.hid (show decide (r1 = 0) = false by simp [hr])
    clear hr
    go_wp2_with fail
    go_ret
    exact ⟨by rw [HR.out]; rfl, g', HD.out, HST.out⟩
end Go.Proofs.Ytmlijnekidihbaa

/-
  What a cache reads of a slot on the disk.
-/
namespace Go.Proofs.Ytmlijnekidihbaa
open Go.RowKit

theorem results_row_three {P : Program} {fn : Func} {p u u' : Tmp} {ty : TypeId} (h : fn.results = #[.cell p ty, .tmp u, .tmp u']) (tmps : Array Value) (w : World) (g : Nat) (t : TypeId) (cs : Array Value) (fr : Nat × Nat) (d : TypeDesc)
    (hp : tmps.getD p undef = .pointer (some ⟨g, 0, none⟩)) (hg : w.heap[g]? = some (.cells cs t fr))
    (hu : P.underlying ty = some d) (hd : (match d with | .struct _ | .array _ _ => true | _ => false) = true) (hi : (P.info? ty).map (·.size) = some cs.size) :
    (results fn tmps).run P w = .ok (.tuple #[.agg cs, tmps.getD u undef, tmps.getD u' undef]) w := by
  have h1 : (results fn tmps).run P w = ((asAddr (tmps.getD p undef)).run P w).andThen fun a w₁ => ((loadVar ty a).run P w₁).andThen fun v w₂ => .ok (.tuple #[v, tmps.getD u undef, tmps.getD u' undef]) w₂ := by
    simp only [results, h]
    simp [Sem.run_bind, Result.andThen]
  rw [h1, hp]
  simp [asAddr, run_loadVar_row w g t ty cs fr d hg hu hd hi]

theorem textAt_lenc {c : List UInt8} {at_ : Int} {s : List UInt8} {k : Nat} (h : textAt c at_ = some (s, k)) : s.length ≤ c.length := by
  unfold textAt at h
  obtain ⟨⟨n, p⟩, h1, h2⟩ := Option.bind_eq_some_iff.1 h
  split at h2
  · have h3 := Option.some.inj h2
    rw [Prod.mk.injEq] at h3
    rw [← h3.1, List.length_take, List.length_drop]
    omega
  · cases h2

theorem slot_len (F : List UInt8) (at_ : Nat) : (slotF F at_).length ≤ 565 := by
  unfold slotF
  rw [List.length_take]
  omega

theorem zero_label (w : World) : (zeroValue 47).run Try.prog w = .ok (.agg #[.string ⟨#[]⟩, .int .i64 0]) w := by kernel_rfl

/-- '[]byte(s)'. -/
theorem str_bytes2 (w : World) (s : ByteArray) (hl : s.size ≤ maxLen) : ∃ a c w', (convert 9 22 (.string s)).run Try.prog w = .ok (.slice a s.data.toList.length c) w' ∧ RdB w' (.slice a s.data.toList.length c) s.data.toList ∧ Below w.heap.size w w' ∧ (∀ k, (Value.slice a s.data.toList.length c).ownBlock = some k → w.heap.size ≤ k) := by
  have hsz : s.data.toList.length = s.size := size_list s
  have hrun := run_bytes_of_string (P := Try.prog) w 9 22 5 s Try.underlying9 Try.underlying22 Try.underlying5
  rw [← hsz] at hrun
  refine ⟨_, _, _, hrun, ?_, (Below.refl _ _).drew.alloc (Nat.le_refl _) _, fun k e => by cases e; exact Nat.le_refl _⟩
  refine ⟨_, _, rfl, grownCap_ge _ _ _ _, grownCap_le_maxLen _ _ _ _ (by rw [hsz]; exact hl), by simp, .inr ⟨w.heap.size, 0, rfl, by simp, fun j u hj => ?_⟩⟩
  have hjl : j < s.data.toList.length := by
    rcases Nat.lt_or_ge j s.data.toList.length with h | h
    · exact h
    · simp [List.getElem?_eq_none h] at hj
  rw [Nat.zero_add]
  refine (World.cell?_alloc_mark w.drew _ _ _ j).trans ?_
  unfold bytesRow
  rw [Array.getElem?_append_left (by simpa using hjl)]
  simpa using hj

theorem two_set {w : World} {b t : Nat} {a c : Value} (h : w.heap[b]? = some (.cells #[a, c] t (0, 0))) (x y : Value) : ((w.setCell ⟨b, 0, none⟩ x).setCell ⟨b, 1, none⟩ y).heap[b]? = some (.cells #[x, y] t (0, 0)) := by
  rw [blk_set (blk_set h x) y]
  rfl
theorem two_below {B : Nat} {u w : World} (h : Below B u w) (x y : Value) : Below B u ((w.setCell ⟨B, 0, none⟩ x).setCell ⟨B, 1, none⟩ y) :=
  Kept.below (R := fun k => k < B) (((Kept.of h fun _ h => h).setCell (by simp) x).setCell (by simp) y) fun _ h => h

theorem ansT_form (x : Option (List UInt8 × Nat)) : ∃ (s : ByteArray) (n : Nat) (o : Bool), ansT x = .tuple #[.string s, .int .i64 (n : Int), .bool o] ∧ ((x = none ∧ s = ⟨#[]⟩) ∨ x = some (s.data.toList, n)) := by
  cases x with
  | none => exact ⟨⟨#[]⟩, 0, false, rfl, .inl ⟨rfl, rfl⟩⟩
  | some y => exact ⟨strB y.1, y.2, true, rfl, .inr rfl⟩
theorem ans3_form (x : Option (Nat × Nat)) : ∃ (z n : Nat) (o : Bool), ans3 x = .tuple #[.int .i64 (z : Int), .int .i64 (n : Int), .bool o] ∧ ((x = none ∧ z = 0) ∨ x = some (z, n)) := by
  cases x with
  | none => exact ⟨0, 0, false, rfl, .inl ⟨rfl, rfl⟩⟩
  | some y => exact ⟨y.1, y.2, true, rfl, .inr rfl⟩

/-- What the slot holds that was read: nothing of a cache's. -/
abbrev ReadNo (w : World) (e : Ending) (w' : World) : Prop := e = .returned (.tuple #[labV ⟨#[]⟩ 0, .slice none 0 0, .bool false]) ∧ Below w.heap.size w w'

set_option maxRecDepth 100000 in
set_option maxHeartbeats 2000000 in
set_option linter.unusedSimpArgs false in
theorem cread_short {g : Gh} {w : World} {q p : Nat} {d : PD} (h : DiskAt g w p d) (hsm : Small d) (hq : w.cell? ⟨q, 0, none⟩ = some (.pointer (some ⟨p, 0, none⟩))) (hql : q < w.heap.size) (at_ : Nat) (hat : at_ < 64) (S : List UInt8) (hS : d.read cName ((at_ * 565 : Nat) : Int) 565 = (S, (d.read cName ((at_ * 565 : Nat) : Int) 565).2)) (hsh : ¬ S.length = 565) :
    Calls Try.prog 17 #[.pointer (some ⟨q, 0, none⟩), .int .i64 (at_ : Int)] w (ReadNo w) := by
  generalize (d.read cName ((at_ * 565 : Nat) : Int) 565).2 = er at *
  obtain ⟨w1, hw1⟩ : ∃ w1, w1 = w.alloc (.cells #[.string ⟨#[]⟩, .int .i64 0] 47) := ⟨_, rfl⟩
  have hb1 : Below w.heap.size w w1 := by subst hw1; exact (Below.refl _ _).alloc (Nat.le_refl _) _
  have hh : w1.heap[w.heap.size]? = some (.cells #[.string ⟨#[]⟩, .int .i64 0] 47 (0, 0)) := by subst hw1; exact heap_alloc_new w _
  have hrd := read_at (h.below hb1) hsm ⟨#[99, 97, 99, 104, 101]⟩ (by unfold maxLen; decide) ((at_ * 565 : Nat) : Int) 565
  rw [show (ByteArray.mk #[99, 97, 99, 104, 101]).data.toList = cName from rfl, hS] at hrd
  rw [show ((at_ * 565 : Nat) : Int) = (at_ : Int) * 565 by omega] at hrd
  have HRD := Lib.hid hrd
  have HW := Lib.hid hw1
  have HB := Lib.hid hb1
  have HH := Lib.hid hh
  have hq1 : w1.cell? ⟨q, 0, none⟩ = some (.pointer (some ⟨p, 0, none⟩)) := (hb1.cell (p := ⟨q, 0, none⟩) hql).trans hq
  have hqa : (w.alloc (.cells #[.string ⟨#[]⟩, .int .i64 0] 47)).cell? ⟨q, 0, none⟩ = some (.pointer (some ⟨p, 0, none⟩)) := by rw [← hw1]; exact hq1
  have e2 : wrap64 ((at_ : Int) * 565) = (at_ : Int) * 565 := IntWalk.wrap64_in _ (by omega)
  have hz := zero_label
  clear hrd hb1 hh hS h hsm hq hql hw1 hq1
  go_enter Try.func17, Try.ntmps17
  go_wp2_with fail
  rw [← HW.out]
  refine HRD.out.mono ?_
  rintro e w3 ⟨v, rfl, hb3, hr3, ho3⟩
  have HB3 := Lib.hid (HB.out.trans (hb3.mono HB.out.size))
  have HH3 := Lib.hid (show w3.heap[w.heap.size]? = some (.cells #[.string ⟨#[]⟩, .int .i64 0] 47 (0, 0)) from (hb3.block _ (blk_lt HH.out)).trans HH.out)
  have hlt3 := blk_lt HH3.out
  obtain ⟨sa, sk, rfl⟩ := rdB_form2 hr3
  have hshi : ¬ (S.length : Int) = 565 := by omega
  have d0 : w3.cell? ⟨w.heap.size, 0, none⟩ = some (.string ⟨#[]⟩) := blk_cell HH3.out
  have d1 : w3.cell? ⟨w.heap.size, 1, none⟩ = some (.int .i64 0) := blk_cell HH3.out
  have f0 : w3.frozen? ⟨w.heap.size, 0, none⟩ = false := blk_free HH3.out
  have f1 : w3.frozen? ⟨w.heap.size, 1, none⟩ = false := blk_free HH3.out
  have HF := Lib.hid (two_set HH3.out (.string ⟨#[]⟩) (.int .i64 0))
  have HBF := Lib.hid (two_below HB3.out (.string ⟨#[]⟩) (.int .i64 0))
  clear hb3 hr3 ho3 HH3
  go_wp2_with fail
  refine bodyPost_ret (results_row_three rfl _ _ w.heap.size 47 #[.string ⟨#[]⟩, .int .i64 0] (0, 0) _ rfl HF.out Try.underlying47 rfl (by kernel_rfl)) rfl ?_
  exact ⟨rfl, HBF.out⟩

set_option maxRecDepth 100000 in
set_option maxHeartbeats 2000000 in
set_option linter.unusedSimpArgs false in
theorem cread_first {g : Gh} {w : World} {q p : Nat} {d : PD} (h : DiskAt g w p d) (hsm : Small d) (hq : w.cell? ⟨q, 0, none⟩ = some (.pointer (some ⟨p, 0, none⟩))) (hql : q < w.heap.size) (at_ : Nat) (hat : at_ < 64) (S : List UInt8) (hS : d.read cName ((at_ * 565 : Nat) : Int) 565 = (S, (d.read cName ((at_ * 565 : Nat) : Int) 565).2)) (hsh : S.length = 565) (hne : ¬ S.getD 0 0 = 1) :
    Calls Try.prog 17 #[.pointer (some ⟨q, 0, none⟩), .int .i64 (at_ : Int)] w (ReadNo w) := by
  generalize (d.read cName ((at_ * 565 : Nat) : Int) 565).2 = er at *
  obtain ⟨w1, hw1⟩ : ∃ w1, w1 = w.alloc (.cells #[.string ⟨#[]⟩, .int .i64 0] 47) := ⟨_, rfl⟩
  have hb1 : Below w.heap.size w w1 := by subst hw1; exact (Below.refl _ _).alloc (Nat.le_refl _) _
  have hh : w1.heap[w.heap.size]? = some (.cells #[.string ⟨#[]⟩, .int .i64 0] 47 (0, 0)) := by subst hw1; exact heap_alloc_new w _
  have hrd := read_at (h.below hb1) hsm ⟨#[99, 97, 99, 104, 101]⟩ (by unfold maxLen; decide) ((at_ * 565 : Nat) : Int) 565
  rw [show (ByteArray.mk #[99, 97, 99, 104, 101]).data.toList = cName from rfl, hS] at hrd
  rw [show ((at_ * 565 : Nat) : Int) = (at_ : Int) * 565 by omega] at hrd
  have HRD := Lib.hid hrd
  have HW := Lib.hid hw1
  have HB := Lib.hid hb1
  have HH := Lib.hid hh
  have hq1 : w1.cell? ⟨q, 0, none⟩ = some (.pointer (some ⟨p, 0, none⟩)) := (hb1.cell (p := ⟨q, 0, none⟩) hql).trans hq
  have hqa : (w.alloc (.cells #[.string ⟨#[]⟩, .int .i64 0] 47)).cell? ⟨q, 0, none⟩ = some (.pointer (some ⟨p, 0, none⟩)) := by rw [← hw1]; exact hq1
  have e2 : wrap64 ((at_ : Int) * 565) = (at_ : Int) * 565 := IntWalk.wrap64_in _ (by omega)
  have hz := zero_label
  clear hrd hb1 hh hS h hsm hq hql hw1 hq1
  go_enter Try.func17, Try.ntmps17
  go_wp2_with fail
  rw [← HW.out]
  refine HRD.out.mono ?_
  rintro e w3 ⟨v, rfl, hb3, hr3, ho3⟩
  have HB3 := Lib.hid (HB.out.trans (hb3.mono HB.out.size))
  have HH3 := Lib.hid (show w3.heap[w.heap.size]? = some (.cells #[.string ⟨#[]⟩, .int .i64 0] 47 (0, 0)) from (hb3.block _ (blk_lt HH.out)).trans HH.out)
  have hlt3 := blk_lt HH3.out
  obtain ⟨sb, so, sk, hv, hsk, hskm, _, hsc⟩ := hr3.cells (by intro e; subst e; simp at hsh)
  rw [hsh] at hv hsk
  subst hv
  have s0 : w3.cell? ⟨sb, so, none⟩ = some (.int .u8 ((S.getD 0 0).toNat : Int)) := hsc 0 (by omega)
  have hnb : ¬ (((S.getD 0 0).toNat : Nat) : Int) = 1 := fun e => hne (UInt8.toNat_inj.1 (by
    have : (1 : UInt8).toNat = 1 := rfl
    omega))
  have hnb2 : ((((S.getD 0 0).toNat : Nat) : Int) == 1) = false := by simpa using hnb
  generalize (S.getD 0 0).toNat = x0 at *
  unfold maxLen at hskm
  have d0 : w3.cell? ⟨w.heap.size, 0, none⟩ = some (.string ⟨#[]⟩) := blk_cell HH3.out
  have d1 : w3.cell? ⟨w.heap.size, 1, none⟩ = some (.int .i64 0) := blk_cell HH3.out
  have f0 : w3.frozen? ⟨w.heap.size, 0, none⟩ = false := blk_free HH3.out
  have f1 : w3.frozen? ⟨w.heap.size, 1, none⟩ = false := blk_free HH3.out
  have HF := Lib.hid (two_set HH3.out (.string ⟨#[]⟩) (.int .i64 0))
  have HBF := Lib.hid (two_below HB3.out (.string ⟨#[]⟩) (.int .i64 0))
  clear hb3 hr3 ho3 HH3 hsc hne hsh
  go_wp2_with fail
  refine bodyPost_ret (results_row_three rfl _ _ w.heap.size 47 #[.string ⟨#[]⟩, .int .i64 0] (0, 0) _ rfl HF.out Try.underlying47 rfl (by kernel_rfl)) rfl ?_
  exact ⟨rfl, HBF.out⟩

set_option maxRecDepth 100000 in
set_option maxHeartbeats 4000000 in
set_option linter.unusedSimpArgs false in
theorem cread_full {g : Gh} {w : World} {q p : Nat} {d : PD} (h : DiskAt g w p d) (hsm : Small d) (hq : w.cell? ⟨q, 0, none⟩ = some (.pointer (some ⟨p, 0, none⟩))) (hql : q < w.heap.size) (at_ : Nat) (hat : at_ < 64) (S : List UInt8) (hS : d.read cName ((at_ * 565 : Nat) : Int) 565 = (S, (d.read cName ((at_ * 565 : Nat) : Int) 565).2)) (hsh : S.length = 565) (h1 : S.getD 0 0 = 1)
    (s1 s3 : ByteArray) (z n1 n2 n3 : Nat) (o1 o2 o3 : Bool) (e1 : ansT (textAt S 5) = .tuple #[.string s1, .int .i64 (n1 : Int), .bool o1]) (e2 : ans3 (getAt S (n1 : Int)) = .tuple #[.int .i64 (z : Int), .int .i64 (n2 : Int), .bool o2]) (e3 : ansT (textAt S (n2 : Int)) = .tuple #[.string s3, .int .i64 (n3 : Int), .bool o3]) (hs1 : s1.size ≤ 600) (hs3 : s3.size ≤ 600) :
    Calls Try.prog 17 #[.pointer (some ⟨q, 0, none⟩), .int .i64 (at_ : Int)] w fun e w' => ((keptC s1 (z : Int) s3.data.toList = true ∧ S.drop 1 = bodyC s1 (z : Int) s3.data.toList) ∧ ∃ v, e = .returned (.tuple #[labV s1 (z : Int), v, .bool true]) ∧ RdB w' v s3.data.toList ∧ (∀ j, v.ownBlock = some j → w.heap.size ≤ j) ∧ Below w.heap.size w w') ∨ (¬ (keptC s1 (z : Int) s3.data.toList = true ∧ S.drop 1 = bodyC s1 (z : Int) s3.data.toList) ∧ ReadNo w e w') := by
  generalize (d.read cName ((at_ * 565 : Nat) : Int) 565).2 = er at *
  have HG1 : Hid (∀ (v : Value) (w : World), RdB w v S → Calls Try.prog 38 #[v, .int .i64 5] w fun e w' => e = .returned (.tuple #[.string s1, .int .i64 (n1 : Int), .bool o1]) ∧ w = w') := Lib.hid fun v w hv => e1 ▸ getText_any v S 5 w hv
  have HG2 : Hid (∀ (v : Value) (w : World), RdB w v S → Calls Try.prog 39 #[v, .int .i64 (n1 : Int)] w fun e w' => e = .returned (.tuple #[.int .i64 (z : Int), .int .i64 (n2 : Int), .bool o2]) ∧ w = w') := Lib.hid fun v w hv => e2 ▸ get_any v S _ w hv
  have HG3 : Hid (∀ (v : Value) (w : World), RdB w v S → Calls Try.prog 38 #[v, .int .i64 (n2 : Int)] w fun e w' => e = .returned (.tuple #[.string s3, .int .i64 (n3 : Int), .bool o3]) ∧ w = w') := Lib.hid fun v w hv => e3 ▸ getText_any v S _ w hv
  clear e1 e2 e3
  obtain ⟨w1, hw1⟩ : ∃ w1, w1 = w.alloc (.cells #[.string ⟨#[]⟩, .int .i64 0] 47) := ⟨_, rfl⟩
  have hb1 : Below w.heap.size w w1 := by subst hw1; exact (Below.refl _ _).alloc (Nat.le_refl _) _
  have hh : w1.heap[w.heap.size]? = some (.cells #[.string ⟨#[]⟩, .int .i64 0] 47 (0, 0)) := by subst hw1; exact heap_alloc_new w _
  have hrd := read_at (h.below hb1) hsm ⟨#[99, 97, 99, 104, 101]⟩ (by unfold maxLen; decide) ((at_ * 565 : Nat) : Int) 565
  rw [show (ByteArray.mk #[99, 97, 99, 104, 101]).data.toList = cName from rfl, hS] at hrd
  rw [show ((at_ * 565 : Nat) : Int) = (at_ : Int) * 565 by omega] at hrd
  have HRD := Lib.hid hrd
  have HW := Lib.hid hw1
  have HB := Lib.hid hb1
  have HH := Lib.hid hh
  have hq1 : w1.cell? ⟨q, 0, none⟩ = some (.pointer (some ⟨p, 0, none⟩)) := (hb1.cell (p := ⟨q, 0, none⟩) hql).trans hq
  have hqa : (w.alloc (.cells #[.string ⟨#[]⟩, .int .i64 0] 47)).cell? ⟨q, 0, none⟩ = some (.pointer (some ⟨p, 0, none⟩)) := by rw [← hw1]; exact hq1
  have e2 : wrap64 ((at_ : Int) * 565) = (at_ : Int) * 565 := IntWalk.wrap64_in _ (by omega)
  have hz := zero_label
  clear hrd hb1 hh hS h hsm hq hql hw1 hq1
  go_enter Try.func17, Try.ntmps17
  go_wp2_with fail
  rw [← HW.out]
  refine HRD.out.mono ?_
  rintro e w3 ⟨v, rfl, hb3, hr3, ho3⟩
  have HB3 := Lib.hid (HB.out.trans (hb3.mono HB.out.size))
  have HH3 := Lib.hid (show w3.heap[w.heap.size]? = some (.cells #[.string ⟨#[]⟩, .int .i64 0] 47 (0, 0)) from (hb3.block _ (blk_lt HH.out)).trans HH.out)
  have hlt3 := blk_lt HH3.out
  have HSL := Lib.hid hsh
  obtain ⟨sb, so, sk, hv, hsk, hskm, hsb, hsc⟩ := hr3.cells (by intro e; subst e; simp at hsh)
  rw [hsh] at hv hsk
  subst hv
  have s0 : w3.cell? ⟨sb, so, none⟩ = some (.int .u8 1) := by
    have := hsc 0 (by omega)
    rw [h1] at this
    exact this
  unfold maxLen at hskm
  have HR3 := Lib.hid hr3
  have HAL : Hid (∀ o : Obj, RdB (w3.alloc o) (.slice (some ⟨sb, so, none⟩) 565 sk) S) := Lib.hid fun o => HR3.out.below ((Below.refl _ _).alloc (Nat.le_refl _) o) (Nat.le_refl _)
  clear hb3 hr3 ho3 hsc h1 hsh
  have HW5 : Hid (Below w.heap.size w (w3.alloc (.cells #[.string s1, .int .i64 (z : Int)] 47))) := Lib.hid (HB3.out.alloc HB3.out.size _)
  obtain ⟨va, vk, w6, hcv, hr6, hb6, ho6⟩ := str_bytes2 (w3.alloc (.cells #[.string s1, .int .i64 (z : Int)] 47)) s3 (by unfold maxLen; omega)
  have HR6 := Lib.hid hr6
  have HO6 : Hid (∀ k, (Value.slice va s3.data.toList.length vk).ownBlock = some k → w.heap.size ≤ k) := Lib.hid fun k hk => Nat.le_trans HW5.out.size (ho6 k hk)
  have HB6 : Hid (Below w.heap.size w w6) := Lib.hid (HW5.out.trans (hb6.mono HW5.out.size))
  have h5 : (w3.alloc (.cells #[.string s1, .int .i64 (z : Int)] 47)).heap[w3.heap.size]? = some (.cells #[.string s1, .int .i64 (z : Int)] 47 (0, 0)) := heap_alloc_new w3 _
  have h6 : w6.heap[w3.heap.size]? = some (.cells #[.string s1, .int .i64 (z : Int)] 47 (0, 0)) := (hb6.block _ (blk_lt h5)).trans h5
  have h7 : w6.heap[w.heap.size]? = some (.cells #[.string ⟨#[]⟩, .int .i64 0] 47 (0, 0)) := (hb6.block _ (by simp; omega)).trans ((((Below.refl w3.heap.size w3).alloc (Nat.le_refl _) (.cells #[.string s1, .int .i64 (z : Int)] 47)).block _ hlt3).trans HH3.out)
  have HNE : Hid (∀ k, (Value.slice va s3.data.toList.length vk).ownBlock = some k → k ≠ w.heap.size) := Lib.hid fun k hk => by have := ho6 k hk; simp at this; omega
  have HLT6 : Hid (w3.heap.size < w6.drew.heap.size) := Lib.hid (blk_lt h6)
  have HX6 : Hid (RdB w6 (.slice (some ⟨sb, so, none⟩) 565 sk) S) := Lib.hid ((HAL.out _).below hb6 (Nat.le_refl _))
  have C0 := Lib.hid (show w6.cell? ⟨w3.heap.size, 0, none⟩ = some (.string s1) from blk_cell h6)
  have C1 := Lib.hid (show w6.cell? ⟨w3.heap.size, 1, none⟩ = some (.int .i64 (z : Int)) from blk_cell h6)
  have HH7 := Lib.hid h7
  have hsz := size_list s3
  clear hr6 ho6 hb6 h5 h6 h7
  go_wp2_with fail
  refine (HG1.out _ _ (HAL.out _)).mono ?_
  rintro e w' ⟨rfl, rfl⟩
  go_wp2_with fail
  refine (HG2.out _ _ (HAL.out _)).mono ?_
  rintro e w' ⟨rfl, rfl⟩
  go_wp2_with fail
  refine (HG3.out _ _ (HAL.out _)).mono ?_
  rintro e w' ⟨rfl, rfl⟩
  have HMAY : Hid (Calls Try.prog 22 #[labV s1 (z : Int), .slice va s3.data.toList.length vk] w6.drew fun e w' => e = .returned (.bool (keptC s1 (z : Int) s3.data.toList)) ∧ Below w6.drew.heap.size w6.drew w') := Lib.hid (cmay_any s1 (by unfold maxLen; omega) (z : Int) _ _ _ (HR6.out.below ((Below.refl w6.heap.size w6).drew) (Nat.le_refl _)))
  have HB6D : Hid (Below w.heap.size w w6.drew) := Lib.hid HB6.out.drew
  go_wp2_with fail
  rcases Bool.eq_false_or_eq_true (keptC s1 (z : Int) s3.data.toList) with hkc | hkc
  rotate_left
  · have hkf : keptC s1 (z : Int) s3.data.toList = false := hkc
    rw [hkc] at HMAY
    have HIF : Hid (¬ (keptC s1 (z : Int) s3.data.toList = true ∧ S.drop 1 = bodyC s1 (z : Int) s3.data.toList)) := Lib.hid (by rw [hkf]; simp)
    clear hkc hkf
    refine wp_region_plan [(true, 0), (true, 1), (false, 2), (true, 3), (true, 4), (true, 5), (true, 6), (true, 7), (true, 8), (false, 9), (false, 10), (true, 11), (true, 12)] (by kernel_rfl) (by kernel_rfl) (by kernel_rfl) (by kernel_rfl) (by kernel_rfl) ?_
    simp only [planO, List.drop_succ_cons, List.drop_zero]
    refine PlanO.take (v := ?vn0) (by kernel_rfl) ?yn0 ?rn0
    case yn0 => (intro wz hz; have c0 := Ext.at_ hz C0.out; have c1 := Ext.at_ hz C1.out; go_simp; try with_reducible rfl)
    (try simp only [Act.put, List.setIfInBounds_toArray, List.set_cons_zero, List.set_cons_succ])
    refine PlanO.take (v := ?vn1) (by kernel_rfl) ?yn1 ?rn1
    case yn1 => (intro wz hz; go_simp; try with_reducible rfl)
    (try simp only [Act.put, List.setIfInBounds_toArray, List.set_cons_zero, List.set_cons_succ])
    refine PlanO.keep (fun K hK => ?_)
    go_simp
    go_at_call 22
    refine HMAY.out.mono ?_
    rintro e w7 ⟨rfl, hb7⟩
    have HE7 : Hid (Below w6.drew.heap.size w6.drew w7) := Lib.hid hb7
    go_wp2_with fail
    refine hK.out _ _ hb7 ?_
    clear hK K
    (try simp only [Act.put, List.setIfInBounds_toArray, List.set_cons_zero, List.set_cons_succ])
    refine PlanO.take (v := ?vn3) (by kernel_rfl) ?yn3 ?rn3
    case yn3 => (intro wz hz; go_simp; try with_reducible rfl)
    (try simp only [Act.put, List.setIfInBounds_toArray, List.set_cons_zero, List.set_cons_succ])
    refine PlanO.take (v := ?vn4) (by kernel_rfl) ?yn4 ?rn4
    case yn4 => (intro wz hz; go_simp; try with_reducible rfl)
    (try simp only [Act.put, List.setIfInBounds_toArray, List.set_cons_zero, List.set_cons_succ])
    refine PlanO.skip (by kernel_rfl) ?_
    (try simp only [Act.put, List.setIfInBounds_toArray, List.set_cons_zero, List.set_cons_succ])
    refine PlanO.skip (by kernel_rfl) ?_
    (try simp only [Act.put, List.setIfInBounds_toArray, List.set_cons_zero, List.set_cons_succ])
    refine PlanO.skip (by kernel_rfl) ?_
    (try simp only [Act.put, List.setIfInBounds_toArray, List.set_cons_zero, List.set_cons_succ])
    refine PlanO.skip (by kernel_rfl) ?_
    (try simp only [Act.put, List.setIfInBounds_toArray, List.set_cons_zero, List.set_cons_succ])
    refine PlanO.skip (by kernel_rfl) ?_
    (try simp only [Act.put, List.setIfInBounds_toArray, List.set_cons_zero, List.set_cons_succ])
    refine PlanO.skip (by kernel_rfl) ?_
    (try simp only [Act.put, List.setIfInBounds_toArray, List.set_cons_zero, List.set_cons_succ])
    refine PlanO.skip (by kernel_rfl) ?_
    (try simp only [Act.put, List.setIfInBounds_toArray, List.set_cons_zero, List.set_cons_succ])
    refine PlanO.take (v := ?vn12) (by kernel_rfl) ?yn12 ?rn12
    case yn12 => (intro wz hz; go_simp; try with_reducible rfl)
    (try simp only [Act.put, List.setIfInBounds_toArray, List.set_cons_zero, List.set_cons_succ])
    refine PlanO.done (NoPanic.normal ?_)
    have HB7 : Hid (Below w.heap.size w w7) := Lib.hid (HB6D.out.trans (HE7.out.mono HB6D.out.size))
    have h7 : w7.heap[w.heap.size]? = some (.cells #[.string ⟨#[]⟩, .int .i64 0] 47 (0, 0)) := (HE7.out.block w.heap.size (blk_lt HH7.out)).trans HH7.out
    have d0 : w7.cell? ⟨w.heap.size, 0, none⟩ = some (.string ⟨#[]⟩) := blk_cell h7
    have d1 : w7.cell? ⟨w.heap.size, 1, none⟩ = some (.int .i64 0) := blk_cell h7
    have f0 : w7.frozen? ⟨w.heap.size, 0, none⟩ = false := blk_free h7
    have f1 : w7.frozen? ⟨w.heap.size, 1, none⟩ = false := blk_free h7
    have HF := Lib.hid (two_set h7 (.string ⟨#[]⟩) (.int .i64 0))
    have HBF := Lib.hid (two_below HB7.out (.string ⟨#[]⟩) (.int .i64 0))
    clear h7
    go_wp2_with fail
    refine bodyPost_ret (results_row_three rfl _ _ w.heap.size 47 #[.string ⟨#[]⟩, .int .i64 0] (0, 0) _ rfl HF.out Try.underlying47 rfl (by kernel_rfl)) rfl ?_
    exact .inr ⟨HIF.out, rfl, HBF.out⟩
  · rw [hkc] at HMAY
    have HKC := Lib.hid hkc
    have HBODY : Hid (∀ wz, Below w6.drew.heap.size w6.drew wz → Calls Try.prog 27 #[labV s1 (z : Int), .slice va s3.data.toList.length vk] wz (RetB wz.heap.size wz (bodyC s1 (z : Int) s3.data.toList))) := Lib.hid fun wz hz => cbody_any s1 (z : Int) _ _ hkc wz ((HR6.out.below ((Below.refl w6.heap.size w6).drew) (Nat.le_refl _)).below hz (Nat.le_refl _))
    have hpart : RdB w6 (.slice (some ⟨sb, so + 1, none⟩) 564 (sk - 1)) (S.drop 1) := by
      have h := RdB.part (l := S) (by rw [HSL.out]; exact HX6.out) 1 565 (by omega) (by rw [HSL.out]; omega)
      have hdl : (S.drop 1).length = 564 := by rw [List.length_drop, HSL.out]
      rw [show (565 - 1 : Nat) = 564 by rfl, List.take_of_length_le (by omega)] at h
      exact h
    have HTAIL : Hid (RdB w6.drew (.slice (some ⟨sb, so + 1, none⟩) 564 (sk - 1)) (S.drop 1)) := Lib.hid (hpart.below ((Below.refl w6.heap.size w6).drew) (Nat.le_refl _))
    obtain ⟨ST, hST⟩ : ∃ ST, ST = S.drop 1 := ⟨_, rfl⟩
    rw [← hST] at HTAIL
    have HST := Lib.hid hST
    obtain ⟨BB, hBB⟩ : ∃ BB, BB = bodyC s1 (z : Int) s3.data.toList := ⟨_, rfl⟩
    rw [← hBB] at HBODY
    have HBB := Lib.hid hBB
    clear hBB
    obtain ⟨eqb, heqb⟩ : ∃ eqb, eqb = decide (ST = BB) := ⟨_, rfl⟩
    have HEQ : Hid (∀ (wz : World) (ba : Option Addr) (bk : Nat), RdB wz (.slice (some ⟨sb, so + 1, none⟩) 564 (sk - 1)) ST → RdB wz (.slice ba BB.length bk) BB → Calls Try.prog 40 #[.slice (some ⟨sb, so + 1, none⟩) 564 (sk - 1), .slice ba BB.length bk] wz fun e w' => e = .returned (.bool eqb) ∧ Below wz.heap.size wz w') := Lib.hid fun wz ba bk h1 h2 => heqb ▸ cequal_any wz _ ba 564 BB.length _ bk ST BB h1 h2
    have HEB := Lib.hid heqb
    clear heqb
    have hsk1 : ¬ sk = 1 := by omega
    have hsk2 : 1 < sk := by omega
    clear hkc hpart hST
    refine wp_region_plan [(true, 0), (true, 1), (false, 2), (true, 3), (true, 4), (true, 5), (true, 6), (true, 7), (true, 8), (false, 9), (false, 10), (true, 11), (true, 12)] (by kernel_rfl) (by kernel_rfl) (by kernel_rfl) (by kernel_rfl) (by kernel_rfl) ?_
    simp only [planO, List.drop_succ_cons, List.drop_zero]
    refine PlanO.take (v := ?vy0) (by kernel_rfl) ?yy0 ?ry0
    case yy0 => (intro wz hz; have c0 := Ext.at_ hz C0.out; have c1 := Ext.at_ hz C1.out; go_simp; try with_reducible rfl)
    (try simp only [Act.put, List.setIfInBounds_toArray, List.set_cons_zero, List.set_cons_succ])
    refine PlanO.take (v := ?vy1) (by kernel_rfl) ?yy1 ?ry1
    case yy1 => (intro wz hz; go_simp; try with_reducible rfl)
    (try simp only [Act.put, List.setIfInBounds_toArray, List.set_cons_zero, List.set_cons_succ])
    refine PlanO.keep (fun K hK => ?_)
    go_simp
    go_at_call 22
    refine HMAY.out.mono ?_
    rintro e w7 ⟨rfl, hb7⟩
    have HE7 : Hid (Below w6.drew.heap.size w6.drew w7) := Lib.hid hb7
    go_wp2_with fail
    refine hK.out _ _ hb7 ?_
    clear hK K
    (try simp only [Act.put, List.setIfInBounds_toArray, List.set_cons_zero, List.set_cons_succ])
    refine PlanO.take (v := ?vy3) (by kernel_rfl) ?yy3 ?ry3
    case yy3 => (intro wz hz; go_simp; try with_reducible rfl)
    (try simp only [Act.put, List.setIfInBounds_toArray, List.set_cons_zero, List.set_cons_succ])
    refine PlanO.take (v := ?vy4) (by kernel_rfl) ?yy4 ?ry4
    case yy4 => (intro wz hz; go_simp; try with_reducible rfl)
    (try simp only [Act.put, List.setIfInBounds_toArray, List.set_cons_zero, List.set_cons_succ])
    refine PlanO.take (v := ?vy5) (by kernel_rfl) ?yy5 ?ry5
    case yy5 => (intro wz hz; go_simp; try with_reducible rfl)
    (try simp only [Act.put, List.setIfInBounds_toArray, List.set_cons_zero, List.set_cons_succ])
    refine PlanO.take (v := ?vy6) (by kernel_rfl) ?yy6 ?ry6
    case yy6 => (intro wz hz; go_simp; try with_reducible rfl)
    (try simp only [Act.put, List.setIfInBounds_toArray, List.set_cons_zero, List.set_cons_succ])
    refine PlanO.take (v := ?vy7) (by kernel_rfl) ?yy7 ?ry7
    case yy7 => (intro wz hz; have c0 := (Below.cell (p := ⟨w3.heap.size, 0, none⟩) hz HLT6.out).trans (Ext.at_ HE7.out C0.out); have c1 := (Below.cell (p := ⟨w3.heap.size, 1, none⟩) hz HLT6.out).trans (Ext.at_ HE7.out C1.out); go_simp; try with_reducible rfl)
    (try simp only [Act.put, List.setIfInBounds_toArray, List.set_cons_zero, List.set_cons_succ])
    refine PlanO.take (v := ?vy8) (by kernel_rfl) ?yy8 ?ry8
    case yy8 => (intro wz hz; go_simp; try with_reducible rfl)
    (try simp only [Act.put, List.setIfInBounds_toArray, List.set_cons_zero, List.set_cons_succ])
    refine PlanO.keep (fun K hK => ?_)
    go_simp
    go_at_call 27
    refine (HBODY.out w7 HE7.out).mono ?_
    rintro e w8 ⟨vb, rfl, hob, hb8⟩
    obtain ⟨ba, bk, hvb⟩ := rdB_form2 hob.read
    subst hvb
    have HO8 := Lib.hid hob.read
    have HE8 : Hid (Below w6.drew.heap.size w6.drew w8) := Lib.hid (belowT HE7.out hb8)
    clear hob
    go_wp2_with fail
    refine hK.out _ _ (hb8.mono HE7.out.size) ?_
    clear hK K
    (try simp only [Act.put, List.setIfInBounds_toArray, List.set_cons_zero, List.set_cons_succ])
    refine PlanO.keep (fun K hK => ?_)
    go_simp
    go_at_call 40
    refine (HEQ.out _ _ _ (HTAIL.out.below HE8.out (Nat.le_refl _)) HO8.out).mono ?_
    rintro e w9 ⟨rfl, hb9⟩
    have HE9 : Hid (Below w6.drew.heap.size w6.drew w9) := Lib.hid (belowT HE8.out hb9)
    go_wp2_with fail
    refine hK.out _ _ (hb9.mono HE8.out.size) ?_
    clear hK K
    (try simp only [Act.put, List.setIfInBounds_toArray, List.set_cons_zero, List.set_cons_succ])
    refine PlanO.take (v := ?vy11) (by kernel_rfl) ?yy11 ?ry11
    case yy11 => (intro wz hz; go_simp; try with_reducible rfl)
    (try simp only [Act.put, List.setIfInBounds_toArray, List.set_cons_zero, List.set_cons_succ])
    refine PlanO.take (v := ?vy12) (by kernel_rfl) ?yy12 ?ry12
    case yy12 => (intro wz hz; go_simp; try with_reducible rfl)
    (try simp only [Act.put, List.setIfInBounds_toArray, List.set_cons_zero, List.set_cons_succ])
    refine PlanO.done (NoPanic.normal ?_)
    have HB9 : Hid (Below w.heap.size w w9) := Lib.hid (HB6D.out.trans (HE9.out.mono HB6D.out.size))
    have h9 : w9.heap[w.heap.size]? = some (.cells #[.string ⟨#[]⟩, .int .i64 0] 47 (0, 0)) := (HE9.out.block w.heap.size (blk_lt HH7.out)).trans HH7.out
    have d0 : w9.cell? ⟨w.heap.size, 0, none⟩ = some (.string ⟨#[]⟩) := blk_cell h9
    have d1 : w9.cell? ⟨w.heap.size, 1, none⟩ = some (.int .i64 0) := blk_cell h9
    have f0 : w9.frozen? ⟨w.heap.size, 0, none⟩ = false := blk_free h9
    have f1 : w9.frozen? ⟨w.heap.size, 1, none⟩ = false := blk_free h9
    have c0 := Ext.at_ HE9.out C0.out
    have c1 := Ext.at_ HE9.out C1.out
    cases heb : eqb with
    | true =>
      have hd : ST = BB := by have h := HEB.out; rw [heb] at h; simpa using h.symm
      have HF := Lib.hid (two_set h9 (.string s1) (.int .i64 (z : Int)))
      have HBF := Lib.hid (two_below HB9.out (.string s1) (.int .i64 (z : Int)))
      have hrr : RdB w9 (.slice va s3.data.toList.length vk) s3.data.toList := (RdB.below (HR6.out.below ((Below.refl w6.heap.size w6).drew) (Nat.le_refl _)) HE9.out (Nat.le_refl _))
      have HRF := Lib.hid (show RdB ((w9.setCell ⟨w.heap.size, 0, none⟩ (.string s1)).setCell ⟨w.heap.size, 1, none⟩ (.int .i64 (z : Int))) (.slice va s3.data.toList.length vk) s3.data.toList from hrr.kept (R := fun k => k ≠ w.heap.size) (((Kept.refl _ w9).setCell (by simp) _).setCell (by simp) _) (fun k hk => HNE.out k hk))
      clear hrr
      have HD := Lib.hid hd
      clear h9 hd
      go_wp2_with fail
      refine bodyPost_ret (results_row_three rfl _ _ w.heap.size 47 #[.string s1, .int .i64 (z : Int)] (0, 0) _ rfl HF.out Try.underlying47 rfl (by kernel_rfl)) rfl ?_
      exact .inl ⟨⟨HKC.out, HST.out.symm.trans (HD.out.trans HBB.out)⟩, _, rfl, HRF.out, HO6.out, HBF.out⟩
    | false =>
      have hd : ¬ ST = BB := by have h := HEB.out; rw [heb] at h; simpa using h.symm
      have HF := Lib.hid (two_set h9 (.string ⟨#[]⟩) (.int .i64 0))
      have HBF := Lib.hid (two_below HB9.out (.string ⟨#[]⟩) (.int .i64 0))
      have HD := Lib.hid hd
      clear h9 hd
      go_wp2_with fail
      refine bodyPost_ret (results_row_three rfl _ _ w.heap.size 47 #[.string ⟨#[]⟩, .int .i64 0] (0, 0) _ rfl HF.out Try.underlying47 rfl (by kernel_rfl)) rfl ?_
      exact .inr ⟨fun h => HD.out (HST.out.trans (h.2.trans HBB.out.symm)), rfl, HBF.out⟩

/-- What the disk tells of the cache's file. -/
def cFile (d : PD) : List UInt8 := if d.down then [] else match dfind d.names cName with
  | none => []
  | some id => (d.file id).now

theorem read_slot (d : PD) (at_ : Nat) : (d.read cName ((at_ * 565 : Nat) : Int) 565).1 = slotF (cFile d) at_ := by
  unfold PD.read cFile slotF
  by_cases hd : d.down = true
  · simp [hd]
  · simp only [hd, Bool.false_eq_true, if_false]
    cases dfind d.names cName with
    | none => simp
    | some id =>
      simp only
      by_cases hl : ((d.file id).now.length : Int) < ((at_ * 565 : Nat) : Int)
      · rw [if_pos (.inr (.inl hl)), List.drop_eq_nil_of_le (by omega)]
        simp
      · rw [if_neg (by omega)]
        rfl

theorem cread_any {g : Gh} {w : World} {q p : Nat} {d : PD} (h : DiskAt g w p d) (hsm : Small d) (hq : w.cell? ⟨q, 0, none⟩ = some (.pointer (some ⟨p, 0, none⟩))) (hql : q < w.heap.size) (at_ : Nat) (hat : at_ < 64) :
    Calls Try.prog 17 #[.pointer (some ⟨q, 0, none⟩), .int .i64 (at_ : Int)] w fun e w' => (∃ (nm : ByteArray) (pc : Int) (b : List UInt8) (v : Value), HasC (cFile d) at_ nm pc b ∧ e = .returned (.tuple #[labV nm pc, v, .bool true]) ∧ RdB w' v b ∧ (∀ j, v.ownBlock = some j → w.heap.size ≤ j) ∧ Below w.heap.size w w') ∨ ((∀ nm pc b, ¬ HasC (cFile d) at_ nm pc b) ∧ ReadNo w e w') := by
  have hS : d.read cName ((at_ * 565 : Nat) : Int) 565 = (slotF (cFile d) at_, (d.read cName ((at_ * 565 : Nat) : Int) 565).2) := by rw [← read_slot]
  by_cases h565 : (slotF (cFile d) at_).length = 565
  · by_cases h1 : (slotF (cFile d) at_).getD 0 0 = 1
    · obtain ⟨s1, n1, o1, e1, f1⟩ := ansT_form (textAt (slotF (cFile d) at_) 5)
      obtain ⟨z, n2, o2, e2, f2⟩ := ans3_form (getAt (slotF (cFile d) at_) (n1 : Int))
      obtain ⟨s3, n3, o3, e3, f3⟩ := ansT_form (textAt (slotF (cFile d) at_) (n2 : Int))
      have hs1 : s1.size ≤ 600 := by
        rcases f1 with ⟨_, rfl⟩ | f
        · decide
        · have h2 := textAt_lenc f
          have h3 := slot_len (cFile d) at_
          rw [size_list] at h2; omega
      have hs3 : s3.size ≤ 600 := by
        rcases f3 with ⟨_, rfl⟩ | f
        · decide
        · have h2 := textAt_lenc f
          have h3 := slot_len (cFile d) at_
          rw [size_list] at h2; omega
      refine (cread_full h hsm hq hql at_ hat _ hS h565 h1 s1 s3 z n1 n2 n3 o1 o2 o3 e1 e2 e3 hs1 hs3).mono ?_
      have hcons : slotF (cFile d) at_ = 1 :: (slotF (cFile d) at_).drop 1 := by
        generalize slotF (cFile d) at_ = S at *
        cases S with
        | nil => simp at h565
        | cons x r => simp at h1; subst h1; rfl
      rintro e w' (⟨⟨hk, hb⟩, v, rfl, hr, ho, hbl⟩ | ⟨hno, hr⟩)
      · exact .inl ⟨s1, (z : Int), s3.data.toList, v, ⟨hk, by rw [hcons, hb]⟩, rfl, hr, ho, hbl⟩
      · refine .inr ⟨fun nm pc b hh => hno ?_, hr⟩
        obtain ⟨p1, p2, p3, q1, q2, q3⟩ := has_parse hh
        obtain ⟨_, _, k3, _, _⟩ := kept_facts hh.1
        rw [q1] at f1
        rcases f1 with ⟨f, _⟩ | f
        · cases f
        obtain ⟨fa, rfl⟩ := Prod.mk.injEq .. ▸ Option.some.inj f
        rw [q2] at f2
        rcases f2 with ⟨f, _⟩ | f
        · cases f
        obtain ⟨fb, rfl⟩ := Prod.mk.injEq .. ▸ Option.some.inj f
        rw [q3] at f3
        rcases f3 with ⟨f, _⟩ | f
        · cases f
        obtain ⟨fc, _⟩ := Prod.mk.injEq .. ▸ Option.some.inj f
        have en : nm = s1 := by
          cases nm with
          | mk x => cases s1 with
            | mk y => congr 1; exact Array.toList_inj.1 fa
        have ez : pc = (z : Int) := by omega
        subst en ez
        rw [← fc]
        refine ⟨hh.1, ?_⟩
        have h2 := hh.2
        rw [hcons] at h2
        exact (List.cons.inj h2).2
    · refine (cread_first h hsm hq hql at_ hat _ hS h565 h1).mono fun e w' hr => .inr ⟨fun nm pc b hh => h1 ?_, hr⟩
      rw [hh.2]; rfl
  · refine (cread_short h hsm hq hql at_ hat _ hS h565).mono fun e w' hr => .inr ⟨fun nm pc b hh => h565 ?_, hr⟩
    rw [hh.2, List.length_cons, body_len hh.1]
end Go.Proofs.Ytmlijnekidihbaa
