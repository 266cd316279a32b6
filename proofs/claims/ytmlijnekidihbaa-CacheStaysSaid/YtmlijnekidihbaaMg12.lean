import Derived.Test.YtmlijnekidihbaaMg09
import Derived.Test.YtmlijnekidihbaaMg10
import Derived.Test.YtmlijnekidihbaaMg11
import Derived.Test.YtmlijnekidihbaaMg01
import Derived.Test.YtmlijnekidihbaaMg05

/-
  A cache's Open.
-/
namespace Go.Proofs.Ytmlijnekidihbaa
open Go.RowKit

theorem zero_cache (w : World) : (zeroValue 52).run Try.prog w = .ok (.agg (#[.pointer none, .int .i64 0] ++ (slCells zeros).toArray ++ #[.int .i64 0])) w := by kernel_rfl

set_option maxRecDepth 100000 in
set_option maxHeartbeats 4000000 in
set_option linter.unusedSimpArgs false in
theorem copen_at {g : Gh} {w : World} {p : Nat} {d : PD} (h : DiskAt g w p d) (hsm : Small d) (m : Int) :
    Calls Try.prog 9 #[.pointer (some ⟨p, 0, none⟩), .int .i64 m] w fun e w' => ∃ (q : Nat) (l : List Sl), e = .returned (.pointer (some ⟨q, 0, none⟩)) ∧ w.heap.size ≤ q ∧ CS g w' q p d (limC m) l 0 ∧ RO d (limC m) 64 l ∧ CSt q g g w w' := by
  have hlim : min (max m 0) 64 = ((limC m : Nat) : Int) := by unfold limC; omega
  have hl64 : limC m ≤ 64 := by unfold limC; omega
  obtain ⟨w1, hw1⟩ : ∃ w1, w1 = w.alloc (.cells (cCells p (limC m) zeros 0) 52) := ⟨_, rfl⟩
  have hb1 : Below w.heap.size w w1 := by subst hw1; exact (Below.refl _ _).alloc (Nat.le_refl _) _
  have hca : CAt w1 w.heap.size p (limC m) zeros 0 := ⟨by subst hw1; exact heap_alloc_new w _, by simp [zeros], hl64, fun s hs => by unfold zeros at hs; rw [(List.mem_replicate.1 hs).2]; exact Nat.zero_le _⟩
  have hcs : CS g w1 w.heap.size p d (limC m) zeros 0 := ⟨h.below hb1, hca, fun hf => by have := h.olt _ hf; omega⟩
  have hst : CSt w.heap.size g g w w1 := CSt.below hb1
  have HW := Lib.hid (show w.alloc (.cells (.pointer (some ⟨p, 0, none⟩) :: .int .i64 ((limC m : Nat) : Int) :: (slCells zeros ++ [Value.int .i64 0])).toArray 52) = w1 from hw1.symm)
  have HCS := Lib.hid hcs
  have HST := Lib.hid hst
  have HSM := Lib.hid hsm
  have HRO := Lib.hid (ro_start d (limC m))
  have hz := zero_cache
  have hzl := zero_label
  have hqs : w.heap.size < w1.heap.size := hcs.lt
  clear hca hcs hst h hsm hw1 hb1
  generalize limC m = n at *
  go_enter Try.func9, Try.ntmps9
  go_wp2_with fail
  rw [HW.out]
  generalize hqq : w.heap.size = q at *
  have HQQ := Lib.hid hqq
  clear hqq
  go_loopw [16] (fun x wr => ∃ (k : Nat) (l : List Sl), k ≤ 64 ∧ x = .int .i64 (k : Int) ∧ Hid (CS g wr q p d n l 0) ∧ Hid (RO d n k l) ∧ Hid (CSt q g g w wr)) (fun x _ => 64 - (intOf x).toNat)
  case atStart => exact ⟨0, zeros, by omega, rfl, HCS, HRO, HST⟩
  case round =>
    obtain ⟨k, l, hk, rfl, HC, HR, HT⟩ := hrel
    by_cases hlt : k < 64
    · have hrd := cread_any HC.out.da HSM.out HC.out.ca.ptr HC.out.lt k hlt
      have HRD := Lib.hid hrd
      clear hrd
      have hs := HR.out.rest k (Nat.le_refl _) hlt
      have HS := Lib.hid hs
      clear hs
      go_wp2_with fail
      refine HRD.out.mono ?_
      rintro e w5 (⟨nm, pc, b, v, hh, rfl, hv, hvo, hb5⟩ | ⟨hno, rfl, hb5⟩)
      · have HH := Lib.hid hh
        obtain ⟨w6, hw6⟩ : ∃ w6, w6 = w5.alloc (.cells #[.string nm, .int .i64 pc] 47) := ⟨_, rfl⟩
        have hb6 : Below wr.heap.size wr w6 := by subst hw6; exact hb5.alloc hb5.size _
        have hh6 : w6.heap[w5.heap.size]? = some (.cells #[.string nm, .int .i64 pc] 47 (0, 0)) := by subst hw6; exact heap_alloc_new w5 _
        have HW6 := Lib.hid hw6
        have HB6 := Lib.hid hb6
        have HH6 := Lib.hid hh6
        have HF := Lib.hid (cfind_any (HC.out.below hb6).ca nm pc)
        have hki : (k : Int) < 64 := by omega
        clear hh hv hvo hb5 hb6 hh6 hw6
        go_wp2_with fail
        rw [← HW6.out]
        refine HF.out.mono ?_
        rintro e w7 ⟨r, rfl, hr, hb7⟩
        have HB7 := Lib.hid (HB6.out.trans (hb7.mono HB6.out.size))
        have hh7 : w7.heap[w5.heap.size]? = some (.cells #[.string nm, .int .i64 pc] 47 (0, 0)) := (hb7.block _ (blk_lt HH6.out)).trans HH6.out
        have HH7 := Lib.hid hh7
        clear hb7 hh7
        by_cases hr0 : 0 ≤ r
        · have hbad : ∀ l0, OkC d l0 → CI d n l0 → False := fun l0 ho hc => by
            have h1 := (HR.out.l0 hlt HH.out ho hc).1
            rcases hr with ⟨h2, _⟩ | ⟨m', s', h2, _, _, h3⟩
            · omega
            · have := h1 s' (List.mem_of_getElem? h2)
              rw [h3] at this; cases this
          have HR2 := Lib.hid (HR.out.stale hlt hbad)
          have hC7 := HC.out.below HB7.out
          have hC8 := hC7.set1 (j := 0) (s' := ⟨2, ⟨#[]⟩, 0, 0⟩) (v := .int .i64 2) HS.out (by decide) rfl (Nat.le_refl _)
          have HC8 := Lib.hid hC8
          have HT8 := Lib.hid ((HT.out.trans (CSt.below HB7.out)).trans (CSt.store (2 + k * 4 + 0) (.int .i64 2)))
          have fk : w7.frozen? ⟨q, 2 + k * 4, none⟩ = false := hC7.ca.free _
          have ck := (hC7.ca.four HS.out).1
          clear hr hbad hC7 hC8
          go_wp2_with fail
          exact ⟨⟨k + 1, _, hlt, by go_num, HC8, HR2, HT8⟩, by simp [intOf]; omega⟩
        · have hno : ∀ s ∈ l, s.isL nm pc = false := by
            rcases hr with ⟨_, h1⟩ | ⟨m', s', _, _, h1, _⟩
            · exact h1
            · omega
          have HNO := Lib.hid hno
          have hC7d : CS g w7.drew q p d n l 0 := (HC.out.below HB7.out).below ((Below.refl _ _).drew)
          have HC7 := Lib.hid hC7d
          have HLEN := Lib.hid (clen_any hC7d.ca)
          have CM : Hid (w7.cell? ⟨q, 1, none⟩ = some (.int .i64 (n : Int))) := Lib.hid (HC.out.below HB7.out).ca.mostc
          have hfl : fullN l ≤ 64 := by have := HR.out.few; omega
          clear hr hno hC7d
          go_wp2_with fail
          refine wp_region_plan [(true, 0), (true, 2), (true, 3), (true, 4), (true, 5), (false, 1), (true, 6), (true, 7)] (by kernel_rfl) (by kernel_rfl) (by kernel_rfl) (by kernel_rfl) (by kernel_rfl) ?_
          simp only [planO, List.drop_succ_cons, List.drop_zero]
          refine PlanO.take (v := ?vn0) (by kernel_rfl) ?yn0 ?rn0
          case yn0 => (intro wz hz; go_simp; try with_reducible rfl)
          (try simp only [Act.put, List.setIfInBounds_toArray, List.set_cons_zero, List.set_cons_succ])
          refine PlanO.take (v := ?vn2) (by kernel_rfl) ?yn2 ?rn2
          case yn2 => (intro wz hz; go_simp; try with_reducible rfl)
          (try simp only [Act.put, List.setIfInBounds_toArray, List.set_cons_zero, List.set_cons_succ])
          refine PlanO.take (v := ?vn3) (by kernel_rfl) ?yn3 ?rn3
          case yn3 => (intro wz hz; go_simp; try with_reducible rfl)
          (try simp only [Act.put, List.setIfInBounds_toArray, List.set_cons_zero, List.set_cons_succ])
          refine PlanO.take (v := ?vn4) (by kernel_rfl) ?yn4 ?rn4
          case yn4 => (intro wz hz; go_simp; try with_reducible rfl)
          (try simp only [Act.put, List.setIfInBounds_toArray, List.set_cons_zero, List.set_cons_succ])
          refine PlanO.take (v := ?vn5) (by kernel_rfl) ?yn5 ?rn5
          case yn5 => (intro wz hz; have cm := Ext.at_ hz CM.out; go_simp; try with_reducible rfl)
          (try simp only [Act.put, List.setIfInBounds_toArray, List.set_cons_zero, List.set_cons_succ])
          refine PlanO.keep (fun K hK => ?_)
          go_simp
          go_at_call 15
          refine HLEN.out.mono ?_
          rintro e w8 ⟨rfl, hb8⟩
          have HE8 : Hid (Below w7.drew.heap.size w7.drew w8) := Lib.hid hb8
          go_wp2_with fail
          refine hK.out _ _ hb8 ?_
          clear hK K
          (try simp only [Act.put, List.setIfInBounds_toArray, List.set_cons_zero, List.set_cons_succ])
          refine PlanO.take (v := ?vn6) (by kernel_rfl) ?yn6 ?rn6
          case yn6 => (intro wz hz; go_simp; try with_reducible rfl)
          (try simp only [Act.put, List.setIfInBounds_toArray, List.set_cons_zero, List.set_cons_succ])
          refine PlanO.take (v := ?vn7) (by kernel_rfl) ?yn7 ?rn7
          case yn7 => (intro wz hz; go_simp; try with_reducible rfl)
          (try simp only [Act.put, List.setIfInBounds_toArray, List.set_cons_zero, List.set_cons_succ])
          refine PlanO.done (NoPanic.normal ?_)
          by_cases hfn : fullN l = n
          · have hbad : ∀ l0, OkC d l0 → CI d n l0 → False := fun l0 ho hc => by
              have h1 := (HR.out.l0 hlt HH.out ho hc).2
              omega
            have HR2 := Lib.hid (HR.out.stale hlt hbad)
            have hC8 := HC7.out.below HE8.out
            have hC9 := hC8.set1 (j := 0) (s' := ⟨2, ⟨#[]⟩, 0, 0⟩) (v := .int .i64 2) HS.out (by decide) rfl (Nat.le_refl _)
            have HC9 := Lib.hid hC9
            have HT9 := Lib.hid (((HT.out.trans (CSt.below HB7.out)).trans ((CSt.below ((Below.refl w7.heap.size w7).drew)).trans (CSt.below HE8.out))).trans (CSt.store (2 + k * 4 + 0) (.int .i64 2)))
            have fk : w8.frozen? ⟨q, 2 + k * 4, none⟩ = false := hC8.ca.free _
            have ck := (hC8.ca.four HS.out).1
            have hfi : ((fullN l : Nat) : Int) = (n : Int) := by omega
            have hfb : (((fullN l : Nat) : Int) == (n : Int)) = true := by simp [hfn]
            have HFN := Lib.hid hfn
            clear hbad hC8 hC9 hfn
            go_wp2_with fail
            exact ⟨⟨k + 1, _, hlt, by go_num, HC9, HR2, HT9⟩, by simp [intOf]; omega⟩
          · have HR2 := Lib.hid (HR.out.take hlt HH.out HNO.out hfn)
            have hfi : ¬ ((fullN l : Nat) : Int) = (n : Int) := by omega
            have hfb : (((fullN l : Nat) : Int) == (n : Int)) = false := by rw [beq_eq_false_iff_ne]; omega
            have hC8 := HC7.out.below HE8.out
            have HC8 := Lib.hid hC8
            have HT8 := Lib.hid ((HT.out.trans (CSt.below HB7.out)).trans ((CSt.below ((Below.refl w7.heap.size w7).drew)).trans (CSt.below HE8.out)))
            have hh8 : w8.heap[w5.heap.size]? = some (.cells #[.string nm, .int .i64 pc] 47 (0, 0)) := (HE8.out.block _ (blk_lt HH7.out)).trans HH7.out
            have V0 := Lib.hid (show w8.cell? ⟨w5.heap.size, 0, none⟩ = some (.string nm) from blk_cell hh8)
            have V1 := Lib.hid (show w8.cell? ⟨w5.heap.size, 1, none⟩ = some (.int .i64 pc) from blk_cell hh8)
            have hC8d : CS g w8.drew q p d n l 0 := hC8.below ((Below.refl _ _).drew)
            obtain ⟨e0, e1, e2, e3⟩ := hC8.ca.four HS.out
            have f0 := hC8.ca.free (2 + k * 4)
            have f1 := hC8.ca.free (2 + k * 4 + 1)
            have f2 := hC8.ca.free (2 + k * 4 + 2)
            have f3 := hC8.ca.free (2 + k * 4 + 3)
            have hC9 := hC8d.set4 (s' := ⟨1, nm, pc, 0⟩) HS.out (by simp)
            have HC9 := Lib.hid hC9
            have HT9 := Lib.hid ((HT8.out.trans (CSt.below ((Below.refl w8.heap.size w8).drew))).trans (CSt.store4 k (.int .i64 1) (.string nm) (.int .i64 pc) (.int .i64 0)))
            clear hC8 hh8 hC8d hC9
            go_wp2_with fail
            refine wp_region_two (fun wz => Below w8.drew.heap.size w8.drew wz) (fun _ => True) [(0, 0), (0, 1), (0, 2), (0, 3), (0, 4), (0, 5), (0, 6), (3, 7)] [7] (by kernel_rfl) (by kernel_rfl) (by kernel_rfl) (by kernel_rfl) (by kernel_rfl) (Below.refl _ _) trivial ?_
            simp only [planT, List.drop_succ_cons, List.drop_zero]
            refine PlanT.take0 (v := ?vs0) (by kernel_rfl) ?ys0 ?rs0
            case ys0 => (intro wz hz; go_simp; try with_reducible rfl)
            (try simp only [Act.put, List.setIfInBounds_toArray, List.set_cons_zero, List.set_cons_succ])
            refine PlanT.take0 (v := ?vs1) (by kernel_rfl) ?ys1 ?rs1
            case ys1 => (intro wz hz; go_simp; try with_reducible rfl)
            (try simp only [Act.put, List.setIfInBounds_toArray, List.set_cons_zero, List.set_cons_succ])
            refine PlanT.take0 (v := ?vs2) (by kernel_rfl) ?ys2 ?rs2
            case ys2 => (intro wz hz; have v0 := Ext.at_ hz V0.out; have v1 := Ext.at_ hz V1.out; go_simp; try with_reducible rfl)
            (try simp only [Act.put, List.setIfInBounds_toArray, List.set_cons_zero, List.set_cons_succ])
            refine PlanT.take0 (v := ?vs3) (by kernel_rfl) ?ys3 ?rs3
            case ys3 => (intro wz hz; go_simp; try with_reducible rfl)
            (try simp only [Act.put, List.setIfInBounds_toArray, List.set_cons_zero, List.set_cons_succ])
            refine PlanT.take0 (v := ?vs4) (by kernel_rfl) ?ys4 ?rs4
            case ys4 => (intro wz hz; go_simp; try with_reducible rfl)
            (try simp only [Act.put, List.setIfInBounds_toArray, List.set_cons_zero, List.set_cons_succ])
            refine PlanT.take0 (v := ?vs5) (by kernel_rfl) ?ys5 ?rs5
            case ys5 => (intro wz hz; go_simp; try with_reducible rfl)
            (try simp only [Act.put, List.setIfInBounds_toArray, List.set_cons_zero, List.set_cons_succ])
            refine PlanT.take0 (v := ?vs6) (by kernel_rfl) ?ys6 ?rs6
            case ys6 => (intro wz hz; go_simp; try with_reducible rfl)
            (try simp only [Act.put, List.setIfInBounds_toArray, List.set_cons_zero, List.set_cons_succ])
            refine PlanT.exec3 (fun K hK => ⟨by kernel_rfl, ?_⟩)
            go_simp
            refine hK.out _ _ trivial ?_
            clear hK K
            (try simp only [Act.put, List.setIfInBounds_toArray, List.set_cons_zero, List.set_cons_succ])
            refine PlanT.done (NoPanic.normal ?_)
            go_wp2_with fail
            exact ⟨⟨k + 1, _, hlt, by go_num, HC9, HR2, HT9⟩, by simp [intOf]; omega⟩
      · have HR2 := Lib.hid (HR.out.skip hlt hno)
        have HB6 : Hid (Below wr.heap.size wr (w5.alloc (.cells #[.string ⟨#[]⟩, .int .i64 0] 47))) := Lib.hid (hb5.alloc hb5.size _)
        have HC2 := Lib.hid (HC.out.below HB6.out)
        have HT2 := Lib.hid (HT.out.trans (CSt.below HB6.out))
        clear hno hb5
        go_wp2_with fail
        exact ⟨⟨k + 1, l, hlt, by go_num, HC2, HR2, HT2⟩, by simp [intOf]; omega⟩
    · have hk64 : k = 64 := by omega
      subst hk64
      go_wp2_with fail
      go_ret
      exact ⟨q, l, rfl, Nat.le_of_eq HQQ.out, HC.out, HR.out, HT.out⟩
end Go.Proofs.Ytmlijnekidihbaa

/-
  The landed cache keeps what is asked of one.
-/
namespace Go.Proofs.Ytmlijnekidihbaa
open Go.RowKit

/-- A disk that holds a cache's file, or none. -/
def CDk (D : CKey → List UInt8 → Prop) (ok : Bool) (k : Nat) (G : Nat → Prop) (w : World) (p : Nat) : Prop :=
  ∃ (g : Gh) (d : PD), DiskAt g w p d ∧ (∀ j, g.F j → G j) ∧ (∀ j, G j → j < w.heap.size) ∧ DShape D d ∧ d.calls ≤ 65 * k ∧ (ok = true → Sound d ∧ cur d = none) ∧ (k = 0 → cur d = none)

/-- A cache on it. -/
def CCa (D : CKey → List UInt8 → Prop) (n : Nat) (ok : Bool) (k : Nat) (G : Nat → Prop) (w : World) (q p : Nat) (T : List (CKey × List UInt8)) : Prop :=
  ∃ (g : Gh) (d : PD) (l : List Sl) (turn : Int), CS g w q p d n l turn ∧ (∀ j, Gq g q j → G j) ∧ (∀ j, G j → j < w.heap.size) ∧ CI d n l ∧ DShape D d ∧ d.calls + cntN 2 l ≤ 65 * k ∧ 0 ≤ turn ∧ turn ≤ k ∧ (ok = true → OkC d l) ∧ 0 < k ∧ T = tellD d l

theorem cs_kept {g : Gh} {R : Nat → Prop} {w w' : World} {q p n : Nat} {d : PD} {l : List Sl} {turn : Int} (h : CS g w q p d n l turn) (hk : Kept R w w') (hR : ∀ j, Gq g q j → R j) : CS g w' q p d n l turn :=
  ⟨h.da.kept hk fun j hj => hR j (.inl hj), h.ca.kept hk (hR q (.inr rfl)), h.out⟩

theorem last_cnt {l : List Sl} {m : Nat} {s : Sl} {t : Int} (hs : l[m]? = some s) (k : Nat) : cntN k (l.set m { s with last := t }) = cntN k l := by
  have := cnt_set k l m s { s with last := t } hs
  simp only at this
  omega

/-- A slot was told: only when. -/
theorem ci_last {d : PD} {n : Nat} {l : List Sl} {m : Nat} {s : Sl} {t : Int} (h : CI d n l) (hs : l[m]? = some s) : CI d n (l.set m { s with last := t }) ∧ tellD d (l.set m { s with last := t }) = tellD d l ∧ (OkC d l → OkC d (l.set m { s with last := t })) := by
  have hm := (List.getElem?_eq_some_iff.1 hs).1
  have hget : ∀ {i : Nat} {u : Sl}, (l.set m { s with last := t })[i]? = some u → ∃ v, l[i]? = some v ∧ u.kind = v.kind ∧ u.nm = v.nm ∧ u.pc = v.pc := by
    intro i u hu
    by_cases e : i = m
    · subst e
      rw [List.getElem?_set_self hm] at hu
      cases hu
      exact ⟨s, hs, rfl, rfl, rfl⟩
    · rw [List.getElem?_set_ne (fun e' => e e'.symm)] at hu
      exact ⟨u, hu, rfl, rfl, rfl⟩
  have hisL : ∀ {u v : Sl} {nm : ByteArray} {pc : Int}, u.kind = v.kind → u.nm = v.nm → u.pc = v.pc → u.isL nm pc = v.isL nm pc := by
    intro u v nm pc e1 e2 e3
    unfold Sl.isL
    rw [e1, e2, e3]
  refine ⟨⟨by rw [List.length_set]; exact h.len, h.lim, ?_, ?_, ?_⟩, ?_, fun ho => ⟨ho.snd, ?_, ?_⟩⟩
  · have := last_cnt (t := t) hs 1
    have h2 := h.few
    rw [full_cnt] at h2 ⊢
    omega
  · intro i j nm pc u v hu hv h1 h2
    obtain ⟨u', a1, a2, a3, a4⟩ := hget hu
    obtain ⟨v', b1, b2, b3, b4⟩ := hget hv
    rw [hisL a2 a3 a4] at h1
    rw [hisL b2 b3 b4] at h2
    exact h.uniq i j nm pc u' v' a1 b1 h1 h2
  · intro hd i u hu h1
    obtain ⟨u', a1, a2, a3, a4⟩ := hget hu
    obtain ⟨b, hb⟩ := h.mat hd i u' a1 (by rw [← a2]; exact h1)
    exact ⟨b, by rw [a3, a4]; exact hb⟩
  · unfold tellD
    rw [tell_congr l (l.set m { s with last := t }) 0 (by rw [List.length_set]) fun i v u hv hu => ?_]
    obtain ⟨u', a1, a2, a3, a4⟩ := hget hu
    rw [hv] at a1
    cases a1
    exact ⟨by rw [a2], fun _ => ⟨a3, a4, rfl⟩⟩
  · intro u hu
    obtain ⟨i, hi, e⟩ := List.getElem_of_mem hu
    obtain ⟨u', a1, a2, _⟩ := hget (by rw [List.getElem?_eq_getElem hi, e] : (l.set m { s with last := t })[i]? = some u)
    rw [a2]
    exact ho.none2 u' (List.mem_of_getElem? a1)
  · intro i nm pc b hb
    obtain ⟨v, hv, h1⟩ := ho.back i nm pc b hb
    by_cases e : i = m
    · subst e
      rw [hs] at hv
      cases hv
      exact ⟨_, List.getElem?_set_self hm, by rw [hisL rfl rfl rfl]; exact h1⟩
    · exact ⟨v, by rw [List.getElem?_set_ne (fun e' => e e'.symm)]; exact hv, h1⟩

theorem cnt_le (k : Nat) (l : List Sl) : cntN k l ≤ l.length := List.length_filter_le _ _

/-! ### A fall. -/
theorem small_gen {D : CKey → List UInt8 → Prop} {d : PD} {f : PF} (h1 : d.files = [f]) (h2 : d.names = [] ∨ d.names = [(cName, 0)]) (h3 : d.safe = [] ∨ d.safe = [(cName, 0)]) (h4 : d.loose = [] ∨ d.loose = [mkC]) (hf : FI D f d.calls) (hc : d.calls ≤ 9998) : Small d := by
  have hff := hf.fok (by omega : d.calls ≤ 9999)
  have hn : ∀ l : DB, l = [] ∨ l = [(cName, 0)] → l.length < 10000 ∧ (∀ x ∈ l, x.2 < 1) ∧ ∀ x ∈ l, x.1.length < 1000 := by
    rintro l (rfl | rfl)
    · exact ⟨by decide, by simp, by simp⟩
    · exact ⟨by decide, by decide, by decide⟩
  have hl : d.loose.length < 10000 ∧ ∀ c ∈ d.loose, ChOk c := by
    rcases h4 with h4 | h4 <;> rw [h4]
    · exact ⟨by decide, by simp⟩
    · exact ⟨by decide, fun c hc => by simp at hc; subst hc; exact mkC_ok⟩
  exact ⟨by rw [h1]; simp, hl.1, (hn _ h2).1, (hn _ h3).1, by omega, by rw [h1]; exact (hn _ h2).2.1, by rw [h1]; exact (hn _ h3).2.1, hl.2, by rw [h1]; intro x hx; simp at hx; subst hx; exact hff, (hn _ h2).2.2, (hn _ h3).2.2⟩

theorem ren_mk : ren [] mkC = [(cName, 0)] := by decide

theorem dfall {D : CKey → List UInt8 → Prop} {d : PD} (h : DShape D d) (hc : d.calls ≤ 9998) (keep : List Int) (r : Nat) (room crash : Int) (done : Bool) :
    (∀ k, Small (d.redone k)) ∧ ((d.redone r).names.map (·.2)).Nodup ∧ DShape D ((((d.redone r).fell keep (d.redone r).names.length).settled).begun room crash done) := by
  obtain ⟨room0, crash0, done0, calls, down, files, names, safe, loose⟩ := d
  rcases h with ⟨h1, h2, h3, h4⟩ | ⟨f, h1, h2, h3, h4⟩
  · have h1' : files = [] := h1
    have h2' : names = [] := h2
    have h3' : safe = [] := h3
    have h4' : loose = [] := h4
    subst h1' h2' h3' h4'
    have e : ∀ k, PD.redone ⟨room0, crash0, done0, calls, down, [], [], [], []⟩ k = ⟨room0, crash0, done0, calls, down, [], [], [], []⟩ := fun k => by unfold PD.redone; simp
    refine ⟨fun k => ?_, by rw [e]; exact List.nodup_nil, ?_⟩
    · rw [e]
      exact DShape.small (D := D) (.inl ⟨rfl, rfl, rfl, rfl⟩) hc
    · rw [e]
      exact .inl ⟨rfl, rfl, rfl, rfl⟩
  · have h1' : files = [f] := h1
    have h2' : names = [(cName, 0)] := h2
    subst h1' h2'
    have hred : ∀ k, ((loose.take k).foldl ren safe) = [] ∨ ((loose.take k).foldl ren safe) = [(cName, 0)] := by
      intro k
      rcases h3 with ⟨h5, h6⟩ | ⟨h5, h6⟩
      · have h5' : safe = [] := h5
        have h6' : loose = [mkC] := h6
        subst h5' h6'
        cases k with
        | zero => exact .inl rfl
        | succ k => right; rw [List.take_of_length_le (by simp)]; exact ren_mk
      · have h5' : safe = [(cName, 0)] := h5
        have h6' : loose = [] := h6
        subst h5' h6'
        right
        simp
    have hs : safe = [] ∨ safe = [(cName, 0)] := h3.elim (fun h => .inl h.1) fun h => .inr h.1
    have hl : loose = [] ∨ loose = [mkC] := h3.elim (fun h => .inr h.2) fun h => .inl h.2
    refine ⟨fun k => small_gen (D := D) (f := f) rfl (hred k) hs hl h4 hc, ?_, ?_⟩
    · show (((loose.take r).foldl ren safe).map (·.2)).Nodup
      rcases hred r with e | e <;> rw [e] <;> simp
    · have e0 : PD.redone ⟨room0, crash0, done0, calls, down, [f], [(cName, 0)], safe, loose⟩ r = ⟨room0, crash0, done0, calls, down, [f], (loose.take r).foldl ren safe, safe, loose⟩ := rfl
      rw [e0]
      rcases hred r with e | e <;> rw [e]
      · exact .inl ⟨rfl, rfl, rfl, rfl⟩
      · exact .inr ⟨f.fallen (nthK keep 0), rfl, rfl, .inr ⟨rfl, rfl⟩, fi_fallen h4 _ _⟩

theorem cache_any : CacheC CDk CCa where
  dlt := fun ⟨_, _, _, _, h, _⟩ => h
  dkept := fun ⟨g, d, h1, h2, h3, h4⟩ hk hR => ⟨g, d, h1.kept hk fun j hj => hR j (h2 j hj), h2, fun j hj => Nat.lt_of_lt_of_le (h3 j hj) hk.size, h4⟩
  lt := fun ⟨_, _, _, _, _, _, h, _⟩ => h
  kept := fun ⟨g, d, l, t, h1, h2, h3, h4⟩ hk hR => ⟨g, d, l, t, cs_kept h1 hk fun j hj => hR j (h2 j hj), h2, fun j hj => Nat.lt_of_lt_of_le (h3 j hj) hk.size, h4⟩
  disk := fun ⟨g, d, l, t, h1, h2, h3, _, h5, h6, _, _, _, h9, _⟩ => ⟨g, d, h1.da, fun j hj => h2 j (.inl hj), h3, h5, by omega, fun h => (by cases h), fun h => by omega⟩
  few := by
    rintro D n ok k G w q p T ⟨g, d, l, t, h1, h2, h3, h4, h5, h6, h7, h8, h9, h10, rfl⟩
    exact h4.tell_few h5
  new_ := by
    intro D w room crash names done kv h1 h2 h3
    refine (new_any w room crash names done kv).mono ?_
    rintro e w' ⟨p, rfl, hp, hd, hb⟩
    have hF : ∀ j, (Gh.new p).F j → j = p := fun j hj => by
      by_cases e : j = p
      · exact e
      · exact absurd (show (if j = p then Role.disk else .out) = .out by rw [if_neg e]) hj
    refine ⟨p, (Gh.new p).F, rfl, ⟨Gh.new p, _, hd, fun _ h => h, fun j hj => hd.olt j hj, .inl ⟨rfl, rfl, rfl, rfl⟩, Nat.zero_le _, fun h => ?_, fun _ => rfl⟩, fun j hj => ?_, hb⟩
    · simp only [Bool.and_eq_true, decide_eq_true_eq] at h
      exact ⟨⟨rfl, h.1, h.2⟩, rfl⟩
    · have := hF j hj
      omega
  fall := by
    rintro D ok k G w p ⟨g, d, h1, h2, h3, h4, h5, h6, h7⟩ hk kb x names hkb hG hx0 hx1 hn0 hn1
    obtain ⟨f1, f2, f3⟩ := dfall h4 (by omega) [x] (rest names d.loose.length) 1048576 0 false
    have hwf : ∀ z : Int, 0 ≤ z → z ≤ 1000000 → (Lit.int .i64 z).wf = true := fun z a b => wf_int (by omega) (by omega)
    refine (fall_at h1 1048576 0 names false (.slice (some ⟨kb, 0, none⟩) 1 1) [x] (hwf _ hn0 (by omega)) (fun v hv => by simp at hv; subst hv; exact hwf _ hx0 hx1) (by simp) (.inr ⟨kb, 0, 1, rfl, by simp, blk_lt hkb, fun hf => hG (h2 _ hf), fun i v hv => ?_⟩) f1 (fun k => small_fell (f1 _) _ k) f2).mono ?_
    · cases i with
      | zero => simp at hv; subst hv; rw [blk_cell hkb]; rfl
      | succ i => simp at hv
    · rintro e w' ⟨rfl, g', hd', hst⟩
      refine ⟨rfl, false, fun j => G j ∨ g'.F j, ⟨g', _, hd', fun j hj => .inr hj, fun j hj => hj.elim (fun h => Nat.lt_of_lt_of_le (h3 j h) hst.touch.size) fun h => hd'.olt j h, f3, Nat.zero_le _, fun h => (by cases h), fun h => by omega⟩, Touch.mono hst.touch fun j hj _ => h2 j hj, fun j hj => ?_⟩
      rcases hj with hj | hj
      · exact .inl hj
      · rcases hst.new j hj with h | h
        · exact .inl (h2 j h)
        · exact .inr ⟨h, hd'.olt j hj⟩
  open_ := by
    rintro D ok k G w p ⟨g, d, h1, h2, h3, h4, h5, h6, h7⟩ hk m hm
    refine (copen_at h1 (h4.small (by omega)) m).mono ?_
    rintro e w' ⟨q, l, rfl, hq, hC, hRO, hT⟩
    have hci := hRO.done hC.ca.ok
    have hcnt := cnt_le 2 l
    have hl := hRO.len
    refine ⟨q, tellD d l, fun j => G j ∨ Gq g q j, rfl, ⟨g, d, l, 0, hC, fun j hj => .inr hj, fun j hj => ?_, hci, h4, by omega, by omega, by omega, fun h => (hRO.fresh hC.ca.ok (h6 h).2).2 (h6 h).1, by omega, rfl⟩, fun h => (hRO.fresh hC.ca.ok (h7 h)).1, Touch.mono hT.touch fun j hj hlt => ?_, fun j hj => ?_⟩
    · rcases hj with hj | hj | rfl
      · exact Nat.lt_of_lt_of_le (h3 j hj) hT.touch.size
      · exact hC.da.olt j hj
      · exact hC.lt
    · rcases hj with hj | rfl
      · exact h2 j hj
      · omega
    · rcases hj with hj | hj | rfl
      · exact .inl hj
      · exact .inl (h2 j hj)
      · exact .inr ⟨hq, hC.lt⟩
  again := by
    rintro D n k G w q p T ⟨g, d, l0, t, h1, h2, h3, h4, h5, h6, h7, h8, h9, h10, rfl⟩ hk m rfl hm
    refine (copen_at h1.da (h5.small (by omega)) m).mono ?_
    rintro e w' ⟨q', l, rfl, hq, hC, hRO, hT⟩
    have hci := hRO.done hC.ca.ok
    obtain ⟨a1, a2⟩ := hRO.again (h9 rfl) h4
    have hcnt := cnt_le 2 l
    have hl := hRO.len
    refine ⟨q', tellD d l, fun j => G j ∨ Gq g q' j, rfl, ⟨g, d, l, 0, hC, fun j hj => .inr hj, fun j hj => ?_, hci, h5, by omega, by omega, by omega, fun _ => a1, by omega, rfl⟩, by rw [a2], fun x => by rw [a2], Touch.mono hT.touch fun j hj hlt => ?_, fun j hj => ?_⟩
    · rcases hj with hj | hj | rfl
      · exact Nat.lt_of_lt_of_le (h3 j hj) hT.touch.size
      · exact hC.da.olt j hj
      · exact hC.lt
    · rcases hj with hj | rfl
      · exact h2 j (.inl hj)
      · omega
    · rcases hj with hj | hj | rfl
      · exact .inl hj
      · exact .inl (h2 j (.inl hj))
      · exact .inr ⟨hq, hC.lt⟩
  put := by
    rintro D n ok k G w q p T ⟨g, d, l, t, h1, h2, h3, h4, h5, h6, h7, h8, h9, h10, rfl⟩ hk nm pc v b hr hv hD hnm hpc hb
    by_cases hno : n = 0 ∨ keptC nm pc b = false
    · refine (cput_no h1 nm hnm pc v b hr hno).mono ?_
      rintro e w' ⟨rfl, hC, hT⟩
      refine ⟨rfl, tellD d l, G, ⟨g, d, l, t, hC, h2, fun j hj => Nat.lt_of_lt_of_le (h3 j hj) hT.touch.size, h4, h5, by omega, h7, by omega, h9, by omega, rfl⟩, ⟨Nat.le_succ _, fun _ _ => .inl rfl, ?_⟩, Touch.mono hT.touch fun j hj _ => h2 j hj, Grows.refl _ _ _⟩
      rw [if_neg (by rintro ⟨a1, a2, _⟩; rcases hno with h | h; omega; rw [h] at a1; cases a1)]
      exact .inl rfl
    · have hn : 0 < n := by omega
      have hkc : keptC nm pc b = true := by
        cases hb : keptC nm pc b with
        | true => rfl
        | false => exact absurd (.inr hb) hno
      refine (cput_yes h1 h4 h5 (by omega) h7 (by omega) nm pc v b hr (fun j hj hg => hv j hj (h2 j hg)) hn hkc hD).mono ?_
      rintro e w' ⟨rfl, g', d', l', t', hC, hT, ht1, ht2, hPE⟩
      have hpot := hPE.pot
      refine ⟨rfl, tellD d' l', fun j => G j ∨ Gq g' q j, ⟨g', d', l', t', hC, fun j hj => .inr hj, fun j hj => ?_, hPE.ci, hPE.sh, by omega, by omega, by omega, fun h => (hPE.okc (h9 h)).1, by omega, rfl⟩, ⟨hPE.len, fun x hx => hPE.oth x hx, ?_⟩, Touch.mono hT.touch fun j hj _ => h2 j hj, fun j hj => ?_⟩
      · rcases hj with hj | hj | rfl
        · exact Nat.lt_of_lt_of_le (h3 j hj) hT.touch.size
        · exact hC.da.olt j hj
        · exact hC.lt
      · cases ok with
        | true =>
          rw [if_pos ⟨hkc, hn, rfl⟩]
          exact (hPE.okc (h9 rfl)).2
        | false =>
          rw [if_neg (by simp)]
          rcases hPE.own with h | h | h
          · exact .inl h
          · exact .inr (.inl h)
          · exact .inr (.inr ⟨hkc, h⟩)
      · rcases hj with hj | hj
        · exact .inl hj
        · rcases hT.grows j hj with h | h
          · exact .inl (h2 j h)
          · exact .inr h
  get := by
    rintro D n ok k G w q p T ⟨g, d, l, t, h1, h2, h3, h4, h5, h6, h7, h8, h9, h10, rfl⟩ hk nm pc hnm hpc
    refine (cget_at h1 h4 (h5.small (by omega)) h7 (by omega) nm pc).mono ?_
    rintro e w' ⟨x, l', t', rfl, hr, ho, hC, hT, ht1, ht2, hl⟩
    have hfin : CI d n l' ∧ tellD d l' = tellD d l ∧ (OkC d l → OkC d l') ∧ cntN 2 l' = cntN 2 l := by
      rcases hl with rfl | ⟨m, s, hs, _, rfl⟩
      · exact ⟨h4, rfl, id, rfl⟩
      · obtain ⟨a1, a2, a3⟩ := ci_last (t := t') h4 hs
        exact ⟨a1, a2, a3, last_cnt hs 2⟩
    obtain ⟨a1, a2, a3, a4⟩ := hfin
    refine ⟨x, rfl, hr, tellD d l', G, ⟨g, d, l', t', hC, h2, fun j hj => Nat.lt_of_lt_of_le (h3 j hj) hT.touch.size, a1, h5, by omega, by omega, by omega, fun h => a3 (h9 h), by omega, rfl⟩, fun _ => by rw [a2]; exact ⟨rfl, fun _ => rfl⟩, fun y => .inl (by rw [a2]), fun j hj hg => ?_, Touch.mono hT.touch fun j hj _ => h2 j hj, Grows.refl _ _ _⟩
    have := ho j hj
    have := h3 j hg
    omega
  len := by
    rintro D n ok k G w q p T ⟨g, d, l, t, h1, h2, h3, h4, h5, h6, h7, h8, h9, h10, rfl⟩
    refine (clen_any h1.ca).mono ?_
    rintro e w' ⟨rfl, hb⟩
    refine ⟨fullN l, rfl, h4.few, fun h => ?_, hb⟩
    rw [tellD_up (h9 h).snd.1, tell_length]
  nput := cnput_any
  nget := cnget_any
  nlen := cnlen_any
end Go.Proofs.Ytmlijnekidihbaa
