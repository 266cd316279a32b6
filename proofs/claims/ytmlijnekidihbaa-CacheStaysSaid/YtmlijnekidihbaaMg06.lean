import Derived.Test.YtmlijnekidihbaaMg04
import Derived.Test.YtmlijnekidihbaaSumMath
import Derived.Test.YtmlijnekidihbaaNumMath
import Derived.Test.YtmlijnekidihbaaTextMath
import Derived.Test.YtmlijnekidihbaaMg03
import Derived.OwnWalk
import Derived.Test.YtmlijnekidihbaaCells
import Derived.Test.YtmlijnekidihbaaWords
import Derived.Deep.MidRow
import Derived.Shelf.Abstract

/-
  A slot of a cache on the disk, as plain bytes.
-/
namespace Go.Proofs.Ytmlijnekidihbaa

/-- What stands behind a slot's mark. -/
def restC (nm : ByteArray) (pc : Int) (b : List UInt8) : List UInt8 := putT nm.data.toList ++ putL pc.toNat ++ putT b
def padC (l : List UInt8) : List UInt8 := l ++ List.replicate (560 - l.length) 0
def bodyC (nm : ByteArray) (pc : Int) (b : List UInt8) : List UInt8 := fixL (sumL (padC (restC nm pc b)) : Int) 4 ++ padC (restC nm pc b)

theorem kept_facts {nm : ByteArray} {pc : Int} {b : List UInt8} (h : keptC nm pc b = true) : 1 ≤ nm.size ∧ nm.size ≤ 40 ∧ 0 ≤ pc ∧ pc ≤ 1073741824 ∧ b.length ≤ 512 := by
  unfold keptC at h
  simp only [Bool.and_eq_true, decide_eq_true_eq] at h
  exact ⟨h.1.1.1.1, h.1.1.1.2, h.1.1.2, h.1.2, h.2⟩

theorem putT_upto (s : List UInt8) (k : Nat) (h : s.length < 128 ^ (k + 1)) : (putT s).length ≤ k + 1 + s.length := by
  have := putL_length_le k s.length h
  unfold putT
  rw [List.length_append]
  omega

theorem rest_len {nm : ByteArray} {pc : Int} {b : List UInt8} (h : keptC nm pc b = true) : (restC nm pc b).length ≤ 560 := by
  obtain ⟨h1, h2, h3, h4, h5⟩ := kept_facts h
  have e1 : nm.data.toList.length = nm.size := size_list nm
  have a1 := putT_upto nm.data.toList 0 (by omega)
  have a2 := putL_length_le 4 pc.toNat (by omega)
  have a3 := putT_upto b 1 (by omega)
  unfold restC
  rw [List.length_append, List.length_append]
  omega

theorem pad_len {l : List UInt8} (h : l.length ≤ 560) : (padC l).length = 560 := by
  unfold padC
  rw [List.length_append, List.length_replicate]
  omega

theorem body_len {nm : ByteArray} {pc : Int} {b : List UInt8} (h : keptC nm pc b = true) : (bodyC nm pc b).length = 564 := by
  unfold bodyC
  rw [List.length_append, fixL_length, pad_len (rest_len h)]

/-- The slot of that place. -/
def slotF (F : List UInt8) (at_ : Nat) : List UInt8 := (F.drop (at_ * 565)).take 565
/-- It has that piece. -/
def HasC (F : List UInt8) (at_ : Nat) (nm : ByteArray) (pc : Int) (b : List UInt8) : Prop := keptC nm pc b = true ∧ slotF F at_ = 1 :: bodyC nm pc b

/-- What is read back of a slot that has a piece. -/
theorem has_parse {F : List UInt8} {at_ : Nat} {nm : ByteArray} {pc : Int} {b : List UInt8} (h : HasC F at_ nm pc b) :
    ∃ p1 p2 p3 : Nat, textAt (slotF F at_) 5 = some (nm.data.toList, p1) ∧ getAt (slotF F at_) (p1 : Int) = some (pc.toNat, p2) ∧ textAt (slotF F at_) (p2 : Int) = some (b, p3) := by
  obtain ⟨h1, h2⟩ := h
  obtain ⟨k1, k2, k3, k4, k5⟩ := kept_facts h1
  have e1 : nm.data.toList.length = nm.size := size_list nm
  rw [h2]
  obtain ⟨s, hs⟩ : ∃ s, s = 1 :: fixL (sumL (padC (restC nm pc b)) : Int) 4 := ⟨_, rfl⟩
  obtain ⟨z, hz⟩ : ∃ z, z = List.replicate (560 - (restC nm pc b).length) (0 : UInt8) := ⟨_, rfl⟩
  have hl : s.length = 5 := by rw [hs]; simp [fixL_length]
  have e : 1 :: bodyC nm pc b = s ++ (putT nm.data.toList ++ putL pc.toNat ++ putT b ++ z) := by
    unfold bodyC
    rw [show padC (restC nm pc b) = restC nm pc b ++ z by rw [hz]; rfl, hs]
    unfold restC
    simp [padC]
    rw [hz]
    simp [restC]
  have q1 := textAt_tells s (putL pc.toNat ++ putT b ++ z) nm.data.toList (by omega)
  have q2 := getAt_tells (s ++ putT nm.data.toList) (putT b ++ z) pc.toNat (by omega)
  have q3 := textAt_tells (s ++ putT nm.data.toList ++ putL pc.toNat) z b (by omega)
  rw [e]
  rw [hl] at q1
  refine ⟨5 + (putT nm.data.toList).length, 5 + (putT nm.data.toList).length + (putL pc.toNat).length, 5 + (putT nm.data.toList).length + (putL pc.toNat).length + (putT b).length, ?_, ?_, ?_⟩
  · rw [← q1]; simp
  · rw [List.length_append, hl] at q2
    rw [← q2]; simp
  · rw [List.length_append, List.length_append, hl] at q3
    rw [← q3]; simp

theorem has_one {F : List UInt8} {at_ : Nat} {nm nm' : ByteArray} {pc pc' : Int} {b b' : List UInt8} (h : HasC F at_ nm pc b) (h' : HasC F at_ nm' pc' b') : nm = nm' ∧ pc = pc' ∧ b = b' := by
  obtain ⟨p1, p2, p3, q1, q2, q3⟩ := has_parse h
  obtain ⟨r1, r2, r3, s1, s2, s3⟩ := has_parse h'
  obtain ⟨_, _, k3, _, _⟩ := kept_facts h.1
  obtain ⟨_, _, k3', _, _⟩ := kept_facts h'.1
  rw [q1] at s1
  obtain ⟨e1, rfl⟩ := Prod.mk.injEq .. ▸ Option.some.inj s1
  rw [q2] at s2
  obtain ⟨e2, rfl⟩ := Prod.mk.injEq .. ▸ Option.some.inj s2
  rw [q3] at s3
  obtain ⟨e3, _⟩ := Prod.mk.injEq .. ▸ Option.some.inj s3
  refine ⟨?_, by omega, e3⟩
  cases nm with
  | mk d => cases nm' with
    | mk d' => congr 1; exact Array.toList_inj.1 e1
end Go.Proofs.Ytmlijnekidihbaa

/-
  What package cache keeps, and as what bytes: may, body.
-/
namespace Go.Proofs.Ytmlijnekidihbaa
open Go.RowKit

theorem rdB_form2 {w : World} {v : Value} {l : List UInt8} (h : RdB w v l) : ∃ a cap, v = .slice a l.length cap := let ⟨a, cap, h, _⟩ := h.form; ⟨a, cap, h⟩
theorem rdLL_three2 {w : World} {B : Nat} {c1 c2 c3 : Value} {l1 l2 l3 : List UInt8} {e : Nat} (h : w.heap[B]? = some (.cells #[c1, c2, c3] e (0, 0))) (h1 : RdB w c1 l1) (h2 : RdB w c2 l2) (h3 : RdB w c3 l3) :
    RdLL w (.slice (some ⟨B, 0, none⟩) 3 3) [l1, l2, l3] := by
  refine ⟨[c1, c2, c3], ⟨_, _, rfl, Nat.le_refl _, by unfold maxLen; simp, rfl, .inr ⟨B, 0, rfl, blk_lt h, fun j u hj => ?_⟩⟩, fun i c l hc hl => ?_⟩
  · rw [Nat.zero_add, blk_cell h]
    simpa using hj
  · match i, hc, hl with
    | 0, hc, hl => simp at hc hl; subst hc hl; exact h1
    | 1, hc, hl => simp at hc hl; subst hc hl; exact h2
    | 2, hc, hl => simp at hc hl; subst hc hl; exact h3
    | i + 3, hc, hl => simp at hc

/-- A label, as a value. -/
abbrev labV (nm : ByteArray) (pc : Int) : Value := .agg #[.string nm, .int .i64 pc]

set_option maxRecDepth 100000 in
set_option maxHeartbeats 1000000 in
theorem cmay_any (nm : ByteArray) (hs : nm.size ≤ maxLen) (pc : Int) (v : Value) (b : List UInt8) (w : World) (h : RdB w v b) :
    Calls Try.prog 22 #[labV nm pc, v] w fun e w' => e = .returned (.bool (keptC nm pc b)) ∧ Below w.heap.size w w' := by
  obtain ⟨a, cap, rfl, hc1, hc2⟩ := h.form
  unfold maxLen at hc2 hs
  clear h
  have hb : Below w.heap.size w (w.alloc (.cells #[.string nm, .int .i64 pc] 47)) := (Below.refl _ _).alloc (Nat.le_refl _) _
  have HB := Lib.hid hb
  clear hb
  have hk : ∀ x : Bool, keptC nm pc b = x → (x = keptC nm pc b) := fun _ h => h.symm
  unfold keptC
  by_cases g1 : 1 ≤ nm.size
  · by_cases g2 : nm.size ≤ 40
    · by_cases g3 : 0 ≤ pc
      · by_cases g4 : pc ≤ 1073741824
        · by_cases g5 : b.length ≤ 512
          all_goals
            have i1 : (1 : Int) ≤ (nm.size : Int) := by omega
            have i2 : (nm.size : Int) ≤ 40 := by omega
            go_enter Try.func22, Try.ntmps22
            go_wp2
            go_ret
            exact ⟨by simp [g1, g2, g3, g4]; omega, HB.out⟩
        · have i1 : (1 : Int) ≤ (nm.size : Int) := by omega
          have i2 : (nm.size : Int) ≤ 40 := by omega
          go_enter Try.func22, Try.ntmps22
          go_wp2
          go_ret
          exact ⟨by simp <;> (intros; omega), HB.out⟩
      · have i1 : (1 : Int) ≤ (nm.size : Int) := by omega
        have i2 : (nm.size : Int) ≤ 40 := by omega
        go_enter Try.func22, Try.ntmps22
        go_wp2
        go_ret
        exact ⟨by simp <;> (intros; omega), HB.out⟩
    · have i1 : (1 : Int) ≤ (nm.size : Int) := by omega
      have i2 : ¬ (nm.size : Int) ≤ 40 := by omega
      go_enter Try.func22, Try.ntmps22
      go_wp2
      go_ret
      exact ⟨by simp <;> (intros; omega), HB.out⟩
  · have i1 : ¬ (1 : Int) ≤ (nm.size : Int) := by omega
    go_enter Try.func22, Try.ntmps22
    go_wp2
    go_ret
    exact ⟨by simp <;> (intros; omega), HB.out⟩

set_option maxRecDepth 100000 in
set_option maxHeartbeats 2000000 in
set_option linter.unusedSimpArgs false in
theorem cbody_any (nm : ByteArray) (pc : Int) (v : Value) (b : List UInt8) (hk : keptC nm pc b = true) (w : World) (h : RdB w v b) :
    Calls Try.prog 27 #[labV nm pc, v] w (RetB w.heap.size w (bodyC nm pc b)) := by
  obtain ⟨k1, k2, k3, k4, k5⟩ := kept_facts hk
  obtain ⟨a, cap, rfl, hc1, hc2⟩ := h.form
  unfold maxLen at hc2
  obtain ⟨w1, hw1⟩ : ∃ w1, w1 = w.alloc (.cells #[.string nm, .int .i64 pc] 47) := ⟨_, rfl⟩
  have hb1 : Below w.heap.size w w1 := by subst hw1; exact (Below.refl _ _).alloc (Nat.le_refl _) _
  have hh : w1.heap[w.heap.size]? = some (.cells #[.string nm, .int .i64 pc] 47 (0, 0)) := by subst hw1; exact heap_alloc_new w _
  have D0 := Lib.hid (show w1.cell? ⟨w.heap.size, 0, none⟩ = some (.string nm) from blk_cell hh)
  have D1 := Lib.hid (show w1.cell? ⟨w.heap.size, 1, none⟩ = some (.int .i64 pc) from blk_cell hh)
  have HVD := Lib.hid ((h.below hb1 (Nat.le_refl _)).below ((Below.refl w1.heap.size w1).drew) (Nat.le_refl _))
  have HB := Lib.hid hb1
  have HW := Lib.hid hw1
  have hrl := rest_len hk
  have hfl : [putT nm.data.toList, putL pc.toNat, putT b].flatten = restC nm pc b := by simp [restC]
  have hs : sumLen [putT nm.data.toList, putL pc.toNat, putT b] < 1000000000000 := by
    rw [← flat_len, hfl]; omega
  have HS := Lib.hid hs
  have HFL := Lib.hid hfl
  have HBL := Lib.hid (show fixL (sumL (padC (restC nm pc b)) : Int) 4 ++ padC (restC nm pc b) = bodyC nm pc b from rfl)
  have HPL := Lib.hid (show restC nm pc b ++ List.replicate (560 - (restC nm pc b).length) 0 = padC (restC nm pc b) from rfl)
  have HPN := Lib.hid (pad_len hrl)
  clear hs hfl hb1 hh h hk hw1
  go_enter Try.func27, Try.ntmps27
  go_wp2_with fail
  rw [← HW.out]
  refine wp_region_plan [(true, 0), (true, 1), (true, 3), (true, 4), (true, 6), (true, 7), (false, 2), (false, 5), (false, 8), (false, 9), (false, 10), (true, 11)] (by kernel_rfl) (by kernel_rfl) (by kernel_rfl) (by kernel_rfl) (by kernel_rfl) ?_
  simp only [planO, List.drop_succ_cons, List.drop_zero]
  refine PlanO.take (v := ?v0) (by kernel_rfl) ?y0 ?r0
  case y0 => (intro wz hz; go_simp; try with_reducible rfl)
  (try simp only [Act.put, List.setIfInBounds_toArray, List.set_cons_zero, List.set_cons_succ])
  refine PlanO.take (v := ?v1) (by kernel_rfl) ?y1 ?r1
  case y1 => (intro wz hz; have c0 := Ext.at_ hz D0.out; go_simp; try with_reducible rfl)
  (try simp only [Act.put, List.setIfInBounds_toArray, List.set_cons_zero, List.set_cons_succ])
  refine PlanO.take (v := ?v3) (by kernel_rfl) ?y3 ?r3
  case y3 => (intro wz hz; go_simp; try with_reducible rfl)
  (try simp only [Act.put, List.setIfInBounds_toArray, List.set_cons_zero, List.set_cons_succ])
  refine PlanO.take (v := ?v4) (by kernel_rfl) ?y4 ?r4
  case y4 => (intro wz hz; have c1 := Ext.at_ hz D1.out; go_simp; try with_reducible rfl)
  (try simp only [Act.put, List.setIfInBounds_toArray, List.set_cons_zero, List.set_cons_succ])
  refine PlanO.take (v := ?v6) (by kernel_rfl) ?y6 ?r6
  case y6 => (intro wz hz; go_simp; try with_reducible rfl)
  (try simp only [Act.put, List.setIfInBounds_toArray, List.set_cons_zero, List.set_cons_succ])
  refine PlanO.take (v := ?v7) (by kernel_rfl) ?y7 ?r7
  case y7 => (intro wz hz; have hcv := rdB_convert (P := Try.prog) (HVD.out.below hz (Nat.le_refl _)) 22 5 9 Try.underlying22 Try.underlying5 Try.underlying9; go_simp; try with_reducible rfl)
  (try simp only [Act.put, List.setIfInBounds_toArray, List.set_cons_zero, List.set_cons_succ])
  refine PlanO.keep (fun K hK => ?_)
  go_simp
  go_at_call 53
  refine (putText_any nm (by omega) _).mono ?_
  rintro e u1 ⟨p1, rfl, ho1, hb1⟩
  obtain ⟨a1, k1, rfl⟩ := rdB_form2 ho1.read
  have HR1 := Lib.hid ho1.read
  have HE1 : Hid (Below w1.drew.heap.size w1.drew u1) := Lib.hid hb1
  clear ho1
  go_wp2_with fail
  refine hK.out _ _ hb1 ?_
  clear hK K
  (try simp only [Act.put, List.setIfInBounds_toArray, List.set_cons_zero, List.set_cons_succ])
  refine PlanO.keep (fun K hK => ?_)
  go_simp
  go_at_call 54
  refine (put_pos pc (by omega) (by omega) _).mono ?_
  rintro e u2 ⟨p2, rfl, ho2, hb2⟩
  obtain ⟨a2, k2, rfl⟩ := rdB_form2 ho2.read
  have HR2 := Lib.hid ho2.read
  have HR12 := Lib.hid (HR1.out.below hb2 (Nat.le_refl _))
  have HE2 : Hid (Below w1.drew.heap.size w1.drew u2) := Lib.hid (belowT HE1.out hb2)
  clear ho2
  go_wp2_with fail
  refine hK.out _ _ (hb2.mono HE1.out.size) ?_
  clear hK K
  (try simp only [Act.put, List.setIfInBounds_toArray, List.set_cons_zero, List.set_cons_succ])
  refine PlanO.keep (fun K hK => ?_)
  go_simp
  go_at_call 53
  refine (putText_any (strB b) (by rw [strB_size]; omega) _).mono ?_
  rintro e u3 ⟨p3, rfl, ho3, hb3⟩
  obtain ⟨a3, k3, rfl⟩ := rdB_form2 ho3.read
  have HR3 := Lib.hid ho3.read
  have HR13 := Lib.hid (HR12.out.below hb3 (Nat.le_refl _))
  have HR23 := Lib.hid (HR2.out.below hb3 (Nat.le_refl _))
  have HE3 : Hid (Below w1.drew.heap.size w1.drew u3) := Lib.hid (belowT HE2.out hb3)
  clear ho3
  go_wp2_with fail
  refine hK.out _ _ (hb3.mono HE2.out.size) ?_
  clear hK K
  (try simp only [Act.put, List.setIfInBounds_toArray, List.set_cons_zero, List.set_cons_succ])
  refine PlanO.keep (fun K hK => ?_)
  go_simp
  obtain ⟨o3, ho3⟩ : ∃ o3, o3 = Obj.cells #[.slice a1 (putT nm.data.toList).length k1, .slice a2 (putL pc.toNat).length k2, .slice a3 (putT (strB b).data.toList).length k3] 22 := ⟨_, rfl⟩
  rw [← ho3]
  have hal3 : Below u3.heap.size u3 (u3.alloc o3) := (Below.refl _ _).alloc (Nat.le_refl _) _
  have HLL := Lib.hid (rdLL_three2 (w := u3.alloc o3) (B := u3.heap.size) (e := 22) (by rw [← ho3]; exact heap_alloc_new u3 o3) (HR13.out.below hal3 (Nat.le_refl _)) (HR23.out.below hal3 (Nat.le_refl _)) (HR3.out.below hal3 (Nat.le_refl _)))
  have HE4 : Hid (Below w1.drew.heap.size w1.drew (u3.alloc o3)) := Lib.hid (belowT HE3.out hal3)
  clear ho3
  refine hK.out _ _ (hal3.mono HE3.out.size) ?_
  clear hK K
  (try simp only [Act.put, List.setIfInBounds_toArray, List.set_cons_zero, List.set_cons_succ])
  refine PlanO.keep (fun K hK => ?_)
  go_simp
  go_at_call 52
  refine (concat_any _ _ _ HLL.out (by simp) HS.out).mono ?_
  rintro e u5 ⟨u, rfl, hu, hb5⟩
  have HU := Lib.hid (own_base hu fun k hk => Nat.le_trans HE4.out.size (World.ownsRow.lt hu k hk).1)
  have HE5 : Hid (Below w1.drew.heap.size w1.drew u5) := Lib.hid (belowT HE4.out hb5)
  clear hu
  go_wp2_with fail
  refine hK.out _ _ (hb5.mono HE4.out.size) ?_
  clear hK K
  (try simp only [Act.put, List.setIfInBounds_toArray, List.set_cons_zero, List.set_cons_succ])
  refine PlanO.take (v := ?v11) (by kernel_rfl) ?y11 ?r11
  case y11 => (intro wz hz; go_simp; try with_reducible rfl)
  (try simp only [Act.put, List.setIfInBounds_toArray, List.set_cons_zero, List.set_cons_succ])
  refine PlanO.done (NoPanic.normal ?_)
  have HU2 : Hid (OwnB u5 w1.drew.heap.size 5 u (restC nm pc b)) := Lib.hid (by rw [← HFL.out]; exact HU.out)
  have HE6 : Hid (Below w.heap.size w u5) := Lib.hid (HB.out.trans ((below_draw HE5.out).mono HB.out.size))
  have hsz := HB.out.size
  have hsz5 := HE5.out.size
  simp only [World.drew] at hsz5
  clear HU HFL HS HE5 HE4 HE3 HE2 HE1 HR1 HR12 HR13 HR2 HR23 HR3 HLL hb1 hb2 hb3 hb5 hal3
  generalize restC nm pc b = R at *
  generalize bodyC nm pc b = O at *
  obtain ⟨ra, rc, hru⟩ := rdB_form2 HU2.out.read
  subst hru
  have e1 : ((560 : Int) - (R.length : Int)) = ((560 - R.length : Nat) : Int) := by omega
  have e2 : wrap64 ((560 : Int) - (R.length : Int)) = ((560 - R.length : Nat) : Int) := by rw [e1]; exact IntWalk.wrap64_in _ (by omega)
  have HRL := Lib.hid hrl
  clear e1 hrl
  go_wp2_with (at_builtin; refine wpList_append_noughts rfl (.tmp 17) (.tmp 20) 22 3 9 rfl w.heap.size 5 .i64 Try.underlying22 Try.underlying3 Try.underlying9 info_u8 _ R .i64 (560 - R.length) rfl (by first | rfl | (simp only [e2]; rfl)) (own_base HU2.out fun k hk => Nat.le_trans hsz (World.ownsRow.lt HU2.out k hk).1) HE6.out.size (by have := HRL.out; omega) (by omega) ?_)
  intro vp up hop hbp
  rw [HPL.out] at hop
  generalize padC R = P at *
  have HP := Lib.hid hop
  have HE7 := Lib.hid (hbp w.heap.size w (Nat.le_refl _) HE6.out)
  obtain ⟨pa, pk, hvp⟩ := rdB_form2 hop.read
  subst hvp
  clear hop hbp
  go_wp2_with fail
  refine (sum_any _ P _ HP.out.read).mono ?_
  rintro e w5 ⟨rfl, rfl⟩
  go_wp2_with fail
  refine (fixed_yes _ 4 (by omega) _).mono ?_
  rintro e w5 ⟨vf, rfl, hof, hbf⟩
  obtain ⟨fa, fk, hvf⟩ := rdB_form2 hof.read
  subst hvf
  have HF := Lib.hid (own_base hof fun k hk => Nat.le_trans HE7.out.size (World.ownsRow.lt hof k hk).1)
  have HE8 := Lib.hid (HE7.out.trans (hbf.mono HE7.out.size))
  have HP2 := Lib.hid (HP.out.read.below hbf (Nat.le_refl _))
  clear hof hbf
  go_wp2_with (at_builtin; refine wpList_append_bytes rfl (.tmp 24) (.tmp 25) 22 rfl w.heap.size 5 Try.underlying22 info_u8 _ _ _ P rfl rfl HF.out HP2.out HE8.out.size (by rw [fixL_length]; have := HPN.out; omega) ?_)
  intro vo uo hoo hbo
  rw [HBL.out] at hoo
  have HO := Lib.hid hoo
  have HE9 := Lib.hid (hbo w.heap.size w (Nat.le_refl _) HE8.out)
  clear hoo hbo
  go_wp2_with fail
  go_ret
  exact ⟨_, rfl, HO.out, HE9.out⟩
end Go.Proofs.Ytmlijnekidihbaa

/-
  A cache in memory: its cells; what Len, find, goes do.
-/
namespace Go.Proofs.Ytmlijnekidihbaa
open Go.RowKit

/-- A slot of a cache. -/
structure Sl where
  kind : Nat
  nm : ByteArray
  pc : Int
  last : Int

def slC (s : Sl) : List Value := [.int .i64 (s.kind : Int), .string s.nm, .int .i64 s.pc, .int .i64 s.last]
abbrev slV (s : Sl) : Value := .agg #[.int .i64 (s.kind : Int), .string s.nm, .int .i64 s.pc, .int .i64 s.last]
def slCells (l : List Sl) : List Value := l.flatMap slC
def Sl.none_ : Sl := ⟨0, ⟨#[]⟩, 0, 0⟩
def cCells (p most : Nat) (l : List Sl) (turn : Int) : Array Value := (.pointer (some ⟨p, 0, none⟩) :: .int .i64 (most : Int) :: (slCells l ++ [.int .i64 turn])).toArray

/-- The cache 'q' lies there. -/
structure CAt (w : World) (q p most : Nat) (l : List Sl) (turn : Int) : Prop where
  blk : w.heap[q]? = some (.cells (cCells p most l turn) 52 (0, 0))
  len : l.length = 64
  ok : most ≤ 64
  kinds : ∀ s ∈ l, s.kind ≤ 2

theorem slCells_length (l : List Sl) : (slCells l).length = l.length * 4 := by
  induction l with
  | nil => rfl
  | cons s r ih => simp only [slCells, List.flatMap_cons, List.length_append] at ih ⊢; rw [ih]; simp [slC]; omega

theorem slCells_at : ∀ (l : List Sl) (i j : Nat) (s : Sl), l[i]? = some s → j < 4 → (slCells l)[i * 4 + j]? = (slC s)[j]?
  | [], i, j, s, h, _ => by simp at h
  | x :: r, 0, j, s, h, hj => by
    simp at h
    subst h
    simp only [slCells, List.flatMap_cons, Nat.zero_mul, Nat.zero_add]
    rw [List.getElem?_append_left (by simp [slC]; omega)]
  | x :: r, i + 1, j, s, h, hj => by
    have := slCells_at r i j s (by simpa using h) hj
    simp only [slCells, List.flatMap_cons] at this ⊢
    rw [List.getElem?_append_right (by simp [slC]; omega)]
    rw [← this]
    congr 1
    simp [slC]; omega

section
variable {w w' : World} {q p most : Nat} {l : List Sl} {turn : Int}
theorem CAt.lt (h : CAt w q p most l turn) : q < w.heap.size := blk_lt h.blk
theorem CAt.ptr (h : CAt w q p most l turn) : w.cell? ⟨q, 0, none⟩ = some (.pointer (some ⟨p, 0, none⟩)) := blk_cell h.blk
theorem CAt.mostc (h : CAt w q p most l turn) : w.cell? ⟨q, 1, none⟩ = some (.int .i64 (most : Int)) := blk_cell h.blk
theorem CAt.free (h : CAt w q p most l turn) (i : Nat) : w.frozen? ⟨q, i, none⟩ = false := blk_free h.blk
theorem CAt.turnc (h : CAt w q p most l turn) : w.cell? ⟨q, 258, none⟩ = some (.int .i64 turn) := by
  rw [blk_cell h.blk]
  have := slCells_length l
  have h1 := h.len
  unfold cCells
  rw [List.getElem?_toArray, show 258 = 256 + 1 + 1 by omega, List.getElem?_cons_succ, List.getElem?_cons_succ, List.getElem?_append_right (by omega), this, h1]
  rfl
theorem CAt.cell (h : CAt w q p most l turn) {i j : Nat} {s : Sl} (hs : l[i]? = some s) (hj : j < 4) : w.cell? ⟨q, 2 + (i * 4 + j), none⟩ = (slC s)[j]? := by
  rw [blk_cell h.blk]
  have := slCells_length l
  have hi := (List.getElem?_eq_some_iff.1 hs).1
  unfold cCells
  rw [List.getElem?_toArray, show 2 + (i * 4 + j) = (i * 4 + j) + 1 + 1 by omega, List.getElem?_cons_succ, List.getElem?_cons_succ, List.getElem?_append_left (by omega), slCells_at l i j s hs hj]
theorem CAt.range (h : CAt w q p most l turn) : w.rangeAt q 2 (slCells l) := by
  intro j v hj
  have hl := slCells_length l
  have hlt : j < (slCells l).length := (List.getElem?_eq_some_iff.1 hj).1
  rw [hl] at hlt
  obtain ⟨s, hs⟩ : ∃ s, l[j / 4]? = some s := ⟨_, List.getElem?_eq_getElem (by omega)⟩
  have := h.cell hs (Nat.mod_lt j (by decide : 0 < 4))
  rw [show j / 4 * 4 + j % 4 = j by omega] at this
  rw [this, ← slCells_at l _ _ s hs (Nat.mod_lt j (by decide : 0 < 4)), show j / 4 * 4 + j % 4 = j by omega, hj]
theorem CAt.kept {R : Nat → Prop} (h : CAt w q p most l turn) (hk : Kept R w w') (hR : R q) : CAt w' q p most l turn := ⟨(hk.block q hR).trans h.blk, h.len, h.ok, h.kinds⟩
theorem CAt.below (h : CAt w q p most l turn) {B : Nat} (hb : Below B w w') (hB : q < B) : CAt w' q p most l turn := h.kept (R := fun k => k < B) (Kept.of hb fun _ h => h) hB
end

theorem info_slots : (Try.prog.info? 50).map (·.size) = some 256 := by kernel_rfl

theorem info_slot : (Try.prog.info? 49).map (fun i => (i.zero, i.size)) = some (some (.agg #[.int .i64 0, .string ⟨#[]⟩, .int .i64 0, .int .i64 0]), 4) := by kernel_rfl

theorem agg_slot (w : World) : (isAgg 49).run Try.prog w = .ok true w := by kernel_rfl

theorem run_index_slot {l : List Sl} {k : Nat} {s : Sl} (hl : l.length = 64) (hs : l[k]? = some s) (w : World) : (Instr.index 50 (.agg (slCells l).toArray) (.int .i64 (k : Int))).run Try.prog w = .ok (slV s) w := by
  have hk := (List.getElem?_eq_some_iff.1 hs).1
  have hk' : k < 64 := by omega
  have hsz : ∀ w, (sizeOf 49).run Try.prog w = .ok 4 w := fun w => by kernel_rfl
  have he : ((slCells l).drop (k * 4)).take 4 = slC s := by
    have hsl := slCells_length l
    apply List.ext_getElem?
    intro j
    by_cases hj : j < 4
    · rw [List.getElem?_take_of_lt hj, List.getElem?_drop, slCells_at l k j s hs hj]
    · rw [List.getElem?_eq_none (by rw [List.length_take]; omega), List.getElem?_eq_none (by simp [slC]; omega)]
  have ha := agg_slot w
  simp [Instr.index, asIntOf, run_underlying Try.underlying50, hk', hsz, part, ha, Result.andThen]
  exact he

/-- How many are full. -/
def fullN (l : List Sl) : Nat := (l.filter fun s => s.kind == 1).length

theorem fullN_take {l : List Sl} {k : Nat} {s : Sl} (h : l[k]? = some s) : fullN (l.take (k + 1)) = fullN (l.take k) + if s.kind = 1 then 1 else 0 := by
  obtain ⟨hk, rfl⟩ := List.getElem?_eq_some_iff.1 h
  unfold fullN
  rw [List.take_succ_eq_append_getElem hk, List.filter_append, List.length_append]
  by_cases hc : l[k].kind = 1 <;> simp [hc]
theorem fullN_le (l : List Sl) : fullN l ≤ l.length := List.length_filter_le _ _

set_option maxRecDepth 100000 in
set_option maxHeartbeats 1000000 in
theorem clen_any {w : World} {q p most : Nat} {l : List Sl} {turn : Int} (h : CAt w q p most l turn) :
    Calls Try.prog 15 #[.pointer (some ⟨q, 0, none⟩)] w fun e w' => e = .returned (.int .i64 (fullN l : Int)) ∧ Below w.heap.size w w' := by
  have hlen := h.len
  have HR := Lib.hid h.range
  have hs : (Try.prog.info? 50).map (·.size) = some (slCells l).length := by rw [slCells_length, hlen]; exact info_slots
  have HS := Lib.hid hs
  clear hs
  go_enter Try.func15, Try.ntmps15
  go_wp2
  refine wp_load_mid 50 (.tmp 10) rfl q 2 rfl (slCells l) _ HR.out Try.underlying50 rfl HS.out ?_
  go_wp2
  go_loopw [3, 12] (fun n i wr => ∃ k : Nat, k ≤ 64 ∧ i = .int .i64 (k : Int) ∧ n = .int .i64 (fullN (l.take k) : Int) ∧ Hid (Below w.heap.size w wr)) (fun _ i _ => 64 - (intOf i).toNat)
  case atStart => exact ⟨0, by omega, rfl, rfl, Lib.hid (Below.refl _ _)⟩
  case round =>
    obtain ⟨k, hk, rfl, rfl, HB⟩ := hrel
    by_cases hlt : k < 64
    · obtain ⟨s, hs⟩ : ∃ s, l[k]? = some s := ⟨_, List.getElem?_eq_getElem (by omega)⟩
      have HN := Lib.hid (fullN_take hs)
      have hle : fullN (l.take k) ≤ 64 := Nat.le_trans (fullN_le _) (by rw [List.length_take]; omega)
      have hix := run_index_slot hlen hs
      have HBN : Hid (Below w.heap.size w (wr.alloc (Obj.cells #[.int .i64 (s.kind : Int), .string s.nm, .int .i64 s.pc, .int .i64 s.last] 49))) := Lib.hid (HB.out.alloc HB.out.size _)
      by_cases hc : s.kind = 1
      · have HN2 : Hid (fullN (l.take (k + 1)) = fullN (l.take k) + 1) := Lib.hid (by rw [HN.out, if_pos hc])
        have hci : (s.kind : Int) = 1 := by omega
        rw [hci] at HBN
        clear HN
        generalize fullN (l.take k) = m at *
        go_wp2
        exact ⟨⟨k + 1, hlt, by go_num, by rw [HN2.out]; go_num, HBN⟩, by simp [intOf]; omega⟩
      · have HN2 : Hid (fullN (l.take (k + 1)) = fullN (l.take k)) := Lib.hid (by rw [HN.out, if_neg hc]; rfl)
        have hci : ¬ (s.kind : Int) = 1 := by omega
        clear HN
        generalize fullN (l.take k) = m at *
        go_wp2
        exact ⟨⟨k + 1, hlt, by go_num, by rw [HN2.out], HBN⟩, by simp [intOf]; omega⟩
    · have hk64 : k = 64 := by omega
      subst hk64
      have HX : Hid (fullN (l.take 64) = fullN l) := Lib.hid (by rw [List.take_of_length_le (by omega)])
      rw [HX.out]
      go_wp2
      go_ret
      exact ⟨rfl, HB.out⟩
end Go.Proofs.Ytmlijnekidihbaa

/-
  A cache in memory: what find and place's search do.
-/
namespace Go.Proofs.Ytmlijnekidihbaa
open Go.RowKit

theorem CAt.four {w : World} {q p most : Nat} {l : List Sl} {turn : Int} (h : CAt w q p most l turn) {i : Nat} {s : Sl} (hs : l[i]? = some s) :
    w.cell? ⟨q, 2 + i * 4, none⟩ = some (.int .i64 (s.kind : Int)) ∧ w.cell? ⟨q, 2 + i * 4 + 1, none⟩ = some (.string s.nm) ∧ w.cell? ⟨q, 2 + i * 4 + 2, none⟩ = some (.int .i64 s.pc) ∧ w.cell? ⟨q, 2 + i * 4 + 3, none⟩ = some (.int .i64 s.last) := by
  refine ⟨?_, ?_, ?_, ?_⟩
  · exact h.cell hs (j := 0) (by decide)
  · rw [Nat.add_assoc]; exact h.cell hs (j := 1) (by decide)
  · rw [Nat.add_assoc]; exact h.cell hs (j := 2) (by decide)
  · rw [Nat.add_assoc]; exact h.cell hs (j := 3) (by decide)

set_option maxRecDepth 100000 in
set_option maxHeartbeats 400000 in
theorem cindex_any {q pd most : Nat} {l : List Sl} {turn : Int} (k : Nat) (caps : Array Value) (hen : Enters Try.prog k) {w : World} (h : CAt w q pd most l turn) (p : Sl → Bool)
    (hf : ∀ (s : Sl) wz, s ∈ l → Below w.heap.size w wz → Calls Try.prog k (#[slV s] ++ caps) wz fun e w' => e = .returned (.bool (p s)) ∧ Below wz.heap.size wz w') :
    Calls Try.prog 41 #[.slice (some ⟨q, 2, none⟩) 64 64, .func (.func k) #[] caps] w fun e w' => ∃ r : Int, e = .returned (.int .i64 r) ∧ Below w.heap.size w w' ∧ ((r = -1 ∧ ∀ s ∈ l, p s = false) ∨ ∃ (m : Nat) (s : Sl), l[m]? = some s ∧ m < 64 ∧ r = (m : Int) ∧ p s = true ∧ ∀ i s', i < m → l[i]? = some s' → p s' = false) := by
  have HF := Lib.hid hf
  have HA := Lib.hid h
  have hlen := h.len
  have hq := h.lt
  unfold Enters at hen
  clear hf h
  go_enter Try.func41, Try.ntmps41
  go_wp2
  go_loopw [8] (fun x wr => ∃ i : Nat, i ≤ 64 ∧ x = .int .i64 (i : Int) ∧ Hid (∀ j s, j < i → l[j]? = some s → p s = false) ∧ Hid (Below w.heap.size w wr)) (fun x _ => 64 - (intOf x).toNat)
  case atStart => exact ⟨0, Nat.zero_le _, rfl, Lib.hid (fun j s h => by omega), Lib.hid (Below.refl _ _)⟩
  case round =>
    obtain ⟨i, hin, rfl, HP, HB⟩ := hrel
    by_cases hlt : i < 64
    · have hltz : (i : Int) < 64 := by omega
      obtain ⟨s, hs⟩ : ∃ s, l[i]? = some s := ⟨_, List.getElem?_eq_getElem (by omega)⟩
      have HFI := HF.out s wr (List.mem_of_getElem? hs) HB.out
      obtain ⟨c0, c1, c2, c3⟩ := (HA.out.below HB.out hq).four hs
      have HS := Lib.hid hs
      clear hs
      cases hp : p s with
      | false =>
        have HP2 : Hid (∀ j s, j < i + 1 → l[j]? = some s → p s = false) := Lib.hid fun j s' hj hs' => by
          rcases Nat.lt_or_ge j i with h | h
          · exact HP.out j s' h hs'
          · obtain rfl : j = i := by omega
            rw [HS.out] at hs'
            cases hs'
            exact hp
        rw [hp] at HFI
        have HFJ := Lib.hid HFI
        clear hp HFI
        go_wp2_with (go_at_fn k; (refine HFJ.out.mono ?_); rintro e w' ⟨rfl, hb1⟩; have HBN := Lib.hid (belowT HB.out hb1); clear hb1)
        exact ⟨⟨i + 1, hlt, by go_num, HP2, HBN⟩, by simp [intOf]; omega⟩
      | true =>
        rw [hp] at HFI
        have HFJ := Lib.hid HFI
        have HPI := Lib.hid hp
        clear hp HFI
        go_wp2_with (go_at_fn k; (refine HFJ.out.mono ?_); rintro e w' ⟨rfl, hb1⟩; have HBN := Lib.hid (belowT HB.out hb1); clear hb1)
        go_ret
        exact ⟨_, rfl, HBN.out, .inr ⟨i, s, HS.out, hlt, rfl, HPI.out, HP.out⟩⟩
    · have hltz : ¬ (i : Int) < 64 := by omega
      go_wp2
      go_ret
      exact ⟨_, rfl, HB.out, .inl ⟨rfl, fun s hs => by
        obtain ⟨j, hj, rfl⟩ := List.getElem_of_mem hs
        exact HP.out j _ (by omega) (List.getElem?_eq_getElem hj)⟩⟩

/-- Is it full, under that label? -/
def Sl.isL (nm : ByteArray) (pc : Int) (s : Sl) : Bool := decide (s.kind = 1) && decide (s.nm = nm) && decide (s.pc = pc)
def Sl.isE (s : Sl) : Bool := decide (s.kind = 0)

theorem isL_facts {nm : ByteArray} {pc : Int} {s : Sl} (h : s.isL nm pc = true) : s.kind = 1 ∧ s.nm = nm ∧ s.pc = pc := by
  unfold Sl.isL at h
  simp only [Bool.and_eq_true, decide_eq_true_eq] at h
  exact ⟨h.1.1, h.1.2, h.2⟩

theorem toList_iff (a b : ByteArray) : a.toList = b.toList ↔ a = b := ⟨fun h => by
  rw [Lib.toList_data, Lib.toList_data] at h
  cases a with
  | mk x => cases b with
    | mk y => congr 1; exact Array.toList_inj.1 h, fun h => by rw [h]⟩

theorem enters_find1 : Enters Try.prog 42 := enters_of Try.func42 (by kernel_rfl) rfl
theorem enters_place1 : Enters Try.prog 45 := enters_of Try.func45 (by kernel_rfl) rfl

set_option maxRecDepth 100000 in
theorem place1_any (s : Sl) (w : World) : Calls Try.prog 45 #[slV s] w fun e w' => e = .returned (.bool s.isE) ∧ Below w.heap.size w w' := by
  have hb : Below w.heap.size w (w.alloc (.cells #[.int .i64 (s.kind : Int), .string s.nm, .int .i64 s.pc, .int .i64 s.last] 49)) := (Below.refl _ _).alloc (Nat.le_refl _) _
  have HB := Lib.hid hb
  clear hb
  by_cases hk : s.kind = 0
  · have h1 : Hid (s.isE = true) := Lib.hid (by simp [Sl.isE, hk])
    have h2 : (s.kind : Int) = 0 := by omega
    rw [h1.out]
    rw [h2] at HB
    go_enter Try.func45, Try.ntmps45
    go_wp2
    go_ret
    exact ⟨rfl, HB.out⟩
  · have h1 : Hid (s.isE = false) := Lib.hid (by simp [Sl.isE, hk])
    have h2 : ¬ (s.kind : Int) = 0 := by omega
    have h3 : ((s.kind : Int) == 0) = false := by simpa using h2
    rw [h1.out]
    go_enter Try.func45, Try.ntmps45
    go_wp2
    go_ret
    exact ⟨by simp, HB.out⟩

set_option maxRecDepth 100000 in
set_option maxHeartbeats 400000 in
theorem find1_any {b : Nat} {nm : ByteArray} {pc : Int} (s : Sl) (w : World) (hc : w.heap[b]? = some (.cells #[.string nm, .int .i64 pc] 47 (0, 0))) :
    Calls Try.prog 42 #[slV s, .pointer (some ⟨b, 0, none⟩)] w fun e w' => e = .returned (.bool (s.isL nm pc)) ∧ Below w.heap.size w w' := by
  have hb : Below w.heap.size w (w.alloc (.cells #[.int .i64 (s.kind : Int), .string s.nm, .int .i64 s.pc, .int .i64 s.last] 49)) := (Below.refl _ _).alloc (Nat.le_refl _) _
  have HB := Lib.hid hb
  have c0 : (w.alloc (.cells #[.int .i64 (s.kind : Int), .string s.nm, .int .i64 s.pc, .int .i64 s.last] 49)).cell? ⟨b, 0, none⟩ = some (.string nm) := (hb.cell (p := ⟨b, 0, none⟩) (blk_lt hc)).trans (blk_cell (i := 0) hc)
  have c1 : (w.alloc (.cells #[.int .i64 (s.kind : Int), .string s.nm, .int .i64 s.pc, .int .i64 s.last] 49)).cell? ⟨b, 1, none⟩ = some (.int .i64 pc) := (hb.cell (p := ⟨b, 1, none⟩) (blk_lt hc)).trans (blk_cell (i := 1) hc)
  clear hb hc
  by_cases hk : s.kind = 1
  · have h2 : (s.kind : Int) = 1 := by omega
    rw [h2] at HB c0 c1
    have h1 : s.isL nm pc = (decide (s.nm = nm) && decide (s.pc = pc)) := by simp [Sl.isL, hk]
    have H1 := Lib.hid h1
    clear h1 hk
    go_enter Try.func42, Try.ntmps42
    go_wp2
    all_goals
      go_ret
      refine ⟨?_, (Below.refl _ _).alloc (Nat.le_refl _) _⟩
      rw [H1.out]
      clear c0 c1 HB H1
      simp only [toList_iff] at *
      show Ending.returned (Value.bool _) = _
      simp_all
  · have h1 : Hid (s.isL nm pc = false) := Lib.hid (by simp [Sl.isL, hk])
    have h2 : ¬ (s.kind : Int) = 1 := by omega
    rw [h1.out]
    go_enter Try.func42, Try.ntmps42
    go_wp2
    go_ret
    exact ⟨rfl, HB.out⟩

/-- What find tells. -/
def FoundL (l : List Sl) (nm : ByteArray) (pc : Int) (r : Int) : Prop := (r = -1 ∧ ∀ s ∈ l, s.isL nm pc = false) ∨ ∃ (m : Nat) (s : Sl), l[m]? = some s ∧ m < 64 ∧ r = (m : Int) ∧ s.isL nm pc = true

set_option maxRecDepth 100000 in
theorem cfind_any {w : World} {q p most : Nat} {l : List Sl} {turn : Int} (h : CAt w q p most l turn) (nm : ByteArray) (pc : Int) :
    Calls Try.prog 18 #[.pointer (some ⟨q, 0, none⟩), labV nm pc] w fun e w' => ∃ r : Int, e = .returned (.int .i64 r) ∧ FoundL l nm pc r ∧ Below w.heap.size w w' := by
  obtain ⟨w1, hw1⟩ : ∃ w1, w1 = w.alloc (.cells #[.string nm, .int .i64 pc] 47) := ⟨_, rfl⟩
  have hb : Below w.heap.size w w1 := by subst hw1; exact (Below.refl _ _).alloc (Nat.le_refl _) _
  have hc : w1.heap[w.heap.size]? = some (.cells #[.string nm, .int .i64 pc] 47 (0, 0)) := by subst hw1; exact heap_alloc_new w _
  have hsz : w1.heap.size = w.heap.size + 1 := by subst hw1; simp
  have hi := cindex_any 42 #[.pointer (some ⟨w.heap.size, 0, none⟩)] enters_find1 (h.below hb h.lt) (Sl.isL nm pc) (fun s wz _ hz => find1_any s wz ((hz.block w.heap.size (by omega)).trans hc))
  have HI := Lib.hid hi
  have HB := Lib.hid hb
  have HW := Lib.hid hw1
  clear hi hb hc hw1 hsz h
  go_enter Try.func18, Try.ntmps18
  go_wp2_with (go_at_call 41; rw [← HW.out]; (refine HI.out.mono ?_); rintro e w' ⟨r, rfl, hb1, hr⟩; have HR := Lib.hid hr; have HBN := Lib.hid (HB.out.trans (hb1.mono HB.out.size)); clear hb1 hr)
  go_ret
  refine ⟨r, rfl, ?_, HBN.out⟩
  rcases HR.out with h1 | ⟨m, s, h1, h2, h3, h4, _⟩
  · exact .inl h1
  · exact .inr ⟨m, s, h1, h2, h3, h4⟩
end Go.Proofs.Ytmlijnekidihbaa
