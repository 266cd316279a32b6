import Derived.Test.YtfeogoihkpclcaaMg26
import Derived.Test.YtfeogoihkpclcaaMg03
import Derived.Test.YtfeogoihkpclcaaMg00

/-
  One act on both disks: bytes.
-/
namespace Go.Proofs.Ytfeogoihkpclcaa
open Go.RowKit

set_option maxRecDepth 100000 in
set_option maxHeartbeats 4000000 in
set_option linter.unusedSimpArgs false in
set_option linter.unusedVariables false in
theorem step_write1 {W w : World} {p q : Nat} {pd : PD} {m : DM} {k : Nat} (h : Bb W w p q pd m) (hal : Al pd m k) (hk : k ≤ 200) (s : ByteArray) (hsz : s.size ≤ maxLen) (t : ByteArray) (htz : t.size ≤ maxLen) (a c : Int) (hia : -9223372036854775808 ≤ a ∧ a ≤ 9223372036854775807) (hic : -9223372036854775808 ≤ c ∧ c ≤ 9223372036854775807) (va : Option Addr) (vc : Nat) (b : List UInt8) (hv : RdB W (.slice va b.length vc) b) (hbl : b.length ≤ 300) (z : DP) (hkl : z.keep.length ≤ 50) (hnn : -9223372036854775808 ≤ z.names ∧ z.names ≤ 9223372036854775807) (hkn : ∀ y ∈ z.keep, -9223372036854775808 ≤ y ∧ y ≤ 9223372036854775807) (ka : Option Addr) (kc : Nat) (hr : Rd W 1 (.slice ka z.keep.length kc) z.keep.length (z.keep.map (Value.int .i64))) :
    Calls Try.prog 9 #[.pointer (some ⟨p, 0, none⟩), .pointer (some ⟨q, 0, none⟩), .agg #[.int .i64 1, .string s, .string t, .int .i64 a, .int .i64 c, .slice va b.length vc, .int .i64 z.room, .int .i64 z.crash, .bool z.done, .slice ka z.keep.length kc, .int .i64 z.names]] w fun e w' => e = .returned (.bool true) ∧ Bb W w' p q (pd.write s.data.toList a b).2 (m.write s.data.toList a b).2 ∧ Al (pd.write s.data.toList a b).2 (m.write s.data.toList a b).2 (k + 1) := by
  have HAL := Lib.hid hal
  have HD := Lib.hid hv
  have HR := Lib.hid hr
  have HKN := Lib.hid hkn
  have HNN := Lib.hid hnn
  have HA := Lib.hid (h.alloc (.cells #[.int .i64 1, .string s, .string t, .int .i64 a, .int .i64 c, .slice va b.length vc, .int .i64 z.room, .int .i64 z.crash, .bool z.done, .slice ka z.keep.length kc, .int .i64 z.names] 34 (0, 0)) (heap_alloc_new w _))
  clear hv hr hkn hnn
  obtain ⟨⟨r, pd'⟩, he⟩ : ∃ y, pd.write s.data.toList a b = y := ⟨_, rfl⟩
  obtain ⟨⟨r', m'⟩, hf⟩ : ∃ y, m.write s.data.toList a b = y := ⟨_, rfl⟩
  obtain ⟨hq, hz⟩ := al_write hal s.data.toList a b hbl
  rw [he, hf] at hq hz
  rw [he, hf]
  obtain rfl : r' = r := hq
  have HE := Lib.hid he
  have HF := Lib.hid hf
  have HZ := Lib.hid hz
  clear he hf hz
  obtain ⟨w1, hw1⟩ : ∃ w1, w1 = (w.alloc (.cells #[.int .i64 1, .string s, .string t, .int .i64 a, .int .i64 c, .slice va b.length vc, .int .i64 z.room, .int .i64 z.crash, .bool z.done, .slice ka z.keep.length kc, .int .i64 z.names] 34 (0, 0))).drew := ⟨_, rfl⟩
  have H1 := Lib.hid (show Bn W w1 p q pd m w.heap.size (.cells #[.int .i64 1, .string s, .string t, .int .i64 a, .int .i64 c, .slice va b.length vc, .int .i64 z.room, .int .i64 z.crash, .bool z.done, .slice ka z.keep.length kc, .int .i64 z.names] 34 (0, 0)) by subst hw1; exact HA.out.drew)
  have Hw1 := Lib.hid hw1
  clear hw1
  clear HA h hal
  go_enter Try.func9, Try.ntmps9
  go_wp2
  refine wp_region_two (fun wz => wz.heap[w.heap.size]? = some (.cells #[.int .i64 1, .string s, .string t, .int .i64 a, .int .i64 c, .slice va b.length vc, .int .i64 z.room, .int .i64 z.crash, .bool z.done, .slice ka z.keep.length kc, .int .i64 z.names] 34 (0, 0))) (fun wz => wz.heap[w.heap.size]? = some (.cells #[.int .i64 1, .string s, .string t, .int .i64 a, .int .i64 c, .slice va b.length vc, .int .i64 z.room, .int .i64 z.crash, .bool z.done, .slice ka z.keep.length kc, .int .i64 z.names] 34 (0, 0))) [(0, 0), (0, 1), (0, 2), (0, 3), (0, 4), (0, 5), (0, 6), (0, 9), (0, 10), (0, 11), (0, 12), (0, 13), (0, 14), (0, 15), (2, 7), (2, 8), (2, 16), (0, 17), (0, 18)] [] (by kernel_rfl) (by kernel_rfl) (by kernel_rfl) (by kernel_rfl) (by kernel_rfl) (by rw [← Hw1.out]; exact H1.out.box) (by rw [← Hw1.out]; exact H1.out.box) ?_
  simp only [planT, List.drop_succ_cons, List.drop_zero]
  rw [← Hw1.out]
  refine PlanT.take0 (v := ?vR6_0) (by kernel_rfl) ?yR6_0 ?rR6_0
  case yR6_0 => (intro wz hz; have c1 : wz.cell? ⟨w.heap.size, 1, none⟩ = some (.string s) := blk_cell hz; have c3 : wz.cell? ⟨w.heap.size, 3, none⟩ = some (.int .i64 a) := blk_cell hz; have c5 : wz.cell? ⟨w.heap.size, 5, none⟩ = some (.slice va b.length vc) := blk_cell hz; clear hz; go_simp; try with_reducible rfl)
  (try simp only [Act.put, List.setIfInBounds_toArray, List.set_cons_zero, List.set_cons_succ])
  refine PlanT.take0 (v := ?vR6_1) (by kernel_rfl) ?yR6_1 ?rR6_1
  case yR6_1 => (intro wz hz; have c1 : wz.cell? ⟨w.heap.size, 1, none⟩ = some (.string s) := blk_cell hz; have c3 : wz.cell? ⟨w.heap.size, 3, none⟩ = some (.int .i64 a) := blk_cell hz; have c5 : wz.cell? ⟨w.heap.size, 5, none⟩ = some (.slice va b.length vc) := blk_cell hz; clear hz; go_simp; try with_reducible rfl)
  (try simp only [Act.put, List.setIfInBounds_toArray, List.set_cons_zero, List.set_cons_succ])
  refine PlanT.take0 (v := ?vR6_2) (by kernel_rfl) ?yR6_2 ?rR6_2
  case yR6_2 => (intro wz hz; have c1 : wz.cell? ⟨w.heap.size, 1, none⟩ = some (.string s) := blk_cell hz; have c3 : wz.cell? ⟨w.heap.size, 3, none⟩ = some (.int .i64 a) := blk_cell hz; have c5 : wz.cell? ⟨w.heap.size, 5, none⟩ = some (.slice va b.length vc) := blk_cell hz; clear hz; go_simp; try with_reducible rfl)
  (try simp only [Act.put, List.setIfInBounds_toArray, List.set_cons_zero, List.set_cons_succ])
  refine PlanT.take0 (v := ?vR6_3) (by kernel_rfl) ?yR6_3 ?rR6_3
  case yR6_3 => (intro wz hz; have c1 : wz.cell? ⟨w.heap.size, 1, none⟩ = some (.string s) := blk_cell hz; have c3 : wz.cell? ⟨w.heap.size, 3, none⟩ = some (.int .i64 a) := blk_cell hz; have c5 : wz.cell? ⟨w.heap.size, 5, none⟩ = some (.slice va b.length vc) := blk_cell hz; clear hz; go_simp; try with_reducible rfl)
  (try simp only [Act.put, List.setIfInBounds_toArray, List.set_cons_zero, List.set_cons_succ])
  refine PlanT.take0 (v := ?vR6_4) (by kernel_rfl) ?yR6_4 ?rR6_4
  case yR6_4 => (intro wz hz; have c1 : wz.cell? ⟨w.heap.size, 1, none⟩ = some (.string s) := blk_cell hz; have c3 : wz.cell? ⟨w.heap.size, 3, none⟩ = some (.int .i64 a) := blk_cell hz; have c5 : wz.cell? ⟨w.heap.size, 5, none⟩ = some (.slice va b.length vc) := blk_cell hz; clear hz; go_simp; try with_reducible rfl)
  (try simp only [Act.put, List.setIfInBounds_toArray, List.set_cons_zero, List.set_cons_succ])
  refine PlanT.take0 (v := ?vR6_5) (by kernel_rfl) ?yR6_5 ?rR6_5
  case yR6_5 => (intro wz hz; have c1 : wz.cell? ⟨w.heap.size, 1, none⟩ = some (.string s) := blk_cell hz; have c3 : wz.cell? ⟨w.heap.size, 3, none⟩ = some (.int .i64 a) := blk_cell hz; have c5 : wz.cell? ⟨w.heap.size, 5, none⟩ = some (.slice va b.length vc) := blk_cell hz; clear hz; go_simp; try with_reducible rfl)
  (try simp only [Act.put, List.setIfInBounds_toArray, List.set_cons_zero, List.set_cons_succ])
  refine PlanT.take0 (v := ?vR6_6) (by kernel_rfl) ?yR6_6 ?rR6_6
  case yR6_6 => (intro wz hz; have c1 : wz.cell? ⟨w.heap.size, 1, none⟩ = some (.string s) := blk_cell hz; have c3 : wz.cell? ⟨w.heap.size, 3, none⟩ = some (.int .i64 a) := blk_cell hz; have c5 : wz.cell? ⟨w.heap.size, 5, none⟩ = some (.slice va b.length vc) := blk_cell hz; clear hz; go_simp; try with_reducible rfl)
  (try simp only [Act.put, List.setIfInBounds_toArray, List.set_cons_zero, List.set_cons_succ])
  refine PlanT.take0 (v := ?vR6_9) (by kernel_rfl) ?yR6_9 ?rR6_9
  case yR6_9 => (intro wz hz; have c1 : wz.cell? ⟨w.heap.size, 1, none⟩ = some (.string s) := blk_cell hz; have c3 : wz.cell? ⟨w.heap.size, 3, none⟩ = some (.int .i64 a) := blk_cell hz; have c5 : wz.cell? ⟨w.heap.size, 5, none⟩ = some (.slice va b.length vc) := blk_cell hz; clear hz; go_simp; try with_reducible rfl)
  (try simp only [Act.put, List.setIfInBounds_toArray, List.set_cons_zero, List.set_cons_succ])
  refine PlanT.take0 (v := ?vR6_10) (by kernel_rfl) ?yR6_10 ?rR6_10
  case yR6_10 => (intro wz hz; have c1 : wz.cell? ⟨w.heap.size, 1, none⟩ = some (.string s) := blk_cell hz; have c3 : wz.cell? ⟨w.heap.size, 3, none⟩ = some (.int .i64 a) := blk_cell hz; have c5 : wz.cell? ⟨w.heap.size, 5, none⟩ = some (.slice va b.length vc) := blk_cell hz; clear hz; go_simp; try with_reducible rfl)
  (try simp only [Act.put, List.setIfInBounds_toArray, List.set_cons_zero, List.set_cons_succ])
  refine PlanT.take0 (v := ?vR6_11) (by kernel_rfl) ?yR6_11 ?rR6_11
  case yR6_11 => (intro wz hz; have c1 : wz.cell? ⟨w.heap.size, 1, none⟩ = some (.string s) := blk_cell hz; have c3 : wz.cell? ⟨w.heap.size, 3, none⟩ = some (.int .i64 a) := blk_cell hz; have c5 : wz.cell? ⟨w.heap.size, 5, none⟩ = some (.slice va b.length vc) := blk_cell hz; clear hz; go_simp; try with_reducible rfl)
  (try simp only [Act.put, List.setIfInBounds_toArray, List.set_cons_zero, List.set_cons_succ])
  refine PlanT.take0 (v := ?vR6_12) (by kernel_rfl) ?yR6_12 ?rR6_12
  case yR6_12 => (intro wz hz; have c1 : wz.cell? ⟨w.heap.size, 1, none⟩ = some (.string s) := blk_cell hz; have c3 : wz.cell? ⟨w.heap.size, 3, none⟩ = some (.int .i64 a) := blk_cell hz; have c5 : wz.cell? ⟨w.heap.size, 5, none⟩ = some (.slice va b.length vc) := blk_cell hz; clear hz; go_simp; try with_reducible rfl)
  (try simp only [Act.put, List.setIfInBounds_toArray, List.set_cons_zero, List.set_cons_succ])
  refine PlanT.take0 (v := ?vR6_13) (by kernel_rfl) ?yR6_13 ?rR6_13
  case yR6_13 => (intro wz hz; have c1 : wz.cell? ⟨w.heap.size, 1, none⟩ = some (.string s) := blk_cell hz; have c3 : wz.cell? ⟨w.heap.size, 3, none⟩ = some (.int .i64 a) := blk_cell hz; have c5 : wz.cell? ⟨w.heap.size, 5, none⟩ = some (.slice va b.length vc) := blk_cell hz; clear hz; go_simp; try with_reducible rfl)
  (try simp only [Act.put, List.setIfInBounds_toArray, List.set_cons_zero, List.set_cons_succ])
  refine PlanT.take0 (v := ?vR6_14) (by kernel_rfl) ?yR6_14 ?rR6_14
  case yR6_14 => (intro wz hz; have c1 : wz.cell? ⟨w.heap.size, 1, none⟩ = some (.string s) := blk_cell hz; have c3 : wz.cell? ⟨w.heap.size, 3, none⟩ = some (.int .i64 a) := blk_cell hz; have c5 : wz.cell? ⟨w.heap.size, 5, none⟩ = some (.slice va b.length vc) := blk_cell hz; clear hz; go_simp; try with_reducible rfl)
  (try simp only [Act.put, List.setIfInBounds_toArray, List.set_cons_zero, List.set_cons_succ])
  refine PlanT.take0 (v := ?vR6_15) (by kernel_rfl) ?yR6_15 ?rR6_15
  case yR6_15 => (intro wz hz; have c1 : wz.cell? ⟨w.heap.size, 1, none⟩ = some (.string s) := blk_cell hz; have c3 : wz.cell? ⟨w.heap.size, 3, none⟩ = some (.int .i64 a) := blk_cell hz; have c5 : wz.cell? ⟨w.heap.size, 5, none⟩ = some (.slice va b.length vc) := blk_cell hz; clear hz; go_simp; try with_reducible rfl)
  (try simp only [Act.put, List.setIfInBounds_toArray, List.set_cons_zero, List.set_cons_succ])
  refine PlanT.exec2 (fun K hK => ⟨by kernel_rfl, ?_⟩)
  go_simp
  refine (bn_write H1.out HAL.out hk _ hsz _ hia _ _ HD.out hbl _ _ HE.out).mono ?_
  rintro e w2 ⟨rfl, h2⟩
  have H2 := Lib.hid h2
  clear h2
  refine hK.out _ _ H2.out.box H2.out.box ?_
  clear hK K
  (try simp only [Act.put, List.setIfInBounds_toArray, List.set_cons_zero, List.set_cons_succ])
  refine PlanT.exec2 (fun K hK => ⟨by kernel_rfl, ?_⟩)
  go_simp
  refine (num1_any _ _).mono ?_
  rintro e w3 ⟨rfl, rfl⟩
  refine hK.out _ _ H2.out.box H2.out.box ?_
  clear hK K
  (try simp only [Act.put, List.setIfInBounds_toArray, List.set_cons_zero, List.set_cons_succ])
  refine PlanT.exec2 (fun K hK => ⟨by kernel_rfl, ?_⟩)
  go_simp
  refine (bd_write H2.out HAL.out hk _ hsz _ hia _ _ HD.out hbl _ _ HF.out).mono ?_
  rintro e w4 ⟨rfl, h4⟩
  have H4 := Lib.hid h4
  clear h4
  refine hK.out _ _ H4.out.box H4.out.box ?_
  clear hK K
  (try simp only [Act.put, List.setIfInBounds_toArray, List.set_cons_zero, List.set_cons_succ])
  refine PlanT.take0 (v := ?vR6_17) (by kernel_rfl) ?yR6_17 ?rR6_17
  case yR6_17 => (intro wz hz; have c1 : wz.cell? ⟨w.heap.size, 1, none⟩ = some (.string s) := blk_cell hz; have c3 : wz.cell? ⟨w.heap.size, 3, none⟩ = some (.int .i64 a) := blk_cell hz; have c5 : wz.cell? ⟨w.heap.size, 5, none⟩ = some (.slice va b.length vc) := blk_cell hz; clear hz; go_simp; try with_reducible rfl)
  (try simp only [Act.put, List.setIfInBounds_toArray, List.set_cons_zero, List.set_cons_succ])
  refine PlanT.take0 (v := ?vR6_18) (by kernel_rfl) ?yR6_18 ?rR6_18
  case yR6_18 => (intro wz hz; have c1 : wz.cell? ⟨w.heap.size, 1, none⟩ = some (.string s) := blk_cell hz; have c3 : wz.cell? ⟨w.heap.size, 3, none⟩ = some (.int .i64 a) := blk_cell hz; have c5 : wz.cell? ⟨w.heap.size, 5, none⟩ = some (.slice va b.length vc) := blk_cell hz; clear hz; go_simp; try with_reducible rfl)
  (try simp only [Act.put, List.setIfInBounds_toArray, List.set_cons_zero, List.set_cons_succ])
  refine PlanT.done (NoPanic.normal ?_)
  go_wp2
  go_ret
  exact ⟨rfl, H4.out.bb, HZ.out⟩

set_option maxRecDepth 100000 in
set_option maxHeartbeats 4000000 in
set_option linter.unusedSimpArgs false in
set_option linter.unusedVariables false in
theorem step_write2 {W w : World} {p q : Nat} {pd : PD} {m : DM} {k : Nat} (h : Bb W w p q pd m) (hal : Al pd m k) (hk : k ≤ 200) (s : ByteArray) (hsz : s.size ≤ maxLen) (t : ByteArray) (htz : t.size ≤ maxLen) (a c : Int) (hia : -9223372036854775808 ≤ a ∧ a ≤ 9223372036854775807) (hic : -9223372036854775808 ≤ c ∧ c ≤ 9223372036854775807) (va : Option Addr) (vc : Nat) (b : List UInt8) (hv : RdB W (.slice va b.length vc) b) (hbl : b.length ≤ 300) (z : DP) (hkl : z.keep.length ≤ 50) (hnn : -9223372036854775808 ≤ z.names ∧ z.names ≤ 9223372036854775807) (hkn : ∀ y ∈ z.keep, -9223372036854775808 ≤ y ∧ y ≤ 9223372036854775807) (ka : Option Addr) (kc : Nat) (hr : Rd W 1 (.slice ka z.keep.length kc) z.keep.length (z.keep.map (Value.int .i64))) :
    Calls Try.prog 9 #[.pointer (some ⟨p, 0, none⟩), .pointer (some ⟨q, 0, none⟩), .agg #[.int .i64 2, .string s, .string t, .int .i64 a, .int .i64 c, .slice va b.length vc, .int .i64 z.room, .int .i64 z.crash, .bool z.done, .slice ka z.keep.length kc, .int .i64 z.names]] w fun e w' => e = .returned (.bool true) ∧ Bb W w' p q (pd.write s.data.toList a b).2 (m.write s.data.toList a b).2 ∧ Al (pd.write s.data.toList a b).2 (m.write s.data.toList a b).2 (k + 1) := by
  have HAL := Lib.hid hal
  have HD := Lib.hid hv
  have HR := Lib.hid hr
  have HKN := Lib.hid hkn
  have HNN := Lib.hid hnn
  have HA := Lib.hid (h.alloc (.cells #[.int .i64 2, .string s, .string t, .int .i64 a, .int .i64 c, .slice va b.length vc, .int .i64 z.room, .int .i64 z.crash, .bool z.done, .slice ka z.keep.length kc, .int .i64 z.names] 34 (0, 0)) (heap_alloc_new w _))
  clear hv hr hkn hnn
  obtain ⟨⟨r, pd'⟩, he⟩ : ∃ y, pd.write s.data.toList a b = y := ⟨_, rfl⟩
  obtain ⟨⟨r', m'⟩, hf⟩ : ∃ y, m.write s.data.toList a b = y := ⟨_, rfl⟩
  obtain ⟨hq, hz⟩ := al_write hal s.data.toList a b hbl
  rw [he, hf] at hq hz
  rw [he, hf]
  obtain rfl : r' = r := hq
  have HE := Lib.hid he
  have HF := Lib.hid hf
  have HZ := Lib.hid hz
  clear he hf hz
  obtain ⟨w1, hw1⟩ : ∃ w1, w1 = (w.alloc (.cells #[.int .i64 2, .string s, .string t, .int .i64 a, .int .i64 c, .slice va b.length vc, .int .i64 z.room, .int .i64 z.crash, .bool z.done, .slice ka z.keep.length kc, .int .i64 z.names] 34 (0, 0))).drew := ⟨_, rfl⟩
  have H1 := Lib.hid (show Bn W w1 p q pd m w.heap.size (.cells #[.int .i64 2, .string s, .string t, .int .i64 a, .int .i64 c, .slice va b.length vc, .int .i64 z.room, .int .i64 z.crash, .bool z.done, .slice ka z.keep.length kc, .int .i64 z.names] 34 (0, 0)) by subst hw1; exact HA.out.drew)
  have Hw1 := Lib.hid hw1
  clear hw1
  clear HA h hal
  go_enter Try.func9, Try.ntmps9
  go_wp2
  refine wp_region_two (fun wz => wz.heap[w.heap.size]? = some (.cells #[.int .i64 2, .string s, .string t, .int .i64 a, .int .i64 c, .slice va b.length vc, .int .i64 z.room, .int .i64 z.crash, .bool z.done, .slice ka z.keep.length kc, .int .i64 z.names] 34 (0, 0))) (fun wz => wz.heap[w.heap.size]? = some (.cells #[.int .i64 2, .string s, .string t, .int .i64 a, .int .i64 c, .slice va b.length vc, .int .i64 z.room, .int .i64 z.crash, .bool z.done, .slice ka z.keep.length kc, .int .i64 z.names] 34 (0, 0))) [(0, 0), (0, 1), (0, 2), (0, 3), (0, 4), (0, 5), (0, 6), (0, 9), (0, 10), (0, 11), (0, 12), (0, 13), (0, 14), (0, 15), (2, 7), (2, 8), (2, 16), (0, 17), (0, 18)] [] (by kernel_rfl) (by kernel_rfl) (by kernel_rfl) (by kernel_rfl) (by kernel_rfl) (by rw [← Hw1.out]; exact H1.out.box) (by rw [← Hw1.out]; exact H1.out.box) ?_
  simp only [planT, List.drop_succ_cons, List.drop_zero]
  rw [← Hw1.out]
  refine PlanT.take0 (v := ?vR6_0) (by kernel_rfl) ?yR6_0 ?rR6_0
  case yR6_0 => (intro wz hz; have c1 : wz.cell? ⟨w.heap.size, 1, none⟩ = some (.string s) := blk_cell hz; have c3 : wz.cell? ⟨w.heap.size, 3, none⟩ = some (.int .i64 a) := blk_cell hz; have c5 : wz.cell? ⟨w.heap.size, 5, none⟩ = some (.slice va b.length vc) := blk_cell hz; clear hz; go_simp; try with_reducible rfl)
  (try simp only [Act.put, List.setIfInBounds_toArray, List.set_cons_zero, List.set_cons_succ])
  refine PlanT.take0 (v := ?vR6_1) (by kernel_rfl) ?yR6_1 ?rR6_1
  case yR6_1 => (intro wz hz; have c1 : wz.cell? ⟨w.heap.size, 1, none⟩ = some (.string s) := blk_cell hz; have c3 : wz.cell? ⟨w.heap.size, 3, none⟩ = some (.int .i64 a) := blk_cell hz; have c5 : wz.cell? ⟨w.heap.size, 5, none⟩ = some (.slice va b.length vc) := blk_cell hz; clear hz; go_simp; try with_reducible rfl)
  (try simp only [Act.put, List.setIfInBounds_toArray, List.set_cons_zero, List.set_cons_succ])
  refine PlanT.take0 (v := ?vR6_2) (by kernel_rfl) ?yR6_2 ?rR6_2
  case yR6_2 => (intro wz hz; have c1 : wz.cell? ⟨w.heap.size, 1, none⟩ = some (.string s) := blk_cell hz; have c3 : wz.cell? ⟨w.heap.size, 3, none⟩ = some (.int .i64 a) := blk_cell hz; have c5 : wz.cell? ⟨w.heap.size, 5, none⟩ = some (.slice va b.length vc) := blk_cell hz; clear hz; go_simp; try with_reducible rfl)
  (try simp only [Act.put, List.setIfInBounds_toArray, List.set_cons_zero, List.set_cons_succ])
  refine PlanT.take0 (v := ?vR6_3) (by kernel_rfl) ?yR6_3 ?rR6_3
  case yR6_3 => (intro wz hz; have c1 : wz.cell? ⟨w.heap.size, 1, none⟩ = some (.string s) := blk_cell hz; have c3 : wz.cell? ⟨w.heap.size, 3, none⟩ = some (.int .i64 a) := blk_cell hz; have c5 : wz.cell? ⟨w.heap.size, 5, none⟩ = some (.slice va b.length vc) := blk_cell hz; clear hz; go_simp; try with_reducible rfl)
  (try simp only [Act.put, List.setIfInBounds_toArray, List.set_cons_zero, List.set_cons_succ])
  refine PlanT.take0 (v := ?vR6_4) (by kernel_rfl) ?yR6_4 ?rR6_4
  case yR6_4 => (intro wz hz; have c1 : wz.cell? ⟨w.heap.size, 1, none⟩ = some (.string s) := blk_cell hz; have c3 : wz.cell? ⟨w.heap.size, 3, none⟩ = some (.int .i64 a) := blk_cell hz; have c5 : wz.cell? ⟨w.heap.size, 5, none⟩ = some (.slice va b.length vc) := blk_cell hz; clear hz; go_simp; try with_reducible rfl)
  (try simp only [Act.put, List.setIfInBounds_toArray, List.set_cons_zero, List.set_cons_succ])
  refine PlanT.take0 (v := ?vR6_5) (by kernel_rfl) ?yR6_5 ?rR6_5
  case yR6_5 => (intro wz hz; have c1 : wz.cell? ⟨w.heap.size, 1, none⟩ = some (.string s) := blk_cell hz; have c3 : wz.cell? ⟨w.heap.size, 3, none⟩ = some (.int .i64 a) := blk_cell hz; have c5 : wz.cell? ⟨w.heap.size, 5, none⟩ = some (.slice va b.length vc) := blk_cell hz; clear hz; go_simp; try with_reducible rfl)
  (try simp only [Act.put, List.setIfInBounds_toArray, List.set_cons_zero, List.set_cons_succ])
  refine PlanT.take0 (v := ?vR6_6) (by kernel_rfl) ?yR6_6 ?rR6_6
  case yR6_6 => (intro wz hz; have c1 : wz.cell? ⟨w.heap.size, 1, none⟩ = some (.string s) := blk_cell hz; have c3 : wz.cell? ⟨w.heap.size, 3, none⟩ = some (.int .i64 a) := blk_cell hz; have c5 : wz.cell? ⟨w.heap.size, 5, none⟩ = some (.slice va b.length vc) := blk_cell hz; clear hz; go_simp; try with_reducible rfl)
  (try simp only [Act.put, List.setIfInBounds_toArray, List.set_cons_zero, List.set_cons_succ])
  refine PlanT.take0 (v := ?vR6_9) (by kernel_rfl) ?yR6_9 ?rR6_9
  case yR6_9 => (intro wz hz; have c1 : wz.cell? ⟨w.heap.size, 1, none⟩ = some (.string s) := blk_cell hz; have c3 : wz.cell? ⟨w.heap.size, 3, none⟩ = some (.int .i64 a) := blk_cell hz; have c5 : wz.cell? ⟨w.heap.size, 5, none⟩ = some (.slice va b.length vc) := blk_cell hz; clear hz; go_simp; try with_reducible rfl)
  (try simp only [Act.put, List.setIfInBounds_toArray, List.set_cons_zero, List.set_cons_succ])
  refine PlanT.take0 (v := ?vR6_10) (by kernel_rfl) ?yR6_10 ?rR6_10
  case yR6_10 => (intro wz hz; have c1 : wz.cell? ⟨w.heap.size, 1, none⟩ = some (.string s) := blk_cell hz; have c3 : wz.cell? ⟨w.heap.size, 3, none⟩ = some (.int .i64 a) := blk_cell hz; have c5 : wz.cell? ⟨w.heap.size, 5, none⟩ = some (.slice va b.length vc) := blk_cell hz; clear hz; go_simp; try with_reducible rfl)
  (try simp only [Act.put, List.setIfInBounds_toArray, List.set_cons_zero, List.set_cons_succ])
  refine PlanT.take0 (v := ?vR6_11) (by kernel_rfl) ?yR6_11 ?rR6_11
  case yR6_11 => (intro wz hz; have c1 : wz.cell? ⟨w.heap.size, 1, none⟩ = some (.string s) := blk_cell hz; have c3 : wz.cell? ⟨w.heap.size, 3, none⟩ = some (.int .i64 a) := blk_cell hz; have c5 : wz.cell? ⟨w.heap.size, 5, none⟩ = some (.slice va b.length vc) := blk_cell hz; clear hz; go_simp; try with_reducible rfl)
  (try simp only [Act.put, List.setIfInBounds_toArray, List.set_cons_zero, List.set_cons_succ])
  refine PlanT.take0 (v := ?vR6_12) (by kernel_rfl) ?yR6_12 ?rR6_12
  case yR6_12 => (intro wz hz; have c1 : wz.cell? ⟨w.heap.size, 1, none⟩ = some (.string s) := blk_cell hz; have c3 : wz.cell? ⟨w.heap.size, 3, none⟩ = some (.int .i64 a) := blk_cell hz; have c5 : wz.cell? ⟨w.heap.size, 5, none⟩ = some (.slice va b.length vc) := blk_cell hz; clear hz; go_simp; try with_reducible rfl)
  (try simp only [Act.put, List.setIfInBounds_toArray, List.set_cons_zero, List.set_cons_succ])
  refine PlanT.take0 (v := ?vR6_13) (by kernel_rfl) ?yR6_13 ?rR6_13
  case yR6_13 => (intro wz hz; have c1 : wz.cell? ⟨w.heap.size, 1, none⟩ = some (.string s) := blk_cell hz; have c3 : wz.cell? ⟨w.heap.size, 3, none⟩ = some (.int .i64 a) := blk_cell hz; have c5 : wz.cell? ⟨w.heap.size, 5, none⟩ = some (.slice va b.length vc) := blk_cell hz; clear hz; go_simp; try with_reducible rfl)
  (try simp only [Act.put, List.setIfInBounds_toArray, List.set_cons_zero, List.set_cons_succ])
  refine PlanT.take0 (v := ?vR6_14) (by kernel_rfl) ?yR6_14 ?rR6_14
  case yR6_14 => (intro wz hz; have c1 : wz.cell? ⟨w.heap.size, 1, none⟩ = some (.string s) := blk_cell hz; have c3 : wz.cell? ⟨w.heap.size, 3, none⟩ = some (.int .i64 a) := blk_cell hz; have c5 : wz.cell? ⟨w.heap.size, 5, none⟩ = some (.slice va b.length vc) := blk_cell hz; clear hz; go_simp; try with_reducible rfl)
  (try simp only [Act.put, List.setIfInBounds_toArray, List.set_cons_zero, List.set_cons_succ])
  refine PlanT.take0 (v := ?vR6_15) (by kernel_rfl) ?yR6_15 ?rR6_15
  case yR6_15 => (intro wz hz; have c1 : wz.cell? ⟨w.heap.size, 1, none⟩ = some (.string s) := blk_cell hz; have c3 : wz.cell? ⟨w.heap.size, 3, none⟩ = some (.int .i64 a) := blk_cell hz; have c5 : wz.cell? ⟨w.heap.size, 5, none⟩ = some (.slice va b.length vc) := blk_cell hz; clear hz; go_simp; try with_reducible rfl)
  (try simp only [Act.put, List.setIfInBounds_toArray, List.set_cons_zero, List.set_cons_succ])
  refine PlanT.exec2 (fun K hK => ⟨by kernel_rfl, ?_⟩)
  go_simp
  refine (bn_write H1.out HAL.out hk _ hsz _ hia _ _ HD.out hbl _ _ HE.out).mono ?_
  rintro e w2 ⟨rfl, h2⟩
  have H2 := Lib.hid h2
  clear h2
  refine hK.out _ _ H2.out.box H2.out.box ?_
  clear hK K
  (try simp only [Act.put, List.setIfInBounds_toArray, List.set_cons_zero, List.set_cons_succ])
  refine PlanT.exec2 (fun K hK => ⟨by kernel_rfl, ?_⟩)
  go_simp
  refine (num1_any _ _).mono ?_
  rintro e w3 ⟨rfl, rfl⟩
  refine hK.out _ _ H2.out.box H2.out.box ?_
  clear hK K
  (try simp only [Act.put, List.setIfInBounds_toArray, List.set_cons_zero, List.set_cons_succ])
  refine PlanT.exec2 (fun K hK => ⟨by kernel_rfl, ?_⟩)
  go_simp
  refine (bd_write H2.out HAL.out hk _ hsz _ hia _ _ HD.out hbl _ _ HF.out).mono ?_
  rintro e w4 ⟨rfl, h4⟩
  have H4 := Lib.hid h4
  clear h4
  refine hK.out _ _ H4.out.box H4.out.box ?_
  clear hK K
  (try simp only [Act.put, List.setIfInBounds_toArray, List.set_cons_zero, List.set_cons_succ])
  refine PlanT.take0 (v := ?vR6_17) (by kernel_rfl) ?yR6_17 ?rR6_17
  case yR6_17 => (intro wz hz; have c1 : wz.cell? ⟨w.heap.size, 1, none⟩ = some (.string s) := blk_cell hz; have c3 : wz.cell? ⟨w.heap.size, 3, none⟩ = some (.int .i64 a) := blk_cell hz; have c5 : wz.cell? ⟨w.heap.size, 5, none⟩ = some (.slice va b.length vc) := blk_cell hz; clear hz; go_simp; try with_reducible rfl)
  (try simp only [Act.put, List.setIfInBounds_toArray, List.set_cons_zero, List.set_cons_succ])
  refine PlanT.take0 (v := ?vR6_18) (by kernel_rfl) ?yR6_18 ?rR6_18
  case yR6_18 => (intro wz hz; have c1 : wz.cell? ⟨w.heap.size, 1, none⟩ = some (.string s) := blk_cell hz; have c3 : wz.cell? ⟨w.heap.size, 3, none⟩ = some (.int .i64 a) := blk_cell hz; have c5 : wz.cell? ⟨w.heap.size, 5, none⟩ = some (.slice va b.length vc) := blk_cell hz; clear hz; go_simp; try with_reducible rfl)
  (try simp only [Act.put, List.setIfInBounds_toArray, List.set_cons_zero, List.set_cons_succ])
  refine PlanT.done (NoPanic.normal ?_)
  go_wp2
  go_ret
  exact ⟨rfl, H4.out.bb, HZ.out⟩

set_option maxRecDepth 100000 in
set_option maxHeartbeats 4000000 in
set_option linter.unusedSimpArgs false in
set_option linter.unusedVariables false in
theorem step_read {W w : World} {p q : Nat} {pd : PD} {m : DM} {k : Nat} (h : Bb W w p q pd m) (hal : Al pd m k) (hk : k ≤ 200) (s : ByteArray) (hsz : s.size ≤ maxLen) (t : ByteArray) (htz : t.size ≤ maxLen) (a c : Int) (hia : -9223372036854775808 ≤ a ∧ a ≤ 9223372036854775807) (hic : -9223372036854775808 ≤ c ∧ c ≤ 9223372036854775807) (va : Option Addr) (vc : Nat) (b : List UInt8) (hv : RdB W (.slice va b.length vc) b) (hbl : b.length ≤ 300) (z : DP) (hkl : z.keep.length ≤ 50) (hnn : -9223372036854775808 ≤ z.names ∧ z.names ≤ 9223372036854775807) (hkn : ∀ y ∈ z.keep, -9223372036854775808 ≤ y ∧ y ≤ 9223372036854775807) (ka : Option Addr) (kc : Nat) (hr : Rd W 1 (.slice ka z.keep.length kc) z.keep.length (z.keep.map (Value.int .i64))) :
    Calls Try.prog 9 #[.pointer (some ⟨p, 0, none⟩), .pointer (some ⟨q, 0, none⟩), .agg #[.int .i64 7, .string s, .string t, .int .i64 a, .int .i64 c, .slice va b.length vc, .int .i64 z.room, .int .i64 z.crash, .bool z.done, .slice ka z.keep.length kc, .int .i64 z.names]] w fun e w' => e = .returned (.bool true) ∧ Bb W w' p q pd m ∧ Al pd m (k + 1) := by
  have HAL := Lib.hid hal
  have HD := Lib.hid hv
  have HR := Lib.hid hr
  have HKN := Lib.hid hkn
  have HNN := Lib.hid hnn
  have HA := Lib.hid (h.alloc (.cells #[.int .i64 7, .string s, .string t, .int .i64 a, .int .i64 c, .slice va b.length vc, .int .i64 z.room, .int .i64 z.crash, .bool z.done, .slice ka z.keep.length kc, .int .i64 z.names] 34 (0, 0)) (heap_alloc_new w _))
  clear hv hr hkn hnn
  obtain ⟨⟨l, r⟩, he⟩ : ∃ y, pd.read s.data.toList a c = y := ⟨_, rfl⟩
  have hf := al_read hal s.data.toList a c
  rw [he] at hf
  have HE := Lib.hid he
  have HF := Lib.hid hf
  have hse : (strB l).toList == (strB l).toList := by simp
  clear he hf h hal
  go_enter Try.func9, Try.ntmps9
  go_wp2_with (first | (go_at_call 36; refine (bn_read HA.out HAL.out hk _ hsz _ _ _ _ HE.out).mono ?_; rintro e w1 ⟨xa, xc, rfl, h1, rd1⟩; have hbx := h1.box; have c1 : w1.cell? ⟨w.heap.size, 1, none⟩ = some (.string s) := blk_cell hbx; have c3 : w1.cell? ⟨w.heap.size, 3, none⟩ = some (.int .i64 a) := blk_cell hbx; have c4 : w1.cell? ⟨w.heap.size, 4, none⟩ = some (.int .i64 c) := blk_cell hbx; clear hbx; have H1 := Lib.hid h1; have RD1 := Lib.hid rd1; clear h1 rd1) | (go_at_call 37; refine (bd_read H1.out HAL.out hk _ hsz _ _ hia hic RD1.out _ _ HF.out).mono ?_; rintro e w2 ⟨ya, yc, rfl, h2, rd2, rd1⟩; have hcv1 := rdB_convert (P := Try.prog) rd1 32 5 9 Try.underlying32 Try.underlying5 Try.underlying9; have hcv2 := rdB_convert (P := Try.prog) rd2 32 5 9 Try.underlying32 Try.underlying5 Try.underlying9; have H2 := Lib.hid h2; clear h2 rd1 rd2) | (go_at_call 21; refine (num1_any _ _).mono ?_; rintro e w5 ⟨rfl, rfl⟩))
  go_ret
  exact ⟨rfl, H2.out.bb, al_same HAL.out⟩

set_option maxRecDepth 100000 in
set_option maxHeartbeats 4000000 in
set_option linter.unusedSimpArgs false in
set_option linter.unusedVariables false in
theorem step_size {W w : World} {p q : Nat} {pd : PD} {m : DM} {k : Nat} (h : Bb W w p q pd m) (hal : Al pd m k) (hk : k ≤ 200) (s : ByteArray) (hsz : s.size ≤ maxLen) (t : ByteArray) (htz : t.size ≤ maxLen) (a c : Int) (hia : -9223372036854775808 ≤ a ∧ a ≤ 9223372036854775807) (hic : -9223372036854775808 ≤ c ∧ c ≤ 9223372036854775807) (va : Option Addr) (vc : Nat) (b : List UInt8) (hv : RdB W (.slice va b.length vc) b) (hbl : b.length ≤ 300) (z : DP) (hkl : z.keep.length ≤ 50) (hnn : -9223372036854775808 ≤ z.names ∧ z.names ≤ 9223372036854775807) (hkn : ∀ y ∈ z.keep, -9223372036854775808 ≤ y ∧ y ≤ 9223372036854775807) (ka : Option Addr) (kc : Nat) (hr : Rd W 1 (.slice ka z.keep.length kc) z.keep.length (z.keep.map (Value.int .i64))) :
    Calls Try.prog 9 #[.pointer (some ⟨p, 0, none⟩), .pointer (some ⟨q, 0, none⟩), .agg #[.int .i64 8, .string s, .string t, .int .i64 a, .int .i64 c, .slice va b.length vc, .int .i64 z.room, .int .i64 z.crash, .bool z.done, .slice ka z.keep.length kc, .int .i64 z.names]] w fun e w' => e = .returned (.bool true) ∧ Bb W w' p q pd m ∧ Al pd m (k + 1) := by
  have HAL := Lib.hid hal
  have HD := Lib.hid hv
  have HR := Lib.hid hr
  have HKN := Lib.hid hkn
  have HNN := Lib.hid hnn
  have HA := Lib.hid (h.alloc (.cells #[.int .i64 8, .string s, .string t, .int .i64 a, .int .i64 c, .slice va b.length vc, .int .i64 z.room, .int .i64 z.crash, .bool z.done, .slice ka z.keep.length kc, .int .i64 z.names] 34 (0, 0)) (heap_alloc_new w _))
  clear hv hr hkn hnn
  obtain ⟨⟨l, ok⟩, he⟩ : ∃ y, pd.size s.data.toList = y := ⟨_, rfl⟩
  have hf := al_size hal s.data.toList
  rw [he] at hf
  have HE := Lib.hid he
  have HF := Lib.hid hf
  clear he hf h hal
  go_enter Try.func9, Try.ntmps9
  go_wp2_with (first | (go_at_call 38; refine (bn_size HA.out HAL.out hk _ hsz _ _ HE.out).mono ?_; rintro e w1 ⟨rfl, rfl⟩) | (go_at_call 39; refine (bd_size HA.out HAL.out hk _ hsz _ _ HF.out).mono ?_; rintro e w2 ⟨rfl, h2⟩; have H2 := Lib.hid h2; clear h2))
  go_ret
  exact ⟨rfl, H2.out.bb, al_same HAL.out⟩

set_option maxRecDepth 100000 in
set_option maxHeartbeats 4000000 in
set_option linter.unusedSimpArgs false in
set_option linter.unusedVariables false in
theorem step_else {W w : World} {p q : Nat} {pd : PD} {m : DM} {k : Nat} (h : Bb W w p q pd m) (hal : Al pd m k) (hk : k ≤ 200) (d : Int) (h0 : d ≠ 0) (h1 : d ≠ 1) (h2 : d ≠ 2) (h3 : d ≠ 3) (h4 : d ≠ 4) (h5 : d ≠ 5) (h6 : d ≠ 6) (h7 : d ≠ 7) (h8 : d ≠ 8) (h9 : d ≠ 9) (s : ByteArray) (hsz : s.size ≤ maxLen) (t : ByteArray) (htz : t.size ≤ maxLen) (a c : Int) (hia : -9223372036854775808 ≤ a ∧ a ≤ 9223372036854775807) (hic : -9223372036854775808 ≤ c ∧ c ≤ 9223372036854775807) (va : Option Addr) (vc : Nat) (b : List UInt8) (hv : RdB W (.slice va b.length vc) b) (hbl : b.length ≤ 300) (z : DP) (hkl : z.keep.length ≤ 50) (hnn : -9223372036854775808 ≤ z.names ∧ z.names ≤ 9223372036854775807) (hkn : ∀ y ∈ z.keep, -9223372036854775808 ≤ y ∧ y ≤ 9223372036854775807) (ka : Option Addr) (kc : Nat) (hr : Rd W 1 (.slice ka z.keep.length kc) z.keep.length (z.keep.map (Value.int .i64))) :
    Calls Try.prog 9 #[.pointer (some ⟨p, 0, none⟩), .pointer (some ⟨q, 0, none⟩), .agg #[.int .i64 d, .string s, .string t, .int .i64 a, .int .i64 c, .slice va b.length vc, .int .i64 z.room, .int .i64 z.crash, .bool z.done, .slice ka z.keep.length kc, .int .i64 z.names]] w fun e w' => e = .returned (.bool true) ∧ Bb W w' p q pd m ∧ Al pd m (k + 1) := by
  have HAL := Lib.hid hal
  have HD := Lib.hid hv
  have HR := Lib.hid hr
  have HKN := Lib.hid hkn
  have HNN := Lib.hid hnn
  have HA := Lib.hid (h.alloc (.cells #[.int .i64 d, .string s, .string t, .int .i64 a, .int .i64 c, .slice va b.length vc, .int .i64 z.room, .int .i64 z.crash, .bool z.done, .slice ka z.keep.length kc, .int .i64 z.names] 34 (0, 0)) (heap_alloc_new w _))
  clear hv hr hkn hnn
  have e0 : (d == 0) = false := by simpa using h0
  have e1 : (d == 1) = false := by simpa using h1
  have e2 : (d == 2) = false := by simpa using h2
  have e3 : (d == 3) = false := by simpa using h3
  have e4 : (d == 4) = false := by simpa using h4
  have e5 : (d == 5) = false := by simpa using h5
  have e6 : (d == 6) = false := by simpa using h6
  have e7 : (d == 7) = false := by simpa using h7
  have e8 : (d == 8) = false := by simpa using h8
  have e9 : (d == 9) = false := by simpa using h9
  clear h hal h0 h1 h2 h3 h4 h5 h6 h7 h8 h9
  go_enter Try.func9, Try.ntmps9
  go_wp2
  go_ret
  exact ⟨rfl, HA.out.bb, al_same HAL.out⟩
end Go.Proofs.Ytfeogoihkpclcaa
