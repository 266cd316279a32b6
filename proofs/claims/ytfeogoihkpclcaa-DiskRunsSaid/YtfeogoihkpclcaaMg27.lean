import Derived.Test.YtfeogoihkpclcaaMg26
import Derived.Test.YtfeogoihkpclcaaMg03
import Derived.Test.YtfeogoihkpclcaaMg00

/-
  One act on both disks: names.
-/
namespace Go.Proofs.Ytfeogoihkpclcaa
open Go.RowKit

set_option maxRecDepth 100000 in
set_option maxHeartbeats 4000000 in
set_option linter.unusedSimpArgs false in
set_option linter.unusedVariables false in
theorem step_make {W w : World} {p q : Nat} {pd : PD} {m : DM} {k : Nat} (h : Bb W w p q pd m) (hal : Al pd m k) (hk : k ≤ 200) (s : ByteArray) (hsz : s.size ≤ maxLen) (t : ByteArray) (htz : t.size ≤ maxLen) (a c : Int) (hia : -9223372036854775808 ≤ a ∧ a ≤ 9223372036854775807) (hic : -9223372036854775808 ≤ c ∧ c ≤ 9223372036854775807) (va : Option Addr) (vc : Nat) (b : List UInt8) (hv : RdB W (.slice va b.length vc) b) (hbl : b.length ≤ 300) (z : DP) (hkl : z.keep.length ≤ 50) (hnn : -9223372036854775808 ≤ z.names ∧ z.names ≤ 9223372036854775807) (hkn : ∀ y ∈ z.keep, -9223372036854775808 ≤ y ∧ y ≤ 9223372036854775807) (ka : Option Addr) (kc : Nat) (hr : Rd W 1 (.slice ka z.keep.length kc) z.keep.length (z.keep.map (Value.int .i64))) :
    Calls Try.prog 9 #[.pointer (some ⟨p, 0, none⟩), .pointer (some ⟨q, 0, none⟩), .agg #[.int .i64 0, .string s, .string t, .int .i64 a, .int .i64 c, .slice va b.length vc, .int .i64 z.room, .int .i64 z.crash, .bool z.done, .slice ka z.keep.length kc, .int .i64 z.names]] w fun e w' => e = .returned (.bool true) ∧ Bb W w' p q (pd.make s.data.toList).2 (m.make s.data.toList).2 ∧ Al (pd.make s.data.toList).2 (m.make s.data.toList).2 (k + 1) := by
  have HAL := Lib.hid hal
  have HD := Lib.hid hv
  have HR := Lib.hid hr
  have HKN := Lib.hid hkn
  have HNN := Lib.hid hnn
  have HA := Lib.hid (h.alloc (.cells #[.int .i64 0, .string s, .string t, .int .i64 a, .int .i64 c, .slice va b.length vc, .int .i64 z.room, .int .i64 z.crash, .bool z.done, .slice ka z.keep.length kc, .int .i64 z.names] 34 (0, 0)) (heap_alloc_new w _))
  clear hv hr hkn hnn
  obtain ⟨⟨r, pd'⟩, he⟩ : ∃ y, pd.make s.data.toList = y := ⟨_, rfl⟩
  obtain ⟨⟨r', m'⟩, hf⟩ : ∃ y, m.make s.data.toList = y := ⟨_, rfl⟩
  obtain ⟨hq, hz⟩ := al_make hal s.data.toList
  rw [he, hf] at hq hz
  rw [he, hf]
  obtain rfl : r' = r := hq
  have HE := Lib.hid he
  have HF := Lib.hid hf
  have HZ := Lib.hid hz
  clear he hf hz
  obtain ⟨w1, hw1⟩ : ∃ w1, w1 = (w.alloc (.cells #[.int .i64 0, .string s, .string t, .int .i64 a, .int .i64 c, .slice va b.length vc, .int .i64 z.room, .int .i64 z.crash, .bool z.done, .slice ka z.keep.length kc, .int .i64 z.names] 34 (0, 0))).drew := ⟨_, rfl⟩
  have H1 := Lib.hid (show Bn W w1 p q pd m w.heap.size (.cells #[.int .i64 0, .string s, .string t, .int .i64 a, .int .i64 c, .slice va b.length vc, .int .i64 z.room, .int .i64 z.crash, .bool z.done, .slice ka z.keep.length kc, .int .i64 z.names] 34 (0, 0)) by subst hw1; exact HA.out.drew)
  have Hw1 := Lib.hid hw1
  clear hw1
  clear HA h hal
  go_enter Try.func9, Try.ntmps9
  go_wp2
  refine wp_region_two (fun wz => wz.heap[w.heap.size]? = some (.cells #[.int .i64 0, .string s, .string t, .int .i64 a, .int .i64 c, .slice va b.length vc, .int .i64 z.room, .int .i64 z.crash, .bool z.done, .slice ka z.keep.length kc, .int .i64 z.names] 34 (0, 0))) (fun wz => wz.heap[w.heap.size]? = some (.cells #[.int .i64 0, .string s, .string t, .int .i64 a, .int .i64 c, .slice va b.length vc, .int .i64 z.room, .int .i64 z.crash, .bool z.done, .slice ka z.keep.length kc, .int .i64 z.names] 34 (0, 0))) [(0, 0), (0, 1), (0, 2), (0, 5), (0, 6), (0, 7), (2, 3), (2, 4), (2, 8), (0, 9), (0, 10)] [] (by kernel_rfl) (by kernel_rfl) (by kernel_rfl) (by kernel_rfl) (by kernel_rfl) (by rw [← Hw1.out]; exact H1.out.box) (by rw [← Hw1.out]; exact H1.out.box) ?_
  simp only [planT, List.drop_succ_cons, List.drop_zero]
  rw [← Hw1.out]
  refine PlanT.take0 (v := ?vR3_0) (by kernel_rfl) ?yR3_0 ?rR3_0
  case yR3_0 => (intro wz hz; have c1 : wz.cell? ⟨w.heap.size, 1, none⟩ = some (.string s) := blk_cell hz; clear hz; go_simp; try with_reducible rfl)
  (try simp only [Act.put, List.setIfInBounds_toArray, List.set_cons_zero, List.set_cons_succ])
  refine PlanT.take0 (v := ?vR3_1) (by kernel_rfl) ?yR3_1 ?rR3_1
  case yR3_1 => (intro wz hz; have c1 : wz.cell? ⟨w.heap.size, 1, none⟩ = some (.string s) := blk_cell hz; clear hz; go_simp; try with_reducible rfl)
  (try simp only [Act.put, List.setIfInBounds_toArray, List.set_cons_zero, List.set_cons_succ])
  refine PlanT.take0 (v := ?vR3_2) (by kernel_rfl) ?yR3_2 ?rR3_2
  case yR3_2 => (intro wz hz; have c1 : wz.cell? ⟨w.heap.size, 1, none⟩ = some (.string s) := blk_cell hz; clear hz; go_simp; try with_reducible rfl)
  (try simp only [Act.put, List.setIfInBounds_toArray, List.set_cons_zero, List.set_cons_succ])
  refine PlanT.take0 (v := ?vR3_5) (by kernel_rfl) ?yR3_5 ?rR3_5
  case yR3_5 => (intro wz hz; have c1 : wz.cell? ⟨w.heap.size, 1, none⟩ = some (.string s) := blk_cell hz; clear hz; go_simp; try with_reducible rfl)
  (try simp only [Act.put, List.setIfInBounds_toArray, List.set_cons_zero, List.set_cons_succ])
  refine PlanT.take0 (v := ?vR3_6) (by kernel_rfl) ?yR3_6 ?rR3_6
  case yR3_6 => (intro wz hz; have c1 : wz.cell? ⟨w.heap.size, 1, none⟩ = some (.string s) := blk_cell hz; clear hz; go_simp; try with_reducible rfl)
  (try simp only [Act.put, List.setIfInBounds_toArray, List.set_cons_zero, List.set_cons_succ])
  refine PlanT.take0 (v := ?vR3_7) (by kernel_rfl) ?yR3_7 ?rR3_7
  case yR3_7 => (intro wz hz; have c1 : wz.cell? ⟨w.heap.size, 1, none⟩ = some (.string s) := blk_cell hz; clear hz; go_simp; try with_reducible rfl)
  (try simp only [Act.put, List.setIfInBounds_toArray, List.set_cons_zero, List.set_cons_succ])
  refine PlanT.exec2 (fun K hK => ⟨by kernel_rfl, ?_⟩)
  go_simp
  refine (bn_make H1.out HAL.out hk _ hsz _ _ HE.out).mono ?_
  rintro e w2 ⟨rfl, h2⟩
  have H2 := Lib.hid h2
  clear h2
  refine hK.out _ _ H2.out.box H2.out.box ?_
  clear hK K
  (try simp only [Act.put, List.setIfInBounds_toArray, List.set_cons_zero, List.set_cons_succ])
  refine PlanT.exec2 (fun K hK => ⟨by kernel_rfl, ?_⟩)
  go_simp
  refine (num1_any _ _).mono ?_
  rintro e w3 ⟨rfl, rfl⟩
  refine hK.out _ _ H2.out.box H2.out.box ?_
  clear hK K
  (try simp only [Act.put, List.setIfInBounds_toArray, List.set_cons_zero, List.set_cons_succ])
  refine PlanT.exec2 (fun K hK => ⟨by kernel_rfl, ?_⟩)
  go_simp
  refine (bd_make H2.out HAL.out hk _ hsz _ _ HF.out).mono ?_
  rintro e w4 ⟨rfl, h4⟩
  have H4 := Lib.hid h4
  clear h4
  refine hK.out _ _ H4.out.box H4.out.box ?_
  clear hK K
  (try simp only [Act.put, List.setIfInBounds_toArray, List.set_cons_zero, List.set_cons_succ])
  refine PlanT.take0 (v := ?vR3_9) (by kernel_rfl) ?yR3_9 ?rR3_9
  case yR3_9 => (intro wz hz; have c1 : wz.cell? ⟨w.heap.size, 1, none⟩ = some (.string s) := blk_cell hz; clear hz; go_simp; try with_reducible rfl)
  (try simp only [Act.put, List.setIfInBounds_toArray, List.set_cons_zero, List.set_cons_succ])
  refine PlanT.take0 (v := ?vR3_10) (by kernel_rfl) ?yR3_10 ?rR3_10
  case yR3_10 => (intro wz hz; have c1 : wz.cell? ⟨w.heap.size, 1, none⟩ = some (.string s) := blk_cell hz; clear hz; go_simp; try with_reducible rfl)
  (try simp only [Act.put, List.setIfInBounds_toArray, List.set_cons_zero, List.set_cons_succ])
  refine PlanT.done (NoPanic.normal ?_)
  go_wp2
  go_ret
  exact ⟨rfl, H4.out.bb, HZ.out⟩

set_option maxRecDepth 100000 in
set_option maxHeartbeats 4000000 in
set_option linter.unusedSimpArgs false in
set_option linter.unusedVariables false in
theorem step_safe {W w : World} {p q : Nat} {pd : PD} {m : DM} {k : Nat} (h : Bb W w p q pd m) (hal : Al pd m k) (hk : k ≤ 200) (s : ByteArray) (hsz : s.size ≤ maxLen) (t : ByteArray) (htz : t.size ≤ maxLen) (a c : Int) (hia : -9223372036854775808 ≤ a ∧ a ≤ 9223372036854775807) (hic : -9223372036854775808 ≤ c ∧ c ≤ 9223372036854775807) (va : Option Addr) (vc : Nat) (b : List UInt8) (hv : RdB W (.slice va b.length vc) b) (hbl : b.length ≤ 300) (z : DP) (hkl : z.keep.length ≤ 50) (hnn : -9223372036854775808 ≤ z.names ∧ z.names ≤ 9223372036854775807) (hkn : ∀ y ∈ z.keep, -9223372036854775808 ≤ y ∧ y ≤ 9223372036854775807) (ka : Option Addr) (kc : Nat) (hr : Rd W 1 (.slice ka z.keep.length kc) z.keep.length (z.keep.map (Value.int .i64))) :
    Calls Try.prog 9 #[.pointer (some ⟨p, 0, none⟩), .pointer (some ⟨q, 0, none⟩), .agg #[.int .i64 3, .string s, .string t, .int .i64 a, .int .i64 c, .slice va b.length vc, .int .i64 z.room, .int .i64 z.crash, .bool z.done, .slice ka z.keep.length kc, .int .i64 z.names]] w fun e w' => e = .returned (.bool true) ∧ Bb W w' p q (pd.makeSafe s.data.toList).2 (m.safe s.data.toList).2 ∧ Al (pd.makeSafe s.data.toList).2 (m.safe s.data.toList).2 (k + 1) := by
  have HAL := Lib.hid hal
  have HD := Lib.hid hv
  have HR := Lib.hid hr
  have HKN := Lib.hid hkn
  have HNN := Lib.hid hnn
  have HA := Lib.hid (h.alloc (.cells #[.int .i64 3, .string s, .string t, .int .i64 a, .int .i64 c, .slice va b.length vc, .int .i64 z.room, .int .i64 z.crash, .bool z.done, .slice ka z.keep.length kc, .int .i64 z.names] 34 (0, 0)) (heap_alloc_new w _))
  clear hv hr hkn hnn
  obtain ⟨⟨r, pd'⟩, he⟩ : ∃ y, pd.makeSafe s.data.toList = y := ⟨_, rfl⟩
  obtain ⟨⟨r', m'⟩, hf⟩ : ∃ y, m.safe s.data.toList = y := ⟨_, rfl⟩
  obtain ⟨hq, hz⟩ := al_safe hal s.data.toList
  rw [he, hf] at hq hz
  rw [he, hf]
  obtain rfl : r' = r := hq
  have HE := Lib.hid he
  have HF := Lib.hid hf
  have HZ := Lib.hid hz
  clear he hf hz
  obtain ⟨w1, hw1⟩ : ∃ w1, w1 = (w.alloc (.cells #[.int .i64 3, .string s, .string t, .int .i64 a, .int .i64 c, .slice va b.length vc, .int .i64 z.room, .int .i64 z.crash, .bool z.done, .slice ka z.keep.length kc, .int .i64 z.names] 34 (0, 0))).drew := ⟨_, rfl⟩
  have H1 := Lib.hid (show Bn W w1 p q pd m w.heap.size (.cells #[.int .i64 3, .string s, .string t, .int .i64 a, .int .i64 c, .slice va b.length vc, .int .i64 z.room, .int .i64 z.crash, .bool z.done, .slice ka z.keep.length kc, .int .i64 z.names] 34 (0, 0)) by subst hw1; exact HA.out.drew)
  have Hw1 := Lib.hid hw1
  clear hw1
  clear HA h hal
  go_enter Try.func9, Try.ntmps9
  go_wp2
  refine wp_region_two (fun wz => wz.heap[w.heap.size]? = some (.cells #[.int .i64 3, .string s, .string t, .int .i64 a, .int .i64 c, .slice va b.length vc, .int .i64 z.room, .int .i64 z.crash, .bool z.done, .slice ka z.keep.length kc, .int .i64 z.names] 34 (0, 0))) (fun wz => wz.heap[w.heap.size]? = some (.cells #[.int .i64 3, .string s, .string t, .int .i64 a, .int .i64 c, .slice va b.length vc, .int .i64 z.room, .int .i64 z.crash, .bool z.done, .slice ka z.keep.length kc, .int .i64 z.names] 34 (0, 0))) [(0, 0), (0, 1), (0, 2), (0, 5), (0, 6), (0, 7), (2, 3), (2, 4), (2, 8), (0, 9), (0, 10)] [] (by kernel_rfl) (by kernel_rfl) (by kernel_rfl) (by kernel_rfl) (by kernel_rfl) (by rw [← Hw1.out]; exact H1.out.box) (by rw [← Hw1.out]; exact H1.out.box) ?_
  simp only [planT, List.drop_succ_cons, List.drop_zero]
  rw [← Hw1.out]
  refine PlanT.take0 (v := ?vR8_0) (by kernel_rfl) ?yR8_0 ?rR8_0
  case yR8_0 => (intro wz hz; have c1 : wz.cell? ⟨w.heap.size, 1, none⟩ = some (.string s) := blk_cell hz; clear hz; go_simp; try with_reducible rfl)
  (try simp only [Act.put, List.setIfInBounds_toArray, List.set_cons_zero, List.set_cons_succ])
  refine PlanT.take0 (v := ?vR8_1) (by kernel_rfl) ?yR8_1 ?rR8_1
  case yR8_1 => (intro wz hz; have c1 : wz.cell? ⟨w.heap.size, 1, none⟩ = some (.string s) := blk_cell hz; clear hz; go_simp; try with_reducible rfl)
  (try simp only [Act.put, List.setIfInBounds_toArray, List.set_cons_zero, List.set_cons_succ])
  refine PlanT.take0 (v := ?vR8_2) (by kernel_rfl) ?yR8_2 ?rR8_2
  case yR8_2 => (intro wz hz; have c1 : wz.cell? ⟨w.heap.size, 1, none⟩ = some (.string s) := blk_cell hz; clear hz; go_simp; try with_reducible rfl)
  (try simp only [Act.put, List.setIfInBounds_toArray, List.set_cons_zero, List.set_cons_succ])
  refine PlanT.take0 (v := ?vR8_5) (by kernel_rfl) ?yR8_5 ?rR8_5
  case yR8_5 => (intro wz hz; have c1 : wz.cell? ⟨w.heap.size, 1, none⟩ = some (.string s) := blk_cell hz; clear hz; go_simp; try with_reducible rfl)
  (try simp only [Act.put, List.setIfInBounds_toArray, List.set_cons_zero, List.set_cons_succ])
  refine PlanT.take0 (v := ?vR8_6) (by kernel_rfl) ?yR8_6 ?rR8_6
  case yR8_6 => (intro wz hz; have c1 : wz.cell? ⟨w.heap.size, 1, none⟩ = some (.string s) := blk_cell hz; clear hz; go_simp; try with_reducible rfl)
  (try simp only [Act.put, List.setIfInBounds_toArray, List.set_cons_zero, List.set_cons_succ])
  refine PlanT.take0 (v := ?vR8_7) (by kernel_rfl) ?yR8_7 ?rR8_7
  case yR8_7 => (intro wz hz; have c1 : wz.cell? ⟨w.heap.size, 1, none⟩ = some (.string s) := blk_cell hz; clear hz; go_simp; try with_reducible rfl)
  (try simp only [Act.put, List.setIfInBounds_toArray, List.set_cons_zero, List.set_cons_succ])
  refine PlanT.exec2 (fun K hK => ⟨by kernel_rfl, ?_⟩)
  go_simp
  refine (bn_safe H1.out HAL.out hk _ hsz _ _ HE.out).mono ?_
  rintro e w2 ⟨rfl, h2⟩
  have H2 := Lib.hid h2
  clear h2
  refine hK.out _ _ H2.out.box H2.out.box ?_
  clear hK K
  (try simp only [Act.put, List.setIfInBounds_toArray, List.set_cons_zero, List.set_cons_succ])
  refine PlanT.exec2 (fun K hK => ⟨by kernel_rfl, ?_⟩)
  go_simp
  refine (num1_any _ _).mono ?_
  rintro e w3 ⟨rfl, rfl⟩
  refine hK.out _ _ H2.out.box H2.out.box ?_
  clear hK K
  (try simp only [Act.put, List.setIfInBounds_toArray, List.set_cons_zero, List.set_cons_succ])
  refine PlanT.exec2 (fun K hK => ⟨by kernel_rfl, ?_⟩)
  go_simp
  refine (bd_safe H2.out HAL.out hk _ hsz _ _ HF.out).mono ?_
  rintro e w4 ⟨rfl, h4⟩
  have H4 := Lib.hid h4
  clear h4
  refine hK.out _ _ H4.out.box H4.out.box ?_
  clear hK K
  (try simp only [Act.put, List.setIfInBounds_toArray, List.set_cons_zero, List.set_cons_succ])
  refine PlanT.take0 (v := ?vR8_9) (by kernel_rfl) ?yR8_9 ?rR8_9
  case yR8_9 => (intro wz hz; have c1 : wz.cell? ⟨w.heap.size, 1, none⟩ = some (.string s) := blk_cell hz; clear hz; go_simp; try with_reducible rfl)
  (try simp only [Act.put, List.setIfInBounds_toArray, List.set_cons_zero, List.set_cons_succ])
  refine PlanT.take0 (v := ?vR8_10) (by kernel_rfl) ?yR8_10 ?rR8_10
  case yR8_10 => (intro wz hz; have c1 : wz.cell? ⟨w.heap.size, 1, none⟩ = some (.string s) := blk_cell hz; clear hz; go_simp; try with_reducible rfl)
  (try simp only [Act.put, List.setIfInBounds_toArray, List.set_cons_zero, List.set_cons_succ])
  refine PlanT.done (NoPanic.normal ?_)
  go_wp2
  go_ret
  exact ⟨rfl, H4.out.bb, HZ.out⟩

set_option maxRecDepth 100000 in
set_option maxHeartbeats 4000000 in
set_option linter.unusedSimpArgs false in
set_option linter.unusedVariables false in
theorem step_move {W w : World} {p q : Nat} {pd : PD} {m : DM} {k : Nat} (h : Bb W w p q pd m) (hal : Al pd m k) (hk : k ≤ 200) (s : ByteArray) (hsz : s.size ≤ maxLen) (t : ByteArray) (htz : t.size ≤ maxLen) (a c : Int) (hia : -9223372036854775808 ≤ a ∧ a ≤ 9223372036854775807) (hic : -9223372036854775808 ≤ c ∧ c ≤ 9223372036854775807) (va : Option Addr) (vc : Nat) (b : List UInt8) (hv : RdB W (.slice va b.length vc) b) (hbl : b.length ≤ 300) (z : DP) (hkl : z.keep.length ≤ 50) (hnn : -9223372036854775808 ≤ z.names ∧ z.names ≤ 9223372036854775807) (hkn : ∀ y ∈ z.keep, -9223372036854775808 ≤ y ∧ y ≤ 9223372036854775807) (ka : Option Addr) (kc : Nat) (hr : Rd W 1 (.slice ka z.keep.length kc) z.keep.length (z.keep.map (Value.int .i64))) :
    Calls Try.prog 9 #[.pointer (some ⟨p, 0, none⟩), .pointer (some ⟨q, 0, none⟩), .agg #[.int .i64 4, .string s, .string t, .int .i64 a, .int .i64 c, .slice va b.length vc, .int .i64 z.room, .int .i64 z.crash, .bool z.done, .slice ka z.keep.length kc, .int .i64 z.names]] w fun e w' => e = .returned (.bool true) ∧ Bb W w' p q (pd.move s.data.toList t.data.toList).2 (m.move s.data.toList t.data.toList).2 ∧ Al (pd.move s.data.toList t.data.toList).2 (m.move s.data.toList t.data.toList).2 (k + 1) := by
  have HAL := Lib.hid hal
  have HD := Lib.hid hv
  have HR := Lib.hid hr
  have HKN := Lib.hid hkn
  have HNN := Lib.hid hnn
  have HA := Lib.hid (h.alloc (.cells #[.int .i64 4, .string s, .string t, .int .i64 a, .int .i64 c, .slice va b.length vc, .int .i64 z.room, .int .i64 z.crash, .bool z.done, .slice ka z.keep.length kc, .int .i64 z.names] 34 (0, 0)) (heap_alloc_new w _))
  clear hv hr hkn hnn
  obtain ⟨⟨r, pd'⟩, he⟩ : ∃ y, pd.move s.data.toList t.data.toList = y := ⟨_, rfl⟩
  obtain ⟨⟨r', m'⟩, hf⟩ : ∃ y, m.move s.data.toList t.data.toList = y := ⟨_, rfl⟩
  obtain ⟨hq, hz⟩ := al_move hal s.data.toList t.data.toList
  rw [he, hf] at hq hz
  rw [he, hf]
  obtain rfl : r' = r := hq
  have HE := Lib.hid he
  have HF := Lib.hid hf
  have HZ := Lib.hid hz
  clear he hf hz
  obtain ⟨w1, hw1⟩ : ∃ w1, w1 = (w.alloc (.cells #[.int .i64 4, .string s, .string t, .int .i64 a, .int .i64 c, .slice va b.length vc, .int .i64 z.room, .int .i64 z.crash, .bool z.done, .slice ka z.keep.length kc, .int .i64 z.names] 34 (0, 0))).drew := ⟨_, rfl⟩
  have H1 := Lib.hid (show Bn W w1 p q pd m w.heap.size (.cells #[.int .i64 4, .string s, .string t, .int .i64 a, .int .i64 c, .slice va b.length vc, .int .i64 z.room, .int .i64 z.crash, .bool z.done, .slice ka z.keep.length kc, .int .i64 z.names] 34 (0, 0)) by subst hw1; exact HA.out.drew)
  have Hw1 := Lib.hid hw1
  clear hw1
  clear HA h hal
  go_enter Try.func9, Try.ntmps9
  go_wp2
  refine wp_region_two (fun wz => wz.heap[w.heap.size]? = some (.cells #[.int .i64 4, .string s, .string t, .int .i64 a, .int .i64 c, .slice va b.length vc, .int .i64 z.room, .int .i64 z.crash, .bool z.done, .slice ka z.keep.length kc, .int .i64 z.names] 34 (0, 0))) (fun wz => wz.heap[w.heap.size]? = some (.cells #[.int .i64 4, .string s, .string t, .int .i64 a, .int .i64 c, .slice va b.length vc, .int .i64 z.room, .int .i64 z.crash, .bool z.done, .slice ka z.keep.length kc, .int .i64 z.names] 34 (0, 0))) [(0, 0), (0, 1), (0, 2), (0, 3), (0, 4), (0, 7), (0, 8), (0, 9), (0, 10), (0, 11), (2, 5), (2, 6), (2, 12), (0, 13), (0, 14)] [] (by kernel_rfl) (by kernel_rfl) (by kernel_rfl) (by kernel_rfl) (by kernel_rfl) (by rw [← Hw1.out]; exact H1.out.box) (by rw [← Hw1.out]; exact H1.out.box) ?_
  simp only [planT, List.drop_succ_cons, List.drop_zero]
  rw [← Hw1.out]
  refine PlanT.take0 (v := ?vR10_0) (by kernel_rfl) ?yR10_0 ?rR10_0
  case yR10_0 => (intro wz hz; have c1 : wz.cell? ⟨w.heap.size, 1, none⟩ = some (.string s) := blk_cell hz; have c2 : wz.cell? ⟨w.heap.size, 2, none⟩ = some (.string t) := blk_cell hz; clear hz; go_simp; try with_reducible rfl)
  (try simp only [Act.put, List.setIfInBounds_toArray, List.set_cons_zero, List.set_cons_succ])
  refine PlanT.take0 (v := ?vR10_1) (by kernel_rfl) ?yR10_1 ?rR10_1
  case yR10_1 => (intro wz hz; have c1 : wz.cell? ⟨w.heap.size, 1, none⟩ = some (.string s) := blk_cell hz; have c2 : wz.cell? ⟨w.heap.size, 2, none⟩ = some (.string t) := blk_cell hz; clear hz; go_simp; try with_reducible rfl)
  (try simp only [Act.put, List.setIfInBounds_toArray, List.set_cons_zero, List.set_cons_succ])
  refine PlanT.take0 (v := ?vR10_2) (by kernel_rfl) ?yR10_2 ?rR10_2
  case yR10_2 => (intro wz hz; have c1 : wz.cell? ⟨w.heap.size, 1, none⟩ = some (.string s) := blk_cell hz; have c2 : wz.cell? ⟨w.heap.size, 2, none⟩ = some (.string t) := blk_cell hz; clear hz; go_simp; try with_reducible rfl)
  (try simp only [Act.put, List.setIfInBounds_toArray, List.set_cons_zero, List.set_cons_succ])
  refine PlanT.take0 (v := ?vR10_3) (by kernel_rfl) ?yR10_3 ?rR10_3
  case yR10_3 => (intro wz hz; have c1 : wz.cell? ⟨w.heap.size, 1, none⟩ = some (.string s) := blk_cell hz; have c2 : wz.cell? ⟨w.heap.size, 2, none⟩ = some (.string t) := blk_cell hz; clear hz; go_simp; try with_reducible rfl)
  (try simp only [Act.put, List.setIfInBounds_toArray, List.set_cons_zero, List.set_cons_succ])
  refine PlanT.take0 (v := ?vR10_4) (by kernel_rfl) ?yR10_4 ?rR10_4
  case yR10_4 => (intro wz hz; have c1 : wz.cell? ⟨w.heap.size, 1, none⟩ = some (.string s) := blk_cell hz; have c2 : wz.cell? ⟨w.heap.size, 2, none⟩ = some (.string t) := blk_cell hz; clear hz; go_simp; try with_reducible rfl)
  (try simp only [Act.put, List.setIfInBounds_toArray, List.set_cons_zero, List.set_cons_succ])
  refine PlanT.take0 (v := ?vR10_7) (by kernel_rfl) ?yR10_7 ?rR10_7
  case yR10_7 => (intro wz hz; have c1 : wz.cell? ⟨w.heap.size, 1, none⟩ = some (.string s) := blk_cell hz; have c2 : wz.cell? ⟨w.heap.size, 2, none⟩ = some (.string t) := blk_cell hz; clear hz; go_simp; try with_reducible rfl)
  (try simp only [Act.put, List.setIfInBounds_toArray, List.set_cons_zero, List.set_cons_succ])
  refine PlanT.take0 (v := ?vR10_8) (by kernel_rfl) ?yR10_8 ?rR10_8
  case yR10_8 => (intro wz hz; have c1 : wz.cell? ⟨w.heap.size, 1, none⟩ = some (.string s) := blk_cell hz; have c2 : wz.cell? ⟨w.heap.size, 2, none⟩ = some (.string t) := blk_cell hz; clear hz; go_simp; try with_reducible rfl)
  (try simp only [Act.put, List.setIfInBounds_toArray, List.set_cons_zero, List.set_cons_succ])
  refine PlanT.take0 (v := ?vR10_9) (by kernel_rfl) ?yR10_9 ?rR10_9
  case yR10_9 => (intro wz hz; have c1 : wz.cell? ⟨w.heap.size, 1, none⟩ = some (.string s) := blk_cell hz; have c2 : wz.cell? ⟨w.heap.size, 2, none⟩ = some (.string t) := blk_cell hz; clear hz; go_simp; try with_reducible rfl)
  (try simp only [Act.put, List.setIfInBounds_toArray, List.set_cons_zero, List.set_cons_succ])
  refine PlanT.take0 (v := ?vR10_10) (by kernel_rfl) ?yR10_10 ?rR10_10
  case yR10_10 => (intro wz hz; have c1 : wz.cell? ⟨w.heap.size, 1, none⟩ = some (.string s) := blk_cell hz; have c2 : wz.cell? ⟨w.heap.size, 2, none⟩ = some (.string t) := blk_cell hz; clear hz; go_simp; try with_reducible rfl)
  (try simp only [Act.put, List.setIfInBounds_toArray, List.set_cons_zero, List.set_cons_succ])
  refine PlanT.take0 (v := ?vR10_11) (by kernel_rfl) ?yR10_11 ?rR10_11
  case yR10_11 => (intro wz hz; have c1 : wz.cell? ⟨w.heap.size, 1, none⟩ = some (.string s) := blk_cell hz; have c2 : wz.cell? ⟨w.heap.size, 2, none⟩ = some (.string t) := blk_cell hz; clear hz; go_simp; try with_reducible rfl)
  (try simp only [Act.put, List.setIfInBounds_toArray, List.set_cons_zero, List.set_cons_succ])
  refine PlanT.exec2 (fun K hK => ⟨by kernel_rfl, ?_⟩)
  go_simp
  refine (bn_move H1.out HAL.out hk _ hsz _ htz _ _ HE.out).mono ?_
  rintro e w2 ⟨rfl, h2⟩
  have H2 := Lib.hid h2
  clear h2
  refine hK.out _ _ H2.out.box H2.out.box ?_
  clear hK K
  (try simp only [Act.put, List.setIfInBounds_toArray, List.set_cons_zero, List.set_cons_succ])
  refine PlanT.exec2 (fun K hK => ⟨by kernel_rfl, ?_⟩)
  go_simp
  refine (num1_any _ _).mono ?_
  rintro e w3 ⟨rfl, rfl⟩
  refine hK.out _ _ H2.out.box H2.out.box ?_
  clear hK K
  (try simp only [Act.put, List.setIfInBounds_toArray, List.set_cons_zero, List.set_cons_succ])
  refine PlanT.exec2 (fun K hK => ⟨by kernel_rfl, ?_⟩)
  go_simp
  refine (bd_move H2.out HAL.out hk _ hsz _ htz _ _ HF.out).mono ?_
  rintro e w4 ⟨rfl, h4⟩
  have H4 := Lib.hid h4
  clear h4
  refine hK.out _ _ H4.out.box H4.out.box ?_
  clear hK K
  (try simp only [Act.put, List.setIfInBounds_toArray, List.set_cons_zero, List.set_cons_succ])
  refine PlanT.take0 (v := ?vR10_13) (by kernel_rfl) ?yR10_13 ?rR10_13
  case yR10_13 => (intro wz hz; have c1 : wz.cell? ⟨w.heap.size, 1, none⟩ = some (.string s) := blk_cell hz; have c2 : wz.cell? ⟨w.heap.size, 2, none⟩ = some (.string t) := blk_cell hz; clear hz; go_simp; try with_reducible rfl)
  (try simp only [Act.put, List.setIfInBounds_toArray, List.set_cons_zero, List.set_cons_succ])
  refine PlanT.take0 (v := ?vR10_14) (by kernel_rfl) ?yR10_14 ?rR10_14
  case yR10_14 => (intro wz hz; have c1 : wz.cell? ⟨w.heap.size, 1, none⟩ = some (.string s) := blk_cell hz; have c2 : wz.cell? ⟨w.heap.size, 2, none⟩ = some (.string t) := blk_cell hz; clear hz; go_simp; try with_reducible rfl)
  (try simp only [Act.put, List.setIfInBounds_toArray, List.set_cons_zero, List.set_cons_succ])
  refine PlanT.done (NoPanic.normal ?_)
  go_wp2
  go_ret
  exact ⟨rfl, H4.out.bb, HZ.out⟩

set_option maxRecDepth 100000 in
set_option maxHeartbeats 4000000 in
set_option linter.unusedSimpArgs false in
set_option linter.unusedVariables false in
theorem step_gone {W w : World} {p q : Nat} {pd : PD} {m : DM} {k : Nat} (h : Bb W w p q pd m) (hal : Al pd m k) (hk : k ≤ 200) (s : ByteArray) (hsz : s.size ≤ maxLen) (t : ByteArray) (htz : t.size ≤ maxLen) (a c : Int) (hia : -9223372036854775808 ≤ a ∧ a ≤ 9223372036854775807) (hic : -9223372036854775808 ≤ c ∧ c ≤ 9223372036854775807) (va : Option Addr) (vc : Nat) (b : List UInt8) (hv : RdB W (.slice va b.length vc) b) (hbl : b.length ≤ 300) (z : DP) (hkl : z.keep.length ≤ 50) (hnn : -9223372036854775808 ≤ z.names ∧ z.names ≤ 9223372036854775807) (hkn : ∀ y ∈ z.keep, -9223372036854775808 ≤ y ∧ y ≤ 9223372036854775807) (ka : Option Addr) (kc : Nat) (hr : Rd W 1 (.slice ka z.keep.length kc) z.keep.length (z.keep.map (Value.int .i64))) :
    Calls Try.prog 9 #[.pointer (some ⟨p, 0, none⟩), .pointer (some ⟨q, 0, none⟩), .agg #[.int .i64 5, .string s, .string t, .int .i64 a, .int .i64 c, .slice va b.length vc, .int .i64 z.room, .int .i64 z.crash, .bool z.done, .slice ka z.keep.length kc, .int .i64 z.names]] w fun e w' => e = .returned (.bool true) ∧ Bb W w' p q (pd.gone s.data.toList).2 (m.gone s.data.toList).2 ∧ Al (pd.gone s.data.toList).2 (m.gone s.data.toList).2 (k + 1) := by
  have HAL := Lib.hid hal
  have HD := Lib.hid hv
  have HR := Lib.hid hr
  have HKN := Lib.hid hkn
  have HNN := Lib.hid hnn
  have HA := Lib.hid (h.alloc (.cells #[.int .i64 5, .string s, .string t, .int .i64 a, .int .i64 c, .slice va b.length vc, .int .i64 z.room, .int .i64 z.crash, .bool z.done, .slice ka z.keep.length kc, .int .i64 z.names] 34 (0, 0)) (heap_alloc_new w _))
  clear hv hr hkn hnn
  obtain ⟨⟨r, pd'⟩, he⟩ : ∃ y, pd.gone s.data.toList = y := ⟨_, rfl⟩
  obtain ⟨⟨r', m'⟩, hf⟩ : ∃ y, m.gone s.data.toList = y := ⟨_, rfl⟩
  obtain ⟨hq, hz⟩ := al_gone hal s.data.toList
  rw [he, hf] at hq hz
  rw [he, hf]
  obtain rfl : r' = r := hq
  have HE := Lib.hid he
  have HF := Lib.hid hf
  have HZ := Lib.hid hz
  clear he hf hz
  obtain ⟨w1, hw1⟩ : ∃ w1, w1 = (w.alloc (.cells #[.int .i64 5, .string s, .string t, .int .i64 a, .int .i64 c, .slice va b.length vc, .int .i64 z.room, .int .i64 z.crash, .bool z.done, .slice ka z.keep.length kc, .int .i64 z.names] 34 (0, 0))).drew := ⟨_, rfl⟩
  have H1 := Lib.hid (show Bn W w1 p q pd m w.heap.size (.cells #[.int .i64 5, .string s, .string t, .int .i64 a, .int .i64 c, .slice va b.length vc, .int .i64 z.room, .int .i64 z.crash, .bool z.done, .slice ka z.keep.length kc, .int .i64 z.names] 34 (0, 0)) by subst hw1; exact HA.out.drew)
  have Hw1 := Lib.hid hw1
  clear hw1
  clear HA h hal
  go_enter Try.func9, Try.ntmps9
  go_wp2
  refine wp_region_two (fun wz => wz.heap[w.heap.size]? = some (.cells #[.int .i64 5, .string s, .string t, .int .i64 a, .int .i64 c, .slice va b.length vc, .int .i64 z.room, .int .i64 z.crash, .bool z.done, .slice ka z.keep.length kc, .int .i64 z.names] 34 (0, 0))) (fun wz => wz.heap[w.heap.size]? = some (.cells #[.int .i64 5, .string s, .string t, .int .i64 a, .int .i64 c, .slice va b.length vc, .int .i64 z.room, .int .i64 z.crash, .bool z.done, .slice ka z.keep.length kc, .int .i64 z.names] 34 (0, 0))) [(0, 0), (0, 1), (0, 2), (0, 5), (0, 6), (0, 7), (2, 3), (2, 4), (2, 8), (0, 9), (0, 10)] [] (by kernel_rfl) (by kernel_rfl) (by kernel_rfl) (by kernel_rfl) (by kernel_rfl) (by rw [← Hw1.out]; exact H1.out.box) (by rw [← Hw1.out]; exact H1.out.box) ?_
  simp only [planT, List.drop_succ_cons, List.drop_zero]
  rw [← Hw1.out]
  refine PlanT.take0 (v := ?vR12_0) (by kernel_rfl) ?yR12_0 ?rR12_0
  case yR12_0 => (intro wz hz; have c1 : wz.cell? ⟨w.heap.size, 1, none⟩ = some (.string s) := blk_cell hz; clear hz; go_simp; try with_reducible rfl)
  (try simp only [Act.put, List.setIfInBounds_toArray, List.set_cons_zero, List.set_cons_succ])
  refine PlanT.take0 (v := ?vR12_1) (by kernel_rfl) ?yR12_1 ?rR12_1
  case yR12_1 => (intro wz hz; have c1 : wz.cell? ⟨w.heap.size, 1, none⟩ = some (.string s) := blk_cell hz; clear hz; go_simp; try with_reducible rfl)
  (try simp only [Act.put, List.setIfInBounds_toArray, List.set_cons_zero, List.set_cons_succ])
  refine PlanT.take0 (v := ?vR12_2) (by kernel_rfl) ?yR12_2 ?rR12_2
  case yR12_2 => (intro wz hz; have c1 : wz.cell? ⟨w.heap.size, 1, none⟩ = some (.string s) := blk_cell hz; clear hz; go_simp; try with_reducible rfl)
  (try simp only [Act.put, List.setIfInBounds_toArray, List.set_cons_zero, List.set_cons_succ])
  refine PlanT.take0 (v := ?vR12_5) (by kernel_rfl) ?yR12_5 ?rR12_5
  case yR12_5 => (intro wz hz; have c1 : wz.cell? ⟨w.heap.size, 1, none⟩ = some (.string s) := blk_cell hz; clear hz; go_simp; try with_reducible rfl)
  (try simp only [Act.put, List.setIfInBounds_toArray, List.set_cons_zero, List.set_cons_succ])
  refine PlanT.take0 (v := ?vR12_6) (by kernel_rfl) ?yR12_6 ?rR12_6
  case yR12_6 => (intro wz hz; have c1 : wz.cell? ⟨w.heap.size, 1, none⟩ = some (.string s) := blk_cell hz; clear hz; go_simp; try with_reducible rfl)
  (try simp only [Act.put, List.setIfInBounds_toArray, List.set_cons_zero, List.set_cons_succ])
  refine PlanT.take0 (v := ?vR12_7) (by kernel_rfl) ?yR12_7 ?rR12_7
  case yR12_7 => (intro wz hz; have c1 : wz.cell? ⟨w.heap.size, 1, none⟩ = some (.string s) := blk_cell hz; clear hz; go_simp; try with_reducible rfl)
  (try simp only [Act.put, List.setIfInBounds_toArray, List.set_cons_zero, List.set_cons_succ])
  refine PlanT.exec2 (fun K hK => ⟨by kernel_rfl, ?_⟩)
  go_simp
  refine (bn_gone H1.out HAL.out hk _ hsz _ _ HE.out).mono ?_
  rintro e w2 ⟨rfl, h2⟩
  have H2 := Lib.hid h2
  clear h2
  refine hK.out _ _ H2.out.box H2.out.box ?_
  clear hK K
  (try simp only [Act.put, List.setIfInBounds_toArray, List.set_cons_zero, List.set_cons_succ])
  refine PlanT.exec2 (fun K hK => ⟨by kernel_rfl, ?_⟩)
  go_simp
  refine (num1_any _ _).mono ?_
  rintro e w3 ⟨rfl, rfl⟩
  refine hK.out _ _ H2.out.box H2.out.box ?_
  clear hK K
  (try simp only [Act.put, List.setIfInBounds_toArray, List.set_cons_zero, List.set_cons_succ])
  refine PlanT.exec2 (fun K hK => ⟨by kernel_rfl, ?_⟩)
  go_simp
  refine (bd_gone H2.out HAL.out hk _ hsz _ _ HF.out).mono ?_
  rintro e w4 ⟨rfl, h4⟩
  have H4 := Lib.hid h4
  clear h4
  refine hK.out _ _ H4.out.box H4.out.box ?_
  clear hK K
  (try simp only [Act.put, List.setIfInBounds_toArray, List.set_cons_zero, List.set_cons_succ])
  refine PlanT.take0 (v := ?vR12_9) (by kernel_rfl) ?yR12_9 ?rR12_9
  case yR12_9 => (intro wz hz; have c1 : wz.cell? ⟨w.heap.size, 1, none⟩ = some (.string s) := blk_cell hz; clear hz; go_simp; try with_reducible rfl)
  (try simp only [Act.put, List.setIfInBounds_toArray, List.set_cons_zero, List.set_cons_succ])
  refine PlanT.take0 (v := ?vR12_10) (by kernel_rfl) ?yR12_10 ?rR12_10
  case yR12_10 => (intro wz hz; have c1 : wz.cell? ⟨w.heap.size, 1, none⟩ = some (.string s) := blk_cell hz; clear hz; go_simp; try with_reducible rfl)
  (try simp only [Act.put, List.setIfInBounds_toArray, List.set_cons_zero, List.set_cons_succ])
  refine PlanT.done (NoPanic.normal ?_)
  go_wp2
  go_ret
  exact ⟨rfl, H4.out.bb, HZ.out⟩

set_option maxRecDepth 100000 in
set_option maxHeartbeats 4000000 in
set_option linter.unusedSimpArgs false in
set_option linter.unusedVariables false in
theorem step_names {W w : World} {p q : Nat} {pd : PD} {m : DM} {k : Nat} (h : Bb W w p q pd m) (hal : Al pd m k) (hk : k ≤ 200) (s : ByteArray) (hsz : s.size ≤ maxLen) (t : ByteArray) (htz : t.size ≤ maxLen) (a c : Int) (hia : -9223372036854775808 ≤ a ∧ a ≤ 9223372036854775807) (hic : -9223372036854775808 ≤ c ∧ c ≤ 9223372036854775807) (va : Option Addr) (vc : Nat) (b : List UInt8) (hv : RdB W (.slice va b.length vc) b) (hbl : b.length ≤ 300) (z : DP) (hkl : z.keep.length ≤ 50) (hnn : -9223372036854775808 ≤ z.names ∧ z.names ≤ 9223372036854775807) (hkn : ∀ y ∈ z.keep, -9223372036854775808 ≤ y ∧ y ≤ 9223372036854775807) (ka : Option Addr) (kc : Nat) (hr : Rd W 1 (.slice ka z.keep.length kc) z.keep.length (z.keep.map (Value.int .i64))) :
    Calls Try.prog 9 #[.pointer (some ⟨p, 0, none⟩), .pointer (some ⟨q, 0, none⟩), .agg #[.int .i64 6, .string s, .string t, .int .i64 a, .int .i64 c, .slice va b.length vc, .int .i64 z.room, .int .i64 z.crash, .bool z.done, .slice ka z.keep.length kc, .int .i64 z.names]] w fun e w' => e = .returned (.bool true) ∧ Bb W w' p q (pd.nameSafe).2 (m.names).2 ∧ Al (pd.nameSafe).2 (m.names).2 (k + 1) := by
  have HAL := Lib.hid hal
  have HD := Lib.hid hv
  have HR := Lib.hid hr
  have HKN := Lib.hid hkn
  have HNN := Lib.hid hnn
  have HA := Lib.hid (h.alloc (.cells #[.int .i64 6, .string s, .string t, .int .i64 a, .int .i64 c, .slice va b.length vc, .int .i64 z.room, .int .i64 z.crash, .bool z.done, .slice ka z.keep.length kc, .int .i64 z.names] 34 (0, 0)) (heap_alloc_new w _))
  clear hv hr hkn hnn
  obtain ⟨⟨r, pd'⟩, he⟩ : ∃ y, pd.nameSafe = y := ⟨_, rfl⟩
  obtain ⟨⟨r', m'⟩, hf⟩ : ∃ y, m.names = y := ⟨_, rfl⟩
  obtain ⟨hq, hz⟩ := al_names hal
  rw [he, hf] at hq hz
  rw [he, hf]
  obtain rfl : r' = r := hq
  have HE := Lib.hid he
  have HF := Lib.hid hf
  have HZ := Lib.hid hz
  clear he hf hz
  clear h hal
  go_enter Try.func9, Try.ntmps9
  go_wp2_with (first | (go_at_call 34; refine (bn_names HA.out HAL.out hk _ _ HE.out).mono ?_; rintro e w1 ⟨rfl, h1⟩; have H1 := Lib.hid h1; clear h1) | (go_at_call 35; refine (bd_names H1.out HAL.out hk _ _ HF.out).mono ?_; rintro e w2 ⟨rfl, h2⟩; have H2 := Lib.hid h2; clear h2) | (go_at_call 21; refine (num1_any _ _).mono ?_; rintro e w5 ⟨rfl, rfl⟩))
  go_ret
  exact ⟨rfl, H2.out.bb, HZ.out⟩
end Go.Proofs.Ytfeogoihkpclcaa
