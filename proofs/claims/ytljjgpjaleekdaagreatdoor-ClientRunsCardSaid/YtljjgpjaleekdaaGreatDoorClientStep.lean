/-
  One act on both clients.
-/
import Derived.Test.YtljjgpjaleekdaaGreatDoorClientBoth
import Derived.Test.YtljjgpjaleekdaaGreatDoorTwo
namespace Go.Proofs.YtljjgpjaleekdaaGreatDoor
open Go.RowKit

set_option maxRecDepth 100000 in
set_option maxHeartbeats 4000000 in
set_option linter.unusedSimpArgs false in
set_option linter.unusedVariables false in
theorem step_up1 {W w : World} {p q : Nat} {f : FR} {k : Nat} (h : Bo W w p q f f) (hs : RSm f k) (hk : k ≤ 1000) (s : ByteArray) (hsz : s.size ≤ maxLen) (a c : Int) (va : Option Addr) (vc : Nat) (b : List UInt8) (hv : RdB W (.slice va b.length vc) b) (hbl : b.length ≤ 300) (na : Option Addr) (nc : Nat) (nx : List Int) (hn : Rd W 1 (.slice na nx.length nc) nx.length (nx.map (Value.int .i64))) (hnl : nx.length ≤ 100) :
    Calls Tryz.prog 6 #[.pointer (some ⟨p, 0, none⟩), .pointer (some ⟨q, 0, none⟩), .agg #[.int .i64 1, .string s, .int .i64 a, .int .i64 c, .slice va b.length vc, .slice na nx.length nc]] w fun e w' => e = .returned (.bool true) ∧ Bo W w' p q (f.up s.data.toList b).2 (f.up s.data.toList b).2 := by
  have HS := Lib.hid hs
  have HD := Lib.hid hv
  have HNX := Lib.hid hn
  have HA := Lib.hid (h.alloc (.cells #[.int .i64 1, .string s, .int .i64 a, .int .i64 c, .slice va b.length vc, .slice na nx.length nc] 33 (0, 0)) (heap_alloc_new w _))
  clear hs hv hn
  obtain ⟨⟨r, f'⟩, he⟩ : ∃ y, f.up s.data.toList b = y := ⟨_, rfl⟩
  rw [he]
  have HE := Lib.hid he
  clear he
  obtain ⟨w1, hw1⟩ : ∃ w1, w1 = (w.alloc (.cells #[.int .i64 1, .string s, .int .i64 a, .int .i64 c, .slice va b.length vc, .slice na nx.length nc] 33 (0, 0))).drew := ⟨_, rfl⟩
  have H1 := Lib.hid (show BoN W w1 p q f f w.heap.size (.cells #[.int .i64 1, .string s, .int .i64 a, .int .i64 c, .slice va b.length vc, .slice na nx.length nc] 33 (0, 0)) by subst hw1; exact HA.out.drew)
  have Hw1 := Lib.hid hw1
  clear hw1
  clear HA h
  go_enter Tryz.func6, Tryz.ntmps6
  go_wp2
  refine wp_region_two (fun wz => wz.heap[w.heap.size]? = some (.cells #[.int .i64 1, .string s, .int .i64 a, .int .i64 c, .slice va b.length vc, .slice na nx.length nc] 33 (0, 0))) (fun wz => wz.heap[w.heap.size]? = some (.cells #[.int .i64 1, .string s, .int .i64 a, .int .i64 c, .slice va b.length vc, .slice na nx.length nc] 33 (0, 0))) [(0, 0), (0, 1), (0, 2), (0, 3), (0, 4), (0, 7), (0, 8), (0, 9), (0, 10), (0, 11), (2, 5), (2, 6), (2, 12), (0, 13), (0, 14)] [] (by kernel_rfl) (by kernel_rfl) (by kernel_rfl) (by kernel_rfl) (by kernel_rfl) (by rw [← Hw1.out]; exact H1.out.box) (by rw [← Hw1.out]; exact H1.out.box) ?_
  simp only [planT, List.drop_succ_cons, List.drop_zero]
  rw [← Hw1.out]
  refine PlanT.take0 (v := ?vR7_0) (by kernel_rfl) ?yR7_0 ?rR7_0
  case yR7_0 => (intro wz hz; have c1 : wz.cell? ⟨w.heap.size, 1, none⟩ = some (.string s) := blk_cell hz; have c4 : wz.cell? ⟨w.heap.size, 4, none⟩ = some (.slice va b.length vc) := blk_cell hz; clear hz; go_simp; try with_reducible rfl)
  (try simp only [Act.put, List.setIfInBounds_toArray, List.set_cons_zero, List.set_cons_succ])
  refine PlanT.take0 (v := ?vR7_1) (by kernel_rfl) ?yR7_1 ?rR7_1
  case yR7_1 => (intro wz hz; have c1 : wz.cell? ⟨w.heap.size, 1, none⟩ = some (.string s) := blk_cell hz; have c4 : wz.cell? ⟨w.heap.size, 4, none⟩ = some (.slice va b.length vc) := blk_cell hz; clear hz; go_simp; try with_reducible rfl)
  (try simp only [Act.put, List.setIfInBounds_toArray, List.set_cons_zero, List.set_cons_succ])
  refine PlanT.take0 (v := ?vR7_2) (by kernel_rfl) ?yR7_2 ?rR7_2
  case yR7_2 => (intro wz hz; have c1 : wz.cell? ⟨w.heap.size, 1, none⟩ = some (.string s) := blk_cell hz; have c4 : wz.cell? ⟨w.heap.size, 4, none⟩ = some (.slice va b.length vc) := blk_cell hz; clear hz; go_simp; try with_reducible rfl)
  (try simp only [Act.put, List.setIfInBounds_toArray, List.set_cons_zero, List.set_cons_succ])
  refine PlanT.take0 (v := ?vR7_3) (by kernel_rfl) ?yR7_3 ?rR7_3
  case yR7_3 => (intro wz hz; have c1 : wz.cell? ⟨w.heap.size, 1, none⟩ = some (.string s) := blk_cell hz; have c4 : wz.cell? ⟨w.heap.size, 4, none⟩ = some (.slice va b.length vc) := blk_cell hz; clear hz; go_simp; try with_reducible rfl)
  (try simp only [Act.put, List.setIfInBounds_toArray, List.set_cons_zero, List.set_cons_succ])
  refine PlanT.take0 (v := ?vR7_4) (by kernel_rfl) ?yR7_4 ?rR7_4
  case yR7_4 => (intro wz hz; have c1 : wz.cell? ⟨w.heap.size, 1, none⟩ = some (.string s) := blk_cell hz; have c4 : wz.cell? ⟨w.heap.size, 4, none⟩ = some (.slice va b.length vc) := blk_cell hz; clear hz; go_simp; try with_reducible rfl)
  (try simp only [Act.put, List.setIfInBounds_toArray, List.set_cons_zero, List.set_cons_succ])
  refine PlanT.take0 (v := ?vR7_7) (by kernel_rfl) ?yR7_7 ?rR7_7
  case yR7_7 => (intro wz hz; have c1 : wz.cell? ⟨w.heap.size, 1, none⟩ = some (.string s) := blk_cell hz; have c4 : wz.cell? ⟨w.heap.size, 4, none⟩ = some (.slice va b.length vc) := blk_cell hz; clear hz; go_simp; try with_reducible rfl)
  (try simp only [Act.put, List.setIfInBounds_toArray, List.set_cons_zero, List.set_cons_succ])
  refine PlanT.take0 (v := ?vR7_8) (by kernel_rfl) ?yR7_8 ?rR7_8
  case yR7_8 => (intro wz hz; have c1 : wz.cell? ⟨w.heap.size, 1, none⟩ = some (.string s) := blk_cell hz; have c4 : wz.cell? ⟨w.heap.size, 4, none⟩ = some (.slice va b.length vc) := blk_cell hz; clear hz; go_simp; try with_reducible rfl)
  (try simp only [Act.put, List.setIfInBounds_toArray, List.set_cons_zero, List.set_cons_succ])
  refine PlanT.take0 (v := ?vR7_9) (by kernel_rfl) ?yR7_9 ?rR7_9
  case yR7_9 => (intro wz hz; have c1 : wz.cell? ⟨w.heap.size, 1, none⟩ = some (.string s) := blk_cell hz; have c4 : wz.cell? ⟨w.heap.size, 4, none⟩ = some (.slice va b.length vc) := blk_cell hz; clear hz; go_simp; try with_reducible rfl)
  (try simp only [Act.put, List.setIfInBounds_toArray, List.set_cons_zero, List.set_cons_succ])
  refine PlanT.take0 (v := ?vR7_10) (by kernel_rfl) ?yR7_10 ?rR7_10
  case yR7_10 => (intro wz hz; have c1 : wz.cell? ⟨w.heap.size, 1, none⟩ = some (.string s) := blk_cell hz; have c4 : wz.cell? ⟨w.heap.size, 4, none⟩ = some (.slice va b.length vc) := blk_cell hz; clear hz; go_simp; try with_reducible rfl)
  (try simp only [Act.put, List.setIfInBounds_toArray, List.set_cons_zero, List.set_cons_succ])
  refine PlanT.take0 (v := ?vR7_11) (by kernel_rfl) ?yR7_11 ?rR7_11
  case yR7_11 => (intro wz hz; have c1 : wz.cell? ⟨w.heap.size, 1, none⟩ = some (.string s) := blk_cell hz; have c4 : wz.cell? ⟨w.heap.size, 4, none⟩ = some (.slice va b.length vc) := blk_cell hz; clear hz; go_simp; try with_reducible rfl)
  (try simp only [Act.put, List.setIfInBounds_toArray, List.set_cons_zero, List.set_cons_succ])
  refine PlanT.exec2 (fun K hK => ⟨by kernel_rfl, ?_⟩)
  go_simp
  refine (bc_up1 H1.out HS.out hk _ hsz _ _ HD.out hbl _ _ HE.out).mono ?_
  rintro e w2 ⟨rfl, h2⟩
  have H2 := Lib.hid h2
  clear h2
  refine hK.out _ _ H2.out.box H2.out.box ?_
  clear hK K
  (try simp only [Act.put, List.setIfInBounds_toArray, List.set_cons_zero, List.set_cons_succ])
  refine PlanT.exec2 (fun K hK => ⟨by kernel_rfl, ?_⟩)
  go_simp
  refine (num1_any _ _).mono ?_
  rintro e w3 ⟨rfl, rfl⟩
  refine hK.out _ _ H2.out.box H2.out.box ?_
  clear hK K
  (try simp only [Act.put, List.setIfInBounds_toArray, List.set_cons_zero, List.set_cons_succ])
  refine PlanT.exec2 (fun K hK => ⟨by kernel_rfl, ?_⟩)
  go_simp
  refine (bc_up2 H2.out HS.out hk _ hsz _ _ HD.out hbl _ _ HE.out).mono ?_
  rintro e w4 ⟨rfl, h4⟩
  have H4 := Lib.hid h4
  clear h4
  refine hK.out _ _ H4.out.box H4.out.box ?_
  clear hK K
  (try simp only [Act.put, List.setIfInBounds_toArray, List.set_cons_zero, List.set_cons_succ])
  refine PlanT.take0 (v := ?vR7_13) (by kernel_rfl) ?yR7_13 ?rR7_13
  case yR7_13 => (intro wz hz; have c1 : wz.cell? ⟨w.heap.size, 1, none⟩ = some (.string s) := blk_cell hz; have c4 : wz.cell? ⟨w.heap.size, 4, none⟩ = some (.slice va b.length vc) := blk_cell hz; clear hz; go_simp; try with_reducible rfl)
  (try simp only [Act.put, List.setIfInBounds_toArray, List.set_cons_zero, List.set_cons_succ])
  refine PlanT.take0 (v := ?vR7_14) (by kernel_rfl) ?yR7_14 ?rR7_14
  case yR7_14 => (intro wz hz; have c1 : wz.cell? ⟨w.heap.size, 1, none⟩ = some (.string s) := blk_cell hz; have c4 : wz.cell? ⟨w.heap.size, 4, none⟩ = some (.slice va b.length vc) := blk_cell hz; clear hz; go_simp; try with_reducible rfl)
  (try simp only [Act.put, List.setIfInBounds_toArray, List.set_cons_zero, List.set_cons_succ])
  refine PlanT.done (NoPanic.normal ?_)
  go_wp2
  go_ret
  exact ⟨rfl, H4.out.bo⟩

set_option maxRecDepth 100000 in
set_option maxHeartbeats 4000000 in
set_option linter.unusedSimpArgs false in
set_option linter.unusedVariables false in
theorem step_up2 {W w : World} {p q : Nat} {f : FR} {k : Nat} (h : Bo W w p q f f) (hs : RSm f k) (hk : k ≤ 1000) (s : ByteArray) (hsz : s.size ≤ maxLen) (a c : Int) (va : Option Addr) (vc : Nat) (b : List UInt8) (hv : RdB W (.slice va b.length vc) b) (hbl : b.length ≤ 300) (na : Option Addr) (nc : Nat) (nx : List Int) (hn : Rd W 1 (.slice na nx.length nc) nx.length (nx.map (Value.int .i64))) (hnl : nx.length ≤ 100) :
    Calls Tryz.prog 6 #[.pointer (some ⟨p, 0, none⟩), .pointer (some ⟨q, 0, none⟩), .agg #[.int .i64 2, .string s, .int .i64 a, .int .i64 c, .slice va b.length vc, .slice na nx.length nc]] w fun e w' => e = .returned (.bool true) ∧ Bo W w' p q (f.up s.data.toList b).2 (f.up s.data.toList b).2 := by
  have HS := Lib.hid hs
  have HD := Lib.hid hv
  have HNX := Lib.hid hn
  have HA := Lib.hid (h.alloc (.cells #[.int .i64 2, .string s, .int .i64 a, .int .i64 c, .slice va b.length vc, .slice na nx.length nc] 33 (0, 0)) (heap_alloc_new w _))
  clear hs hv hn
  obtain ⟨⟨r, f'⟩, he⟩ : ∃ y, f.up s.data.toList b = y := ⟨_, rfl⟩
  rw [he]
  have HE := Lib.hid he
  clear he
  obtain ⟨w1, hw1⟩ : ∃ w1, w1 = (w.alloc (.cells #[.int .i64 2, .string s, .int .i64 a, .int .i64 c, .slice va b.length vc, .slice na nx.length nc] 33 (0, 0))).drew := ⟨_, rfl⟩
  have H1 := Lib.hid (show BoN W w1 p q f f w.heap.size (.cells #[.int .i64 2, .string s, .int .i64 a, .int .i64 c, .slice va b.length vc, .slice na nx.length nc] 33 (0, 0)) by subst hw1; exact HA.out.drew)
  have Hw1 := Lib.hid hw1
  clear hw1
  clear HA h
  go_enter Tryz.func6, Tryz.ntmps6
  go_wp2
  refine wp_region_two (fun wz => wz.heap[w.heap.size]? = some (.cells #[.int .i64 2, .string s, .int .i64 a, .int .i64 c, .slice va b.length vc, .slice na nx.length nc] 33 (0, 0))) (fun wz => wz.heap[w.heap.size]? = some (.cells #[.int .i64 2, .string s, .int .i64 a, .int .i64 c, .slice va b.length vc, .slice na nx.length nc] 33 (0, 0))) [(0, 0), (0, 1), (0, 2), (0, 3), (0, 4), (0, 7), (0, 8), (0, 9), (0, 10), (0, 11), (2, 5), (2, 6), (2, 12), (0, 13), (0, 14)] [] (by kernel_rfl) (by kernel_rfl) (by kernel_rfl) (by kernel_rfl) (by kernel_rfl) (by rw [← Hw1.out]; exact H1.out.box) (by rw [← Hw1.out]; exact H1.out.box) ?_
  simp only [planT, List.drop_succ_cons, List.drop_zero]
  rw [← Hw1.out]
  refine PlanT.take0 (v := ?vR7_0) (by kernel_rfl) ?yR7_0 ?rR7_0
  case yR7_0 => (intro wz hz; have c1 : wz.cell? ⟨w.heap.size, 1, none⟩ = some (.string s) := blk_cell hz; have c4 : wz.cell? ⟨w.heap.size, 4, none⟩ = some (.slice va b.length vc) := blk_cell hz; clear hz; go_simp; try with_reducible rfl)
  (try simp only [Act.put, List.setIfInBounds_toArray, List.set_cons_zero, List.set_cons_succ])
  refine PlanT.take0 (v := ?vR7_1) (by kernel_rfl) ?yR7_1 ?rR7_1
  case yR7_1 => (intro wz hz; have c1 : wz.cell? ⟨w.heap.size, 1, none⟩ = some (.string s) := blk_cell hz; have c4 : wz.cell? ⟨w.heap.size, 4, none⟩ = some (.slice va b.length vc) := blk_cell hz; clear hz; go_simp; try with_reducible rfl)
  (try simp only [Act.put, List.setIfInBounds_toArray, List.set_cons_zero, List.set_cons_succ])
  refine PlanT.take0 (v := ?vR7_2) (by kernel_rfl) ?yR7_2 ?rR7_2
  case yR7_2 => (intro wz hz; have c1 : wz.cell? ⟨w.heap.size, 1, none⟩ = some (.string s) := blk_cell hz; have c4 : wz.cell? ⟨w.heap.size, 4, none⟩ = some (.slice va b.length vc) := blk_cell hz; clear hz; go_simp; try with_reducible rfl)
  (try simp only [Act.put, List.setIfInBounds_toArray, List.set_cons_zero, List.set_cons_succ])
  refine PlanT.take0 (v := ?vR7_3) (by kernel_rfl) ?yR7_3 ?rR7_3
  case yR7_3 => (intro wz hz; have c1 : wz.cell? ⟨w.heap.size, 1, none⟩ = some (.string s) := blk_cell hz; have c4 : wz.cell? ⟨w.heap.size, 4, none⟩ = some (.slice va b.length vc) := blk_cell hz; clear hz; go_simp; try with_reducible rfl)
  (try simp only [Act.put, List.setIfInBounds_toArray, List.set_cons_zero, List.set_cons_succ])
  refine PlanT.take0 (v := ?vR7_4) (by kernel_rfl) ?yR7_4 ?rR7_4
  case yR7_4 => (intro wz hz; have c1 : wz.cell? ⟨w.heap.size, 1, none⟩ = some (.string s) := blk_cell hz; have c4 : wz.cell? ⟨w.heap.size, 4, none⟩ = some (.slice va b.length vc) := blk_cell hz; clear hz; go_simp; try with_reducible rfl)
  (try simp only [Act.put, List.setIfInBounds_toArray, List.set_cons_zero, List.set_cons_succ])
  refine PlanT.take0 (v := ?vR7_7) (by kernel_rfl) ?yR7_7 ?rR7_7
  case yR7_7 => (intro wz hz; have c1 : wz.cell? ⟨w.heap.size, 1, none⟩ = some (.string s) := blk_cell hz; have c4 : wz.cell? ⟨w.heap.size, 4, none⟩ = some (.slice va b.length vc) := blk_cell hz; clear hz; go_simp; try with_reducible rfl)
  (try simp only [Act.put, List.setIfInBounds_toArray, List.set_cons_zero, List.set_cons_succ])
  refine PlanT.take0 (v := ?vR7_8) (by kernel_rfl) ?yR7_8 ?rR7_8
  case yR7_8 => (intro wz hz; have c1 : wz.cell? ⟨w.heap.size, 1, none⟩ = some (.string s) := blk_cell hz; have c4 : wz.cell? ⟨w.heap.size, 4, none⟩ = some (.slice va b.length vc) := blk_cell hz; clear hz; go_simp; try with_reducible rfl)
  (try simp only [Act.put, List.setIfInBounds_toArray, List.set_cons_zero, List.set_cons_succ])
  refine PlanT.take0 (v := ?vR7_9) (by kernel_rfl) ?yR7_9 ?rR7_9
  case yR7_9 => (intro wz hz; have c1 : wz.cell? ⟨w.heap.size, 1, none⟩ = some (.string s) := blk_cell hz; have c4 : wz.cell? ⟨w.heap.size, 4, none⟩ = some (.slice va b.length vc) := blk_cell hz; clear hz; go_simp; try with_reducible rfl)
  (try simp only [Act.put, List.setIfInBounds_toArray, List.set_cons_zero, List.set_cons_succ])
  refine PlanT.take0 (v := ?vR7_10) (by kernel_rfl) ?yR7_10 ?rR7_10
  case yR7_10 => (intro wz hz; have c1 : wz.cell? ⟨w.heap.size, 1, none⟩ = some (.string s) := blk_cell hz; have c4 : wz.cell? ⟨w.heap.size, 4, none⟩ = some (.slice va b.length vc) := blk_cell hz; clear hz; go_simp; try with_reducible rfl)
  (try simp only [Act.put, List.setIfInBounds_toArray, List.set_cons_zero, List.set_cons_succ])
  refine PlanT.take0 (v := ?vR7_11) (by kernel_rfl) ?yR7_11 ?rR7_11
  case yR7_11 => (intro wz hz; have c1 : wz.cell? ⟨w.heap.size, 1, none⟩ = some (.string s) := blk_cell hz; have c4 : wz.cell? ⟨w.heap.size, 4, none⟩ = some (.slice va b.length vc) := blk_cell hz; clear hz; go_simp; try with_reducible rfl)
  (try simp only [Act.put, List.setIfInBounds_toArray, List.set_cons_zero, List.set_cons_succ])
  refine PlanT.exec2 (fun K hK => ⟨by kernel_rfl, ?_⟩)
  go_simp
  refine (bc_up1 H1.out HS.out hk _ hsz _ _ HD.out hbl _ _ HE.out).mono ?_
  rintro e w2 ⟨rfl, h2⟩
  have H2 := Lib.hid h2
  clear h2
  refine hK.out _ _ H2.out.box H2.out.box ?_
  clear hK K
  (try simp only [Act.put, List.setIfInBounds_toArray, List.set_cons_zero, List.set_cons_succ])
  refine PlanT.exec2 (fun K hK => ⟨by kernel_rfl, ?_⟩)
  go_simp
  refine (num1_any _ _).mono ?_
  rintro e w3 ⟨rfl, rfl⟩
  refine hK.out _ _ H2.out.box H2.out.box ?_
  clear hK K
  (try simp only [Act.put, List.setIfInBounds_toArray, List.set_cons_zero, List.set_cons_succ])
  refine PlanT.exec2 (fun K hK => ⟨by kernel_rfl, ?_⟩)
  go_simp
  refine (bc_up2 H2.out HS.out hk _ hsz _ _ HD.out hbl _ _ HE.out).mono ?_
  rintro e w4 ⟨rfl, h4⟩
  have H4 := Lib.hid h4
  clear h4
  refine hK.out _ _ H4.out.box H4.out.box ?_
  clear hK K
  (try simp only [Act.put, List.setIfInBounds_toArray, List.set_cons_zero, List.set_cons_succ])
  refine PlanT.take0 (v := ?vR7_13) (by kernel_rfl) ?yR7_13 ?rR7_13
  case yR7_13 => (intro wz hz; have c1 : wz.cell? ⟨w.heap.size, 1, none⟩ = some (.string s) := blk_cell hz; have c4 : wz.cell? ⟨w.heap.size, 4, none⟩ = some (.slice va b.length vc) := blk_cell hz; clear hz; go_simp; try with_reducible rfl)
  (try simp only [Act.put, List.setIfInBounds_toArray, List.set_cons_zero, List.set_cons_succ])
  refine PlanT.take0 (v := ?vR7_14) (by kernel_rfl) ?yR7_14 ?rR7_14
  case yR7_14 => (intro wz hz; have c1 : wz.cell? ⟨w.heap.size, 1, none⟩ = some (.string s) := blk_cell hz; have c4 : wz.cell? ⟨w.heap.size, 4, none⟩ = some (.slice va b.length vc) := blk_cell hz; clear hz; go_simp; try with_reducible rfl)
  (try simp only [Act.put, List.setIfInBounds_toArray, List.set_cons_zero, List.set_cons_succ])
  refine PlanT.done (NoPanic.normal ?_)
  go_wp2
  go_ret
  exact ⟨rfl, H4.out.bo⟩

set_option maxRecDepth 100000 in
set_option maxHeartbeats 4000000 in
set_option linter.unusedSimpArgs false in
set_option linter.unusedVariables false in
theorem step_put {W w : World} {p q : Nat} {f : FR} {k : Nat} (h : Bo W w p q f f) (hs : RSm f k) (hk : k ≤ 1000) (s : ByteArray) (hsz : s.size ≤ maxLen) (a c : Int) (va : Option Addr) (vc : Nat) (b : List UInt8) (hv : RdB W (.slice va b.length vc) b) (hbl : b.length ≤ 300) (na : Option Addr) (nc : Nat) (nx : List Int) (hn : Rd W 1 (.slice na nx.length nc) nx.length (nx.map (Value.int .i64))) (hnl : nx.length ≤ 100) :
    Calls Tryz.prog 6 #[.pointer (some ⟨p, 0, none⟩), .pointer (some ⟨q, 0, none⟩), .agg #[.int .i64 7, .string s, .int .i64 a, .int .i64 c, .slice va b.length vc, .slice na nx.length nc]] w fun e w' => e = .returned (.bool true) ∧ Bo W w' p q (f.put s.data.toList b).2 (f.put s.data.toList b).2 := by
  have HS := Lib.hid hs
  have HD := Lib.hid hv
  have HNX := Lib.hid hn
  have HA := Lib.hid (h.alloc (.cells #[.int .i64 7, .string s, .int .i64 a, .int .i64 c, .slice va b.length vc, .slice na nx.length nc] 33 (0, 0)) (heap_alloc_new w _))
  clear hs hv hn
  obtain ⟨⟨r, f'⟩, he⟩ : ∃ y, f.put s.data.toList b = y := ⟨_, rfl⟩
  rw [he]
  have HE := Lib.hid he
  clear he
  obtain ⟨w1, hw1⟩ : ∃ w1, w1 = (w.alloc (.cells #[.int .i64 7, .string s, .int .i64 a, .int .i64 c, .slice va b.length vc, .slice na nx.length nc] 33 (0, 0))).drew := ⟨_, rfl⟩
  have H1 := Lib.hid (show BoN W w1 p q f f w.heap.size (.cells #[.int .i64 7, .string s, .int .i64 a, .int .i64 c, .slice va b.length vc, .slice na nx.length nc] 33 (0, 0)) by subst hw1; exact HA.out.drew)
  have Hw1 := Lib.hid hw1
  clear hw1
  clear HA h
  go_enter Tryz.func6, Tryz.ntmps6
  go_wp2
  refine wp_region_two (fun wz => wz.heap[w.heap.size]? = some (.cells #[.int .i64 7, .string s, .int .i64 a, .int .i64 c, .slice va b.length vc, .slice na nx.length nc] 33 (0, 0))) (fun wz => wz.heap[w.heap.size]? = some (.cells #[.int .i64 7, .string s, .int .i64 a, .int .i64 c, .slice va b.length vc, .slice na nx.length nc] 33 (0, 0))) [(0, 0), (0, 1), (0, 2), (0, 3), (0, 4), (0, 7), (0, 8), (0, 9), (0, 10), (0, 11), (2, 5), (2, 6), (2, 12), (0, 13), (0, 14)] [] (by kernel_rfl) (by kernel_rfl) (by kernel_rfl) (by kernel_rfl) (by kernel_rfl) (by rw [← Hw1.out]; exact H1.out.box) (by rw [← Hw1.out]; exact H1.out.box) ?_
  simp only [planT, List.drop_succ_cons, List.drop_zero]
  rw [← Hw1.out]
  refine PlanT.take0 (v := ?vR23_0) (by kernel_rfl) ?yR23_0 ?rR23_0
  case yR23_0 => (intro wz hz; have c1 : wz.cell? ⟨w.heap.size, 1, none⟩ = some (.string s) := blk_cell hz; have c4 : wz.cell? ⟨w.heap.size, 4, none⟩ = some (.slice va b.length vc) := blk_cell hz; clear hz; go_simp; try with_reducible rfl)
  (try simp only [Act.put, List.setIfInBounds_toArray, List.set_cons_zero, List.set_cons_succ])
  refine PlanT.take0 (v := ?vR23_1) (by kernel_rfl) ?yR23_1 ?rR23_1
  case yR23_1 => (intro wz hz; have c1 : wz.cell? ⟨w.heap.size, 1, none⟩ = some (.string s) := blk_cell hz; have c4 : wz.cell? ⟨w.heap.size, 4, none⟩ = some (.slice va b.length vc) := blk_cell hz; clear hz; go_simp; try with_reducible rfl)
  (try simp only [Act.put, List.setIfInBounds_toArray, List.set_cons_zero, List.set_cons_succ])
  refine PlanT.take0 (v := ?vR23_2) (by kernel_rfl) ?yR23_2 ?rR23_2
  case yR23_2 => (intro wz hz; have c1 : wz.cell? ⟨w.heap.size, 1, none⟩ = some (.string s) := blk_cell hz; have c4 : wz.cell? ⟨w.heap.size, 4, none⟩ = some (.slice va b.length vc) := blk_cell hz; clear hz; go_simp; try with_reducible rfl)
  (try simp only [Act.put, List.setIfInBounds_toArray, List.set_cons_zero, List.set_cons_succ])
  refine PlanT.take0 (v := ?vR23_3) (by kernel_rfl) ?yR23_3 ?rR23_3
  case yR23_3 => (intro wz hz; have c1 : wz.cell? ⟨w.heap.size, 1, none⟩ = some (.string s) := blk_cell hz; have c4 : wz.cell? ⟨w.heap.size, 4, none⟩ = some (.slice va b.length vc) := blk_cell hz; clear hz; go_simp; try with_reducible rfl)
  (try simp only [Act.put, List.setIfInBounds_toArray, List.set_cons_zero, List.set_cons_succ])
  refine PlanT.take0 (v := ?vR23_4) (by kernel_rfl) ?yR23_4 ?rR23_4
  case yR23_4 => (intro wz hz; have c1 : wz.cell? ⟨w.heap.size, 1, none⟩ = some (.string s) := blk_cell hz; have c4 : wz.cell? ⟨w.heap.size, 4, none⟩ = some (.slice va b.length vc) := blk_cell hz; clear hz; go_simp; try with_reducible rfl)
  (try simp only [Act.put, List.setIfInBounds_toArray, List.set_cons_zero, List.set_cons_succ])
  refine PlanT.take0 (v := ?vR23_7) (by kernel_rfl) ?yR23_7 ?rR23_7
  case yR23_7 => (intro wz hz; have c1 : wz.cell? ⟨w.heap.size, 1, none⟩ = some (.string s) := blk_cell hz; have c4 : wz.cell? ⟨w.heap.size, 4, none⟩ = some (.slice va b.length vc) := blk_cell hz; clear hz; go_simp; try with_reducible rfl)
  (try simp only [Act.put, List.setIfInBounds_toArray, List.set_cons_zero, List.set_cons_succ])
  refine PlanT.take0 (v := ?vR23_8) (by kernel_rfl) ?yR23_8 ?rR23_8
  case yR23_8 => (intro wz hz; have c1 : wz.cell? ⟨w.heap.size, 1, none⟩ = some (.string s) := blk_cell hz; have c4 : wz.cell? ⟨w.heap.size, 4, none⟩ = some (.slice va b.length vc) := blk_cell hz; clear hz; go_simp; try with_reducible rfl)
  (try simp only [Act.put, List.setIfInBounds_toArray, List.set_cons_zero, List.set_cons_succ])
  refine PlanT.take0 (v := ?vR23_9) (by kernel_rfl) ?yR23_9 ?rR23_9
  case yR23_9 => (intro wz hz; have c1 : wz.cell? ⟨w.heap.size, 1, none⟩ = some (.string s) := blk_cell hz; have c4 : wz.cell? ⟨w.heap.size, 4, none⟩ = some (.slice va b.length vc) := blk_cell hz; clear hz; go_simp; try with_reducible rfl)
  (try simp only [Act.put, List.setIfInBounds_toArray, List.set_cons_zero, List.set_cons_succ])
  refine PlanT.take0 (v := ?vR23_10) (by kernel_rfl) ?yR23_10 ?rR23_10
  case yR23_10 => (intro wz hz; have c1 : wz.cell? ⟨w.heap.size, 1, none⟩ = some (.string s) := blk_cell hz; have c4 : wz.cell? ⟨w.heap.size, 4, none⟩ = some (.slice va b.length vc) := blk_cell hz; clear hz; go_simp; try with_reducible rfl)
  (try simp only [Act.put, List.setIfInBounds_toArray, List.set_cons_zero, List.set_cons_succ])
  refine PlanT.take0 (v := ?vR23_11) (by kernel_rfl) ?yR23_11 ?rR23_11
  case yR23_11 => (intro wz hz; have c1 : wz.cell? ⟨w.heap.size, 1, none⟩ = some (.string s) := blk_cell hz; have c4 : wz.cell? ⟨w.heap.size, 4, none⟩ = some (.slice va b.length vc) := blk_cell hz; clear hz; go_simp; try with_reducible rfl)
  (try simp only [Act.put, List.setIfInBounds_toArray, List.set_cons_zero, List.set_cons_succ])
  refine PlanT.exec2 (fun K hK => ⟨by kernel_rfl, ?_⟩)
  go_simp
  refine (bn_put1 H1.out HS.out hk _ hsz _ _ HD.out hbl _ _ HE.out).mono ?_
  rintro e w2 ⟨rfl, h2⟩
  have H2 := Lib.hid h2
  clear h2
  refine hK.out _ _ H2.out.box H2.out.box ?_
  clear hK K
  (try simp only [Act.put, List.setIfInBounds_toArray, List.set_cons_zero, List.set_cons_succ])
  refine PlanT.exec2 (fun K hK => ⟨by kernel_rfl, ?_⟩)
  go_simp
  refine (num1_any _ _).mono ?_
  rintro e w3 ⟨rfl, rfl⟩
  refine hK.out _ _ H2.out.box H2.out.box ?_
  clear hK K
  (try simp only [Act.put, List.setIfInBounds_toArray, List.set_cons_zero, List.set_cons_succ])
  refine PlanT.exec2 (fun K hK => ⟨by kernel_rfl, ?_⟩)
  go_simp
  refine (bn_put2 H2.out HS.out hk _ hsz _ _ HD.out hbl _ _ HE.out).mono ?_
  rintro e w4 ⟨rfl, h4⟩
  have H4 := Lib.hid h4
  clear h4
  refine hK.out _ _ H4.out.box H4.out.box ?_
  clear hK K
  (try simp only [Act.put, List.setIfInBounds_toArray, List.set_cons_zero, List.set_cons_succ])
  refine PlanT.take0 (v := ?vR23_13) (by kernel_rfl) ?yR23_13 ?rR23_13
  case yR23_13 => (intro wz hz; have c1 : wz.cell? ⟨w.heap.size, 1, none⟩ = some (.string s) := blk_cell hz; have c4 : wz.cell? ⟨w.heap.size, 4, none⟩ = some (.slice va b.length vc) := blk_cell hz; clear hz; go_simp; try with_reducible rfl)
  (try simp only [Act.put, List.setIfInBounds_toArray, List.set_cons_zero, List.set_cons_succ])
  refine PlanT.take0 (v := ?vR23_14) (by kernel_rfl) ?yR23_14 ?rR23_14
  case yR23_14 => (intro wz hz; have c1 : wz.cell? ⟨w.heap.size, 1, none⟩ = some (.string s) := blk_cell hz; have c4 : wz.cell? ⟨w.heap.size, 4, none⟩ = some (.slice va b.length vc) := blk_cell hz; clear hz; go_simp; try with_reducible rfl)
  (try simp only [Act.put, List.setIfInBounds_toArray, List.set_cons_zero, List.set_cons_succ])
  refine PlanT.done (NoPanic.normal ?_)
  go_wp2
  go_ret
  exact ⟨rfl, H4.out.bo⟩

set_option maxRecDepth 100000 in
set_option maxHeartbeats 4000000 in
set_option linter.unusedSimpArgs false in
set_option linter.unusedVariables false in
theorem step_drop {W w : World} {p q : Nat} {f : FR} {k : Nat} (h : Bo W w p q f f) (hs : RSm f k) (hk : k ≤ 1000) (s : ByteArray) (hsz : s.size ≤ maxLen) (a c : Int) (va : Option Addr) (vc : Nat) (b : List UInt8) (hv : RdB W (.slice va b.length vc) b) (hbl : b.length ≤ 300) (na : Option Addr) (nc : Nat) (nx : List Int) (hn : Rd W 1 (.slice na nx.length nc) nx.length (nx.map (Value.int .i64))) (hnl : nx.length ≤ 100) :
    Calls Tryz.prog 6 #[.pointer (some ⟨p, 0, none⟩), .pointer (some ⟨q, 0, none⟩), .agg #[.int .i64 6, .string s, .int .i64 a, .int .i64 c, .slice va b.length vc, .slice na nx.length nc]] w fun e w' => e = .returned (.bool true) ∧ Bo W w' p q (f.cdrop s.data.toList).2 (f.cdrop s.data.toList).2 := by
  have HS := Lib.hid hs
  have HD := Lib.hid hv
  have HNX := Lib.hid hn
  have HA := Lib.hid (h.alloc (.cells #[.int .i64 6, .string s, .int .i64 a, .int .i64 c, .slice va b.length vc, .slice na nx.length nc] 33 (0, 0)) (heap_alloc_new w _))
  clear hs hv hn
  obtain ⟨⟨r, f'⟩, he⟩ : ∃ y, f.cdrop s.data.toList = y := ⟨_, rfl⟩
  rw [he]
  have HE := Lib.hid he
  have HSR := Lib.hid HA.out.srt
  clear he
  obtain ⟨w1, hw1⟩ : ∃ w1, w1 = (w.alloc (.cells #[.int .i64 6, .string s, .int .i64 a, .int .i64 c, .slice va b.length vc, .slice na nx.length nc] 33 (0, 0))).drew := ⟨_, rfl⟩
  have H1 := Lib.hid (show BoN W w1 p q f f w.heap.size (.cells #[.int .i64 6, .string s, .int .i64 a, .int .i64 c, .slice va b.length vc, .slice na nx.length nc] 33 (0, 0)) by subst hw1; exact HA.out.drew)
  have Hw1 := Lib.hid hw1
  clear hw1
  clear HA h
  go_enter Tryz.func6, Tryz.ntmps6
  go_wp2
  refine wp_region_two (fun wz => wz.heap[w.heap.size]? = some (.cells #[.int .i64 6, .string s, .int .i64 a, .int .i64 c, .slice va b.length vc, .slice na nx.length nc] 33 (0, 0))) (fun wz => wz.heap[w.heap.size]? = some (.cells #[.int .i64 6, .string s, .int .i64 a, .int .i64 c, .slice va b.length vc, .slice na nx.length nc] 33 (0, 0))) [(0, 0), (0, 1), (0, 2), (0, 5), (0, 6), (0, 7), (2, 3), (2, 4), (2, 8), (0, 9), (0, 10)] [] (by kernel_rfl) (by kernel_rfl) (by kernel_rfl) (by kernel_rfl) (by kernel_rfl) (by rw [← Hw1.out]; exact H1.out.box) (by rw [← Hw1.out]; exact H1.out.box) ?_
  simp only [planT, List.drop_succ_cons, List.drop_zero]
  rw [← Hw1.out]
  refine PlanT.take0 (v := ?vR21_0) (by kernel_rfl) ?yR21_0 ?rR21_0
  case yR21_0 => (intro wz hz; have c1 : wz.cell? ⟨w.heap.size, 1, none⟩ = some (.string s) := blk_cell hz; have c4 : wz.cell? ⟨w.heap.size, 4, none⟩ = some (.slice va b.length vc) := blk_cell hz; clear hz; go_simp; try with_reducible rfl)
  (try simp only [Act.put, List.setIfInBounds_toArray, List.set_cons_zero, List.set_cons_succ])
  refine PlanT.take0 (v := ?vR21_1) (by kernel_rfl) ?yR21_1 ?rR21_1
  case yR21_1 => (intro wz hz; have c1 : wz.cell? ⟨w.heap.size, 1, none⟩ = some (.string s) := blk_cell hz; have c4 : wz.cell? ⟨w.heap.size, 4, none⟩ = some (.slice va b.length vc) := blk_cell hz; clear hz; go_simp; try with_reducible rfl)
  (try simp only [Act.put, List.setIfInBounds_toArray, List.set_cons_zero, List.set_cons_succ])
  refine PlanT.take0 (v := ?vR21_2) (by kernel_rfl) ?yR21_2 ?rR21_2
  case yR21_2 => (intro wz hz; have c1 : wz.cell? ⟨w.heap.size, 1, none⟩ = some (.string s) := blk_cell hz; have c4 : wz.cell? ⟨w.heap.size, 4, none⟩ = some (.slice va b.length vc) := blk_cell hz; clear hz; go_simp; try with_reducible rfl)
  (try simp only [Act.put, List.setIfInBounds_toArray, List.set_cons_zero, List.set_cons_succ])
  refine PlanT.take0 (v := ?vR21_5) (by kernel_rfl) ?yR21_5 ?rR21_5
  case yR21_5 => (intro wz hz; have c1 : wz.cell? ⟨w.heap.size, 1, none⟩ = some (.string s) := blk_cell hz; have c4 : wz.cell? ⟨w.heap.size, 4, none⟩ = some (.slice va b.length vc) := blk_cell hz; clear hz; go_simp; try with_reducible rfl)
  (try simp only [Act.put, List.setIfInBounds_toArray, List.set_cons_zero, List.set_cons_succ])
  refine PlanT.take0 (v := ?vR21_6) (by kernel_rfl) ?yR21_6 ?rR21_6
  case yR21_6 => (intro wz hz; have c1 : wz.cell? ⟨w.heap.size, 1, none⟩ = some (.string s) := blk_cell hz; have c4 : wz.cell? ⟨w.heap.size, 4, none⟩ = some (.slice va b.length vc) := blk_cell hz; clear hz; go_simp; try with_reducible rfl)
  (try simp only [Act.put, List.setIfInBounds_toArray, List.set_cons_zero, List.set_cons_succ])
  refine PlanT.take0 (v := ?vR21_7) (by kernel_rfl) ?yR21_7 ?rR21_7
  case yR21_7 => (intro wz hz; have c1 : wz.cell? ⟨w.heap.size, 1, none⟩ = some (.string s) := blk_cell hz; have c4 : wz.cell? ⟨w.heap.size, 4, none⟩ = some (.slice va b.length vc) := blk_cell hz; clear hz; go_simp; try with_reducible rfl)
  (try simp only [Act.put, List.setIfInBounds_toArray, List.set_cons_zero, List.set_cons_succ])
  refine PlanT.exec2 (fun K hK => ⟨by kernel_rfl, ?_⟩)
  go_simp
  refine (bc_drop1 H1.out HS.out hk _ hsz _ _ HE.out).mono ?_
  rintro e w2 ⟨rfl, h2⟩
  have H2 := Lib.hid h2
  clear h2
  refine hK.out _ _ H2.out.box H2.out.box ?_
  clear hK K
  (try simp only [Act.put, List.setIfInBounds_toArray, List.set_cons_zero, List.set_cons_succ])
  refine PlanT.exec2 (fun K hK => ⟨by kernel_rfl, ?_⟩)
  go_simp
  refine (num1_any _ _).mono ?_
  rintro e w3 ⟨rfl, rfl⟩
  refine hK.out _ _ H2.out.box H2.out.box ?_
  clear hK K
  (try simp only [Act.put, List.setIfInBounds_toArray, List.set_cons_zero, List.set_cons_succ])
  refine PlanT.exec2 (fun K hK => ⟨by kernel_rfl, ?_⟩)
  go_simp
  refine (bc_drop2 H2.out HS.out hk HSR.out _ _ _ HE.out).mono ?_
  rintro e w4 ⟨rfl, h4⟩
  have H4 := Lib.hid h4
  clear h4
  refine hK.out _ _ H4.out.box H4.out.box ?_
  clear hK K
  (try simp only [Act.put, List.setIfInBounds_toArray, List.set_cons_zero, List.set_cons_succ])
  refine PlanT.take0 (v := ?vR21_9) (by kernel_rfl) ?yR21_9 ?rR21_9
  case yR21_9 => (intro wz hz; have c1 : wz.cell? ⟨w.heap.size, 1, none⟩ = some (.string s) := blk_cell hz; have c4 : wz.cell? ⟨w.heap.size, 4, none⟩ = some (.slice va b.length vc) := blk_cell hz; clear hz; go_simp; try with_reducible rfl)
  (try simp only [Act.put, List.setIfInBounds_toArray, List.set_cons_zero, List.set_cons_succ])
  refine PlanT.take0 (v := ?vR21_10) (by kernel_rfl) ?yR21_10 ?rR21_10
  case yR21_10 => (intro wz hz; have c1 : wz.cell? ⟨w.heap.size, 1, none⟩ = some (.string s) := blk_cell hz; have c4 : wz.cell? ⟨w.heap.size, 4, none⟩ = some (.slice va b.length vc) := blk_cell hz; clear hz; go_simp; try with_reducible rfl)
  (try simp only [Act.put, List.setIfInBounds_toArray, List.set_cons_zero, List.set_cons_succ])
  refine PlanT.done (NoPanic.normal ?_)
  go_wp2
  go_ret
  exact ⟨rfl, H4.out.bo⟩

set_option maxRecDepth 100000 in
set_option maxHeartbeats 4000000 in
set_option linter.unusedSimpArgs false in
set_option linter.unusedVariables false in
theorem step_next {W w : World} {p q : Nat} {f : FR} {k : Nat} (h : Bo W w p q f f) (hs : RSm f k) (hk : k ≤ 1000) (s : ByteArray) (hsz : s.size ≤ maxLen) (a c : Int) (va : Option Addr) (vc : Nat) (b : List UInt8) (hv : RdB W (.slice va b.length vc) b) (hbl : b.length ≤ 300) (na : Option Addr) (nc : Nat) (nx : List Int) (hn : Rd W 1 (.slice na nx.length nc) nx.length (nx.map (Value.int .i64))) (hnl : nx.length ≤ 100) :
    Calls Tryz.prog 6 #[.pointer (some ⟨p, 0, none⟩), .pointer (some ⟨q, 0, none⟩), .agg #[.int .i64 0, .string s, .int .i64 a, .int .i64 c, .slice va b.length vc, .slice na nx.length nc]] w fun e w' => e = .returned (.bool true) ∧ Bo W w' p q (f.next nx) (f.next nx) := by
  have HS := Lib.hid hs
  have HD := Lib.hid hv
  have HNX := Lib.hid hn
  have HA := Lib.hid (h.alloc (.cells #[.int .i64 0, .string s, .int .i64 a, .int .i64 c, .slice va b.length vc, .slice na nx.length nc] 33 (0, 0)) (heap_alloc_new w _))
  clear hs hv hn
  clear h
  go_enter Tryz.func6, Tryz.ntmps6
  go_wp2_with (first | (go_at_call 14; refine (bn_next1 HA.out _ nx HNX.out hnl).mono ?_; rintro e w1 ⟨rfl, h1⟩; have c5 : w1.cell? ⟨w.heap.size, 5, none⟩ = some (.slice na nx.length nc) := blk_cell h1.box; have H1 := Lib.hid h1; clear h1) | (go_at_call 17; refine (bn_next2 H1.out _ nx HNX.out hnl).mono ?_; rintro e w2 ⟨rfl, h2⟩; have H2 := Lib.hid h2; clear h2))
  go_ret
  exact ⟨rfl, H2.out.bo⟩

set_option maxRecDepth 100000 in
set_option maxHeartbeats 4000000 in
set_option linter.unusedSimpArgs false in
set_option linter.unusedVariables false in
theorem step_down {W w : World} {p q : Nat} {f : FR} {k : Nat} (h : Bo W w p q f f) (hs : RSm f k) (hk : k ≤ 1000) (s : ByteArray) (hsz : s.size ≤ maxLen) (a c : Int) (va : Option Addr) (vc : Nat) (b : List UInt8) (hv : RdB W (.slice va b.length vc) b) (hbl : b.length ≤ 300) (na : Option Addr) (nc : Nat) (nx : List Int) (hn : Rd W 1 (.slice na nx.length nc) nx.length (nx.map (Value.int .i64))) (hnl : nx.length ≤ 100) :
    Calls Tryz.prog 6 #[.pointer (some ⟨p, 0, none⟩), .pointer (some ⟨q, 0, none⟩), .agg #[.int .i64 3, .string s, .int .i64 a, .int .i64 c, .slice va b.length vc, .slice na nx.length nc]] w fun e w' => e = .returned (.bool true) ∧ Bo W w' p q (f.gets s.data.toList 0 1048576).2 (f.gets s.data.toList 0 1048576).2 := by
  have HS := Lib.hid hs
  have HD := Lib.hid hv
  have HNX := Lib.hid hn
  have HA := Lib.hid (h.alloc (.cells #[.int .i64 3, .string s, .int .i64 a, .int .i64 c, .slice va b.length vc, .slice na nx.length nc] 33 (0, 0)) (heap_alloc_new w _))
  clear hs hv hn
  obtain ⟨⟨⟨l, r⟩, f'⟩, he⟩ : ∃ y, f.gets s.data.toList 0 1048576 = y := ⟨_, rfl⟩
  rw [he]
  have HE := Lib.hid he
  have hse : (strB l).toList == (strB l).toList := by simp
  clear he h
  go_enter Tryz.func6, Tryz.ntmps6
  go_wp2_with (first | (go_at_call 19; refine (bc_down1 HA.out HS.out hk _ hsz _ _ _ HE.out).mono ?_; rintro e w1 ⟨v1, n1, rfl, h1⟩; have hbx := h1.bn.box; have c1 : w1.cell? ⟨w.heap.size, 1, none⟩ = some (.string s) := blk_cell hbx; clear hbx; have H1 := Lib.hid h1; clear h1) | (go_at_call 20; refine (bc_down2 H1.out HS.out hk _ _ _ _ HE.out).mono ?_; rintro e w2 ⟨v2, n2, rfl, h2, rd1, rd2⟩; have hcv1 := rdB_convert (P := Tryz.prog) rd1 31 5 9 Tryz.underlying31 Tryz.underlying5 Tryz.underlying9; have hcv2 := rdB_convert (P := Tryz.prog) rd2 31 5 9 Tryz.underlying31 Tryz.underlying5 Tryz.underlying9; have H2 := Lib.hid h2; clear h2 rd1 rd2) | (go_at_call 15; refine (num1_any _ _).mono ?_; rintro e w5 ⟨rfl, rfl⟩))
  go_ret
  exact ⟨rfl, H2.out.bo⟩

set_option maxRecDepth 100000 in
set_option maxHeartbeats 4000000 in
set_option linter.unusedSimpArgs false in
set_option linter.unusedVariables false in
theorem step_piece {W w : World} {p q : Nat} {f : FR} {k : Nat} (h : Bo W w p q f f) (hs : RSm f k) (hk : k ≤ 1000) (s : ByteArray) (hsz : s.size ≤ maxLen) (a c : Int) (va : Option Addr) (vc : Nat) (b : List UInt8) (hv : RdB W (.slice va b.length vc) b) (hbl : b.length ≤ 300) (na : Option Addr) (nc : Nat) (nx : List Int) (hn : Rd W 1 (.slice na nx.length nc) nx.length (nx.map (Value.int .i64))) (hnl : nx.length ≤ 100) :
    Calls Tryz.prog 6 #[.pointer (some ⟨p, 0, none⟩), .pointer (some ⟨q, 0, none⟩), .agg #[.int .i64 4, .string s, .int .i64 a, .int .i64 c, .slice va b.length vc, .slice na nx.length nc]] w fun e w' => e = .returned (.bool true) ∧ Bo W w' p q (f.gets s.data.toList a c).2 (f.gets s.data.toList a c).2 := by
  have HS := Lib.hid hs
  have HD := Lib.hid hv
  have HNX := Lib.hid hn
  have HA := Lib.hid (h.alloc (.cells #[.int .i64 4, .string s, .int .i64 a, .int .i64 c, .slice va b.length vc, .slice na nx.length nc] 33 (0, 0)) (heap_alloc_new w _))
  clear hs hv hn
  obtain ⟨⟨⟨l, r⟩, f'⟩, he⟩ : ∃ y, f.gets s.data.toList a c = y := ⟨_, rfl⟩
  rw [he]
  have HE := Lib.hid he
  have hse : (strB l).toList == (strB l).toList := by simp
  clear he h
  go_enter Tryz.func6, Tryz.ntmps6
  go_wp2_with (first | (go_at_call 21; refine (bc_piece1 HA.out HS.out hk _ hsz _ _ _ _ _ HE.out).mono ?_; rintro e w1 ⟨v1, n1, rfl, h1⟩; have hbx := h1.bn.box; have c1 : w1.cell? ⟨w.heap.size, 1, none⟩ = some (.string s) := blk_cell hbx; have c2 : w1.cell? ⟨w.heap.size, 2, none⟩ = some (.int .i64 a) := blk_cell hbx; have c3 : w1.cell? ⟨w.heap.size, 3, none⟩ = some (.int .i64 c) := blk_cell hbx; clear hbx; have H1 := Lib.hid h1; clear h1) | (go_at_call 22; refine (bc_piece2 H1.out HS.out hk _ _ _ _ _ _ HE.out).mono ?_; rintro e w2 ⟨v2, n2, rfl, h2, rd1, rd2⟩; have hcv1 := rdB_convert (P := Tryz.prog) rd1 31 5 9 Tryz.underlying31 Tryz.underlying5 Tryz.underlying9; have hcv2 := rdB_convert (P := Tryz.prog) rd2 31 5 9 Tryz.underlying31 Tryz.underlying5 Tryz.underlying9; have H2 := Lib.hid h2; clear h2 rd1 rd2) | (go_at_call 15; refine (num1_any _ _).mono ?_; rintro e w5 ⟨rfl, rfl⟩))
  go_ret
  exact ⟨rfl, H2.out.bo⟩

set_option maxRecDepth 100000 in
set_option maxHeartbeats 4000000 in
set_option linter.unusedSimpArgs false in
set_option linter.unusedVariables false in
theorem step_names {W w : World} {p q : Nat} {f : FR} {k : Nat} (h : Bo W w p q f f) (hs : RSm f k) (hk : k ≤ 1000) (s : ByteArray) (hsz : s.size ≤ maxLen) (a c : Int) (va : Option Addr) (vc : Nat) (b : List UInt8) (hv : RdB W (.slice va b.length vc) b) (hbl : b.length ≤ 300) (na : Option Addr) (nc : Nat) (nx : List Int) (hn : Rd W 1 (.slice na nx.length nc) nx.length (nx.map (Value.int .i64))) (hnl : nx.length ≤ 100) :
    Calls Tryz.prog 6 #[.pointer (some ⟨p, 0, none⟩), .pointer (some ⟨q, 0, none⟩), .agg #[.int .i64 5, .string s, .int .i64 a, .int .i64 c, .slice va b.length vc, .slice na nx.length nc]] w fun e w' => e = .returned (.bool true) ∧ Bo W w' p q f.lists.2 f.lists.2 := by
  have HS := Lib.hid hs
  have HD := Lib.hid hv
  have HNX := Lib.hid hn
  have HA := Lib.hid (h.alloc (.cells #[.int .i64 5, .string s, .int .i64 a, .int .i64 c, .slice va b.length vc, .slice na nx.length nc] 33 (0, 0)) (heap_alloc_new w _))
  clear hs hv hn
  obtain ⟨⟨⟨l, r⟩, f'⟩, he⟩ : ∃ y, f.lists = y := ⟨_, rfl⟩
  rw [he]
  have hll : l.length < 1000000 := by have := lists_len HS.out he; omega
  have HE := Lib.hid he
  clear he h
  go_enter Tryz.func6, Tryz.ntmps6
  go_wp2_with (first | (go_at_call 23; refine (bc_names1 HA.out HS.out hk _ _ _ HE.out).mono ?_; rintro e w1 ⟨v1, n1, rfl, h1⟩; have H1 := Lib.hid h1; clear h1) | (go_at_call 24; refine (bc_names2 H1.out HS.out hk _ _ _ HE.out).mono ?_; rintro e w2 ⟨v2, n2, rfl, h2, rd1, rd2⟩; have RD1 := Lib.hid rd1; have RD2 := Lib.hid rd2; have H2 := Lib.hid h2; clear h2 rd1 rd2) | (go_at_call 25; refine (texts_any _ _ _ l hll RD1.out RD2.out).mono ?_; rintro e w3 ⟨rfl, B3⟩) | (go_at_call 15; refine (num1_any _ _).mono ?_; rintro e w5 ⟨rfl, rfl⟩))
  go_ret
  exact ⟨rfl, H2.out.bo.below B3⟩

set_option maxRecDepth 100000 in
set_option maxHeartbeats 4000000 in
set_option linter.unusedSimpArgs false in
set_option linter.unusedVariables false in
theorem step_else {W w : World} {p q : Nat} {f : FR} {k : Nat} (h : Bo W w p q f f) (hs : RSm f k) (hk : k ≤ 1000) (d : Int) (h0 : d ≠ 0) (h1 : d ≠ 1) (h2 : d ≠ 2) (h3 : d ≠ 3) (h4 : d ≠ 4) (h5 : d ≠ 5) (h6 : d ≠ 6) (h7 : d ≠ 7) (s : ByteArray) (hsz : s.size ≤ maxLen) (a c : Int) (va : Option Addr) (vc : Nat) (b : List UInt8) (hv : RdB W (.slice va b.length vc) b) (hbl : b.length ≤ 300) (na : Option Addr) (nc : Nat) (nx : List Int) (hn : Rd W 1 (.slice na nx.length nc) nx.length (nx.map (Value.int .i64))) (hnl : nx.length ≤ 100) :
    Calls Tryz.prog 6 #[.pointer (some ⟨p, 0, none⟩), .pointer (some ⟨q, 0, none⟩), .agg #[.int .i64 d, .string s, .int .i64 a, .int .i64 c, .slice va b.length vc, .slice na nx.length nc]] w fun e w' => e = .returned (.bool true) ∧ Bo W w' p q f f := by
  have HS := Lib.hid hs
  have HD := Lib.hid hv
  have HNX := Lib.hid hn
  have HA := Lib.hid (h.alloc (.cells #[.int .i64 d, .string s, .int .i64 a, .int .i64 c, .slice va b.length vc, .slice na nx.length nc] 33 (0, 0)) (heap_alloc_new w _))
  clear hs hv hn
  have HH := Lib.hid h
  have e0 : (d == 0) = false := by simpa using h0
  have e1 : (d == 1) = false := by simpa using h1
  have e2 : (d == 2) = false := by simpa using h2
  have e3 : (d == 3) = false := by simpa using h3
  have e4 : (d == 4) = false := by simpa using h4
  have e5 : (d == 5) = false := by simpa using h5
  have e6 : (d == 6) = false := by simpa using h6
  have e7 : (d == 7) = false := by simpa using h7
  clear h h0 h1 h2 h3 h4 h5 h6 h7
  go_enter Tryz.func6, Tryz.ntmps6
  go_wp2
  go_ret
  exact ⟨rfl, HA.out.bo⟩
end Go.Proofs.YtljjgpjaleekdaaGreatDoor
