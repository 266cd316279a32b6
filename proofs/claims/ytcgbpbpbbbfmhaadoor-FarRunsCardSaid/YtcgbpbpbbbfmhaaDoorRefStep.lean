/-
  One act on both far stores.
-/
import Derived.Test.YtcgbpbpbbbfmhaaDoorRefOn
import Derived.Test.YtcgbpbpbbbfmhaaDoorTwo
namespace Go.Proofs.YtcgbpbpbbbfmhaaDoor
open Go.RowKit

theorem BoN.drew {W w : World} {p q : Nat} {f g : FR} {n : Nat} {o : Obj} (h : BoN W w p q f g n o) : BoN W w.drew p q f g n o := by
  obtain ⟨G, H, hc, hb, hg, hh⟩ := h
  exact ⟨G, H, hc.below ((Kept.refl (fun k => k < w.heap.size) w).drew.below fun _ h => h), hb, hg, hh⟩

theorem list_len {f : FR} {l : List (List UInt8)} {r : Nat} (h : f.objs.length < 1000000) (he : f.list = (l, r)) : l.length < 1000000 := by
  have e : l = f.list.1 := by rw [he]
  rw [e]
  unfold FR.list
  dsimp only
  split
  · rw [List.length_map]; exact h
  · simp

set_option maxRecDepth 100000 in
set_option maxHeartbeats 4000000 in
set_option linter.unusedSimpArgs false in
set_option linter.unusedVariables false in
theorem step_put1 {W w : World} {p q : Nat} {f : FR} {k : Nat} (h : Bo W w p q f f) (hs : RSm f k) (hk : k ≤ 1000) (s : ByteArray) (hsz : s.size ≤ maxLen) (a c : Int) (va : Option Addr) (vc : Nat) (b : List UInt8) (hv : RdB W (.slice va b.length vc) b) (hbl : b.length ≤ 300) (na : Option Addr) (nc : Nat) (nx : List Int) (hn : Rd W 1 (.slice na nx.length nc) nx.length (nx.map (Value.int .i64))) (hnl : nx.length ≤ 100) :
    Calls Tryd.prog 10 #[.pointer (some ⟨p, 0, none⟩), .pointer (some ⟨q, 0, none⟩), .agg #[.int .i64 1, .string s, .int .i64 a, .int .i64 c, .slice va b.length vc, .slice na nx.length nc]] w fun e w' => e = .returned (.bool true) ∧ Bo W w' p q (f.put s.data.toList b).2 (f.put s.data.toList b).2 := by
  have HS := Lib.hid hs
  have HD := Lib.hid hv
  have HNX := Lib.hid hn
  have HA := Lib.hid (h.alloc (.cells #[.int .i64 1, .string s, .int .i64 a, .int .i64 c, .slice va b.length vc, .slice na nx.length nc] 33 (0, 0)) (heap_alloc_new w _))
  clear hs hv hn
  obtain ⟨⟨r, f'⟩, he⟩ : ∃ y, f.put s.data.toList b = y := ⟨_, rfl⟩
  rw [he]
  have HE := Lib.hid he
  clear he
  obtain ⟨w1, hw1⟩ : ∃ w1, w1 = (w.alloc (.cells #[.int .i64 1, .string s, .int .i64 a, .int .i64 c, .slice va b.length vc, .slice na nx.length nc] 33 (0, 0))).drew := ⟨_, rfl⟩
  have H1 := Lib.hid (show BoN W w1 p q f f w.heap.size (.cells #[.int .i64 1, .string s, .int .i64 a, .int .i64 c, .slice va b.length vc, .slice na nx.length nc] 33 (0, 0)) by subst hw1; exact HA.out.drew)
  have Hw1 := Lib.hid hw1
  clear hw1
  clear HA h
  go_enter Tryd.func10, Tryd.ntmps10
  go_wp2
  refine wp_region_two (fun wz => wz.heap[w.heap.size]? = some (.cells #[.int .i64 1, .string s, .int .i64 a, .int .i64 c, .slice va b.length vc, .slice na nx.length nc] 33 (0, 0))) (fun wz => wz.heap[w.heap.size]? = some (.cells #[.int .i64 1, .string s, .int .i64 a, .int .i64 c, .slice va b.length vc, .slice na nx.length nc] 33 (0, 0))) [(0, 0), (0, 1), (0, 2), (0, 3), (0, 4), (0, 7), (0, 8), (0, 9), (0, 10), (0, 11), (2, 5), (2, 6), (2, 12), (0, 13), (0, 14)] [] (by kernel_rfl) (by kernel_rfl) (by kernel_rfl) (by kernel_rfl) (by kernel_rfl) (by rw [← Hw1.out]; exact H1.out.box) (by rw [← Hw1.out]; exact H1.out.box) ?_
  simp only [planT, List.drop_succ_cons, List.drop_zero]
  rw [← Hw1.out]
  refine PlanT.take0 (v := ?v0) (by kernel_rfl) ?y0 ?r0
  case y0 => (intro wz hz; have c1 : wz.cell? ⟨w.heap.size, 1, none⟩ = some (.string s) := blk_cell hz; have c4 : wz.cell? ⟨w.heap.size, 4, none⟩ = some (.slice va b.length vc) := blk_cell hz; clear hz; go_simp; try with_reducible rfl)
  (try simp only [Act.put, List.setIfInBounds_toArray, List.set_cons_zero, List.set_cons_succ])
  refine PlanT.take0 (v := ?v1) (by kernel_rfl) ?y1 ?r1
  case y1 => (intro wz hz; have c1 : wz.cell? ⟨w.heap.size, 1, none⟩ = some (.string s) := blk_cell hz; have c4 : wz.cell? ⟨w.heap.size, 4, none⟩ = some (.slice va b.length vc) := blk_cell hz; clear hz; go_simp; try with_reducible rfl)
  (try simp only [Act.put, List.setIfInBounds_toArray, List.set_cons_zero, List.set_cons_succ])
  refine PlanT.take0 (v := ?v2) (by kernel_rfl) ?y2 ?r2
  case y2 => (intro wz hz; have c1 : wz.cell? ⟨w.heap.size, 1, none⟩ = some (.string s) := blk_cell hz; have c4 : wz.cell? ⟨w.heap.size, 4, none⟩ = some (.slice va b.length vc) := blk_cell hz; clear hz; go_simp; try with_reducible rfl)
  (try simp only [Act.put, List.setIfInBounds_toArray, List.set_cons_zero, List.set_cons_succ])
  refine PlanT.take0 (v := ?v3) (by kernel_rfl) ?y3 ?r3
  case y3 => (intro wz hz; have c1 : wz.cell? ⟨w.heap.size, 1, none⟩ = some (.string s) := blk_cell hz; have c4 : wz.cell? ⟨w.heap.size, 4, none⟩ = some (.slice va b.length vc) := blk_cell hz; clear hz; go_simp; try with_reducible rfl)
  (try simp only [Act.put, List.setIfInBounds_toArray, List.set_cons_zero, List.set_cons_succ])
  refine PlanT.take0 (v := ?v4) (by kernel_rfl) ?y4 ?r4
  case y4 => (intro wz hz; have c1 : wz.cell? ⟨w.heap.size, 1, none⟩ = some (.string s) := blk_cell hz; have c4 : wz.cell? ⟨w.heap.size, 4, none⟩ = some (.slice va b.length vc) := blk_cell hz; clear hz; go_simp; try with_reducible rfl)
  (try simp only [Act.put, List.setIfInBounds_toArray, List.set_cons_zero, List.set_cons_succ])
  refine PlanT.take0 (v := ?v7) (by kernel_rfl) ?y7 ?r7
  case y7 => (intro wz hz; have c1 : wz.cell? ⟨w.heap.size, 1, none⟩ = some (.string s) := blk_cell hz; have c4 : wz.cell? ⟨w.heap.size, 4, none⟩ = some (.slice va b.length vc) := blk_cell hz; clear hz; go_simp; try with_reducible rfl)
  (try simp only [Act.put, List.setIfInBounds_toArray, List.set_cons_zero, List.set_cons_succ])
  refine PlanT.take0 (v := ?v8) (by kernel_rfl) ?y8 ?r8
  case y8 => (intro wz hz; have c1 : wz.cell? ⟨w.heap.size, 1, none⟩ = some (.string s) := blk_cell hz; have c4 : wz.cell? ⟨w.heap.size, 4, none⟩ = some (.slice va b.length vc) := blk_cell hz; clear hz; go_simp; try with_reducible rfl)
  (try simp only [Act.put, List.setIfInBounds_toArray, List.set_cons_zero, List.set_cons_succ])
  refine PlanT.take0 (v := ?v9) (by kernel_rfl) ?y9 ?r9
  case y9 => (intro wz hz; have c1 : wz.cell? ⟨w.heap.size, 1, none⟩ = some (.string s) := blk_cell hz; have c4 : wz.cell? ⟨w.heap.size, 4, none⟩ = some (.slice va b.length vc) := blk_cell hz; clear hz; go_simp; try with_reducible rfl)
  (try simp only [Act.put, List.setIfInBounds_toArray, List.set_cons_zero, List.set_cons_succ])
  refine PlanT.take0 (v := ?v10) (by kernel_rfl) ?y10 ?r10
  case y10 => (intro wz hz; have c1 : wz.cell? ⟨w.heap.size, 1, none⟩ = some (.string s) := blk_cell hz; have c4 : wz.cell? ⟨w.heap.size, 4, none⟩ = some (.slice va b.length vc) := blk_cell hz; clear hz; go_simp; try with_reducible rfl)
  (try simp only [Act.put, List.setIfInBounds_toArray, List.set_cons_zero, List.set_cons_succ])
  refine PlanT.take0 (v := ?v11) (by kernel_rfl) ?y11 ?r11
  case y11 => (intro wz hz; have c1 : wz.cell? ⟨w.heap.size, 1, none⟩ = some (.string s) := blk_cell hz; have c4 : wz.cell? ⟨w.heap.size, 4, none⟩ = some (.slice va b.length vc) := blk_cell hz; clear hz; go_simp; try with_reducible rfl)
  (try simp only [Act.put, List.setIfInBounds_toArray, List.set_cons_zero, List.set_cons_succ])
  refine PlanT.exec2 (fun K hK => ⟨by kernel_rfl, ?_⟩)
  go_simp
  refine (bn_put1 H1.out HS.out hk _ hsz _ _ HD.out hbl _ _ HE.out).mono ?_
  rintro e w2 ⟨rfl, h2⟩
  have H2 := Lib.hid h2
  clear h2
  refine hK.out _ _ H2.out.box H2.out.box ?_
  clear hK K
  (try simp only [Act.put, List.setIfInBounds_toArray, List.set_cons_zero, List.set_cons_succ])
  refine PlanT.exec2 (fun K hK => ⟨by kernel_rfl, ?_⟩)
  go_simp
  refine (num1_any _ _).mono ?_
  rintro e w3 ⟨rfl, rfl⟩
  refine hK.out _ _ H2.out.box H2.out.box ?_
  clear hK K
  (try simp only [Act.put, List.setIfInBounds_toArray, List.set_cons_zero, List.set_cons_succ])
  refine PlanT.exec2 (fun K hK => ⟨by kernel_rfl, ?_⟩)
  go_simp
  refine (bn_put2 H2.out HS.out hk _ hsz _ _ HD.out hbl _ _ HE.out).mono ?_
  rintro e w4 ⟨rfl, h4⟩
  have H4 := Lib.hid h4
  clear h4
  refine hK.out _ _ H4.out.box H4.out.box ?_
  clear hK K
  (try simp only [Act.put, List.setIfInBounds_toArray, List.set_cons_zero, List.set_cons_succ])
  refine PlanT.take0 (v := ?v13) (by kernel_rfl) ?y13 ?r13
  case y13 => (intro wz hz; have c1 : wz.cell? ⟨w.heap.size, 1, none⟩ = some (.string s) := blk_cell hz; have c4 : wz.cell? ⟨w.heap.size, 4, none⟩ = some (.slice va b.length vc) := blk_cell hz; clear hz; go_simp; try with_reducible rfl)
  (try simp only [Act.put, List.setIfInBounds_toArray, List.set_cons_zero, List.set_cons_succ])
  refine PlanT.take0 (v := ?v14) (by kernel_rfl) ?y14 ?r14
  case y14 => (intro wz hz; have c1 : wz.cell? ⟨w.heap.size, 1, none⟩ = some (.string s) := blk_cell hz; have c4 : wz.cell? ⟨w.heap.size, 4, none⟩ = some (.slice va b.length vc) := blk_cell hz; clear hz; go_simp; try with_reducible rfl)
  (try simp only [Act.put, List.setIfInBounds_toArray, List.set_cons_zero, List.set_cons_succ])
  refine PlanT.done (NoPanic.normal ?_)
  go_wp2
  go_ret
  exact ⟨rfl, H4.out.bo⟩

set_option maxRecDepth 100000 in
set_option maxHeartbeats 4000000 in
set_option linter.unusedSimpArgs false in
set_option linter.unusedVariables false in
theorem step_put2 {W w : World} {p q : Nat} {f : FR} {k : Nat} (h : Bo W w p q f f) (hs : RSm f k) (hk : k ≤ 1000) (s : ByteArray) (hsz : s.size ≤ maxLen) (a c : Int) (va : Option Addr) (vc : Nat) (b : List UInt8) (hv : RdB W (.slice va b.length vc) b) (hbl : b.length ≤ 300) (na : Option Addr) (nc : Nat) (nx : List Int) (hn : Rd W 1 (.slice na nx.length nc) nx.length (nx.map (Value.int .i64))) (hnl : nx.length ≤ 100) :
    Calls Tryd.prog 10 #[.pointer (some ⟨p, 0, none⟩), .pointer (some ⟨q, 0, none⟩), .agg #[.int .i64 2, .string s, .int .i64 a, .int .i64 c, .slice va b.length vc, .slice na nx.length nc]] w fun e w' => e = .returned (.bool true) ∧ Bo W w' p q (f.put s.data.toList b).2 (f.put s.data.toList b).2 := by
  have HS := Lib.hid hs
  have HD := Lib.hid hv
  have HNX := Lib.hid hn
  have HA := Lib.hid (h.alloc (.cells #[.int .i64 2, .string s, .int .i64 a, .int .i64 c, .slice va b.length vc, .slice na nx.length nc] 33 (0, 0)) (heap_alloc_new w _))
  clear hs hv hn
  obtain ⟨⟨r, f'⟩, he⟩ : ∃ y, f.put s.data.toList b = y := ⟨_, rfl⟩
  rw [he]
  have HE := Lib.hid he
  clear he
  obtain ⟨w1, hw1⟩ : ∃ w1, w1 = (w.alloc (.cells #[.int .i64 2, .string s, .int .i64 a, .int .i64 c, .slice va b.length vc, .slice na nx.length nc] 33 (0, 0))).drew := ⟨_, rfl⟩
  have H1 := Lib.hid (show BoN W w1 p q f f w.heap.size (.cells #[.int .i64 2, .string s, .int .i64 a, .int .i64 c, .slice va b.length vc, .slice na nx.length nc] 33 (0, 0)) by subst hw1; exact HA.out.drew)
  have Hw1 := Lib.hid hw1
  clear hw1
  clear HA h
  go_enter Tryd.func10, Tryd.ntmps10
  go_wp2
  refine wp_region_two (fun wz => wz.heap[w.heap.size]? = some (.cells #[.int .i64 2, .string s, .int .i64 a, .int .i64 c, .slice va b.length vc, .slice na nx.length nc] 33 (0, 0))) (fun wz => wz.heap[w.heap.size]? = some (.cells #[.int .i64 2, .string s, .int .i64 a, .int .i64 c, .slice va b.length vc, .slice na nx.length nc] 33 (0, 0))) [(0, 0), (0, 1), (0, 2), (0, 3), (0, 4), (0, 7), (0, 8), (0, 9), (0, 10), (0, 11), (2, 5), (2, 6), (2, 12), (0, 13), (0, 14)] [] (by kernel_rfl) (by kernel_rfl) (by kernel_rfl) (by kernel_rfl) (by kernel_rfl) (by rw [← Hw1.out]; exact H1.out.box) (by rw [← Hw1.out]; exact H1.out.box) ?_
  simp only [planT, List.drop_succ_cons, List.drop_zero]
  rw [← Hw1.out]
  refine PlanT.take0 (v := ?v0) (by kernel_rfl) ?y0 ?r0
  case y0 => (intro wz hz; have c1 : wz.cell? ⟨w.heap.size, 1, none⟩ = some (.string s) := blk_cell hz; have c4 : wz.cell? ⟨w.heap.size, 4, none⟩ = some (.slice va b.length vc) := blk_cell hz; clear hz; go_simp; try with_reducible rfl)
  (try simp only [Act.put, List.setIfInBounds_toArray, List.set_cons_zero, List.set_cons_succ])
  refine PlanT.take0 (v := ?v1) (by kernel_rfl) ?y1 ?r1
  case y1 => (intro wz hz; have c1 : wz.cell? ⟨w.heap.size, 1, none⟩ = some (.string s) := blk_cell hz; have c4 : wz.cell? ⟨w.heap.size, 4, none⟩ = some (.slice va b.length vc) := blk_cell hz; clear hz; go_simp; try with_reducible rfl)
  (try simp only [Act.put, List.setIfInBounds_toArray, List.set_cons_zero, List.set_cons_succ])
  refine PlanT.take0 (v := ?v2) (by kernel_rfl) ?y2 ?r2
  case y2 => (intro wz hz; have c1 : wz.cell? ⟨w.heap.size, 1, none⟩ = some (.string s) := blk_cell hz; have c4 : wz.cell? ⟨w.heap.size, 4, none⟩ = some (.slice va b.length vc) := blk_cell hz; clear hz; go_simp; try with_reducible rfl)
  (try simp only [Act.put, List.setIfInBounds_toArray, List.set_cons_zero, List.set_cons_succ])
  refine PlanT.take0 (v := ?v3) (by kernel_rfl) ?y3 ?r3
  case y3 => (intro wz hz; have c1 : wz.cell? ⟨w.heap.size, 1, none⟩ = some (.string s) := blk_cell hz; have c4 : wz.cell? ⟨w.heap.size, 4, none⟩ = some (.slice va b.length vc) := blk_cell hz; clear hz; go_simp; try with_reducible rfl)
  (try simp only [Act.put, List.setIfInBounds_toArray, List.set_cons_zero, List.set_cons_succ])
  refine PlanT.take0 (v := ?v4) (by kernel_rfl) ?y4 ?r4
  case y4 => (intro wz hz; have c1 : wz.cell? ⟨w.heap.size, 1, none⟩ = some (.string s) := blk_cell hz; have c4 : wz.cell? ⟨w.heap.size, 4, none⟩ = some (.slice va b.length vc) := blk_cell hz; clear hz; go_simp; try with_reducible rfl)
  (try simp only [Act.put, List.setIfInBounds_toArray, List.set_cons_zero, List.set_cons_succ])
  refine PlanT.take0 (v := ?v7) (by kernel_rfl) ?y7 ?r7
  case y7 => (intro wz hz; have c1 : wz.cell? ⟨w.heap.size, 1, none⟩ = some (.string s) := blk_cell hz; have c4 : wz.cell? ⟨w.heap.size, 4, none⟩ = some (.slice va b.length vc) := blk_cell hz; clear hz; go_simp; try with_reducible rfl)
  (try simp only [Act.put, List.setIfInBounds_toArray, List.set_cons_zero, List.set_cons_succ])
  refine PlanT.take0 (v := ?v8) (by kernel_rfl) ?y8 ?r8
  case y8 => (intro wz hz; have c1 : wz.cell? ⟨w.heap.size, 1, none⟩ = some (.string s) := blk_cell hz; have c4 : wz.cell? ⟨w.heap.size, 4, none⟩ = some (.slice va b.length vc) := blk_cell hz; clear hz; go_simp; try with_reducible rfl)
  (try simp only [Act.put, List.setIfInBounds_toArray, List.set_cons_zero, List.set_cons_succ])
  refine PlanT.take0 (v := ?v9) (by kernel_rfl) ?y9 ?r9
  case y9 => (intro wz hz; have c1 : wz.cell? ⟨w.heap.size, 1, none⟩ = some (.string s) := blk_cell hz; have c4 : wz.cell? ⟨w.heap.size, 4, none⟩ = some (.slice va b.length vc) := blk_cell hz; clear hz; go_simp; try with_reducible rfl)
  (try simp only [Act.put, List.setIfInBounds_toArray, List.set_cons_zero, List.set_cons_succ])
  refine PlanT.take0 (v := ?v10) (by kernel_rfl) ?y10 ?r10
  case y10 => (intro wz hz; have c1 : wz.cell? ⟨w.heap.size, 1, none⟩ = some (.string s) := blk_cell hz; have c4 : wz.cell? ⟨w.heap.size, 4, none⟩ = some (.slice va b.length vc) := blk_cell hz; clear hz; go_simp; try with_reducible rfl)
  (try simp only [Act.put, List.setIfInBounds_toArray, List.set_cons_zero, List.set_cons_succ])
  refine PlanT.take0 (v := ?v11) (by kernel_rfl) ?y11 ?r11
  case y11 => (intro wz hz; have c1 : wz.cell? ⟨w.heap.size, 1, none⟩ = some (.string s) := blk_cell hz; have c4 : wz.cell? ⟨w.heap.size, 4, none⟩ = some (.slice va b.length vc) := blk_cell hz; clear hz; go_simp; try with_reducible rfl)
  (try simp only [Act.put, List.setIfInBounds_toArray, List.set_cons_zero, List.set_cons_succ])
  refine PlanT.exec2 (fun K hK => ⟨by kernel_rfl, ?_⟩)
  go_simp
  refine (bn_put1 H1.out HS.out hk _ hsz _ _ HD.out hbl _ _ HE.out).mono ?_
  rintro e w2 ⟨rfl, h2⟩
  have H2 := Lib.hid h2
  clear h2
  refine hK.out _ _ H2.out.box H2.out.box ?_
  clear hK K
  (try simp only [Act.put, List.setIfInBounds_toArray, List.set_cons_zero, List.set_cons_succ])
  refine PlanT.exec2 (fun K hK => ⟨by kernel_rfl, ?_⟩)
  go_simp
  refine (num1_any _ _).mono ?_
  rintro e w3 ⟨rfl, rfl⟩
  refine hK.out _ _ H2.out.box H2.out.box ?_
  clear hK K
  (try simp only [Act.put, List.setIfInBounds_toArray, List.set_cons_zero, List.set_cons_succ])
  refine PlanT.exec2 (fun K hK => ⟨by kernel_rfl, ?_⟩)
  go_simp
  refine (bn_put2 H2.out HS.out hk _ hsz _ _ HD.out hbl _ _ HE.out).mono ?_
  rintro e w4 ⟨rfl, h4⟩
  have H4 := Lib.hid h4
  clear h4
  refine hK.out _ _ H4.out.box H4.out.box ?_
  clear hK K
  (try simp only [Act.put, List.setIfInBounds_toArray, List.set_cons_zero, List.set_cons_succ])
  refine PlanT.take0 (v := ?v13) (by kernel_rfl) ?y13 ?r13
  case y13 => (intro wz hz; have c1 : wz.cell? ⟨w.heap.size, 1, none⟩ = some (.string s) := blk_cell hz; have c4 : wz.cell? ⟨w.heap.size, 4, none⟩ = some (.slice va b.length vc) := blk_cell hz; clear hz; go_simp; try with_reducible rfl)
  (try simp only [Act.put, List.setIfInBounds_toArray, List.set_cons_zero, List.set_cons_succ])
  refine PlanT.take0 (v := ?v14) (by kernel_rfl) ?y14 ?r14
  case y14 => (intro wz hz; have c1 : wz.cell? ⟨w.heap.size, 1, none⟩ = some (.string s) := blk_cell hz; have c4 : wz.cell? ⟨w.heap.size, 4, none⟩ = some (.slice va b.length vc) := blk_cell hz; clear hz; go_simp; try with_reducible rfl)
  (try simp only [Act.put, List.setIfInBounds_toArray, List.set_cons_zero, List.set_cons_succ])
  refine PlanT.done (NoPanic.normal ?_)
  go_wp2
  go_ret
  exact ⟨rfl, H4.out.bo⟩

set_option maxRecDepth 100000 in
set_option maxHeartbeats 4000000 in
set_option linter.unusedSimpArgs false in
set_option linter.unusedVariables false in
theorem step_drop {W w : World} {p q : Nat} {f : FR} {k : Nat} (h : Bo W w p q f f) (hs : RSm f k) (hk : k ≤ 1000) (s : ByteArray) (hsz : s.size ≤ maxLen) (a c : Int) (va : Option Addr) (vc : Nat) (b : List UInt8) (hv : RdB W (.slice va b.length vc) b) (hbl : b.length ≤ 300) (na : Option Addr) (nc : Nat) (nx : List Int) (hn : Rd W 1 (.slice na nx.length nc) nx.length (nx.map (Value.int .i64))) (hnl : nx.length ≤ 100) :
    Calls Tryd.prog 10 #[.pointer (some ⟨p, 0, none⟩), .pointer (some ⟨q, 0, none⟩), .agg #[.int .i64 5, .string s, .int .i64 a, .int .i64 c, .slice va b.length vc, .slice na nx.length nc]] w fun e w' => e = .returned (.bool true) ∧ Bo W w' p q (f.drop s.data.toList).2 (f.drop s.data.toList).2 := by
  have HS := Lib.hid hs
  have HD := Lib.hid hv
  have HNX := Lib.hid hn
  have HA := Lib.hid (h.alloc (.cells #[.int .i64 5, .string s, .int .i64 a, .int .i64 c, .slice va b.length vc, .slice na nx.length nc] 33 (0, 0)) (heap_alloc_new w _))
  clear hs hv hn
  obtain ⟨⟨r, f'⟩, he⟩ : ∃ y, f.drop s.data.toList = y := ⟨_, rfl⟩
  rw [he]
  have HE := Lib.hid he
  have HSR := Lib.hid HA.out.srt
  clear he
  obtain ⟨w1, hw1⟩ : ∃ w1, w1 = (w.alloc (.cells #[.int .i64 5, .string s, .int .i64 a, .int .i64 c, .slice va b.length vc, .slice na nx.length nc] 33 (0, 0))).drew := ⟨_, rfl⟩
  have H1 := Lib.hid (show BoN W w1 p q f f w.heap.size (.cells #[.int .i64 5, .string s, .int .i64 a, .int .i64 c, .slice va b.length vc, .slice na nx.length nc] 33 (0, 0)) by subst hw1; exact HA.out.drew)
  have Hw1 := Lib.hid hw1
  clear hw1
  clear HA h
  go_enter Tryd.func10, Tryd.ntmps10
  go_wp2
  refine wp_region_two (fun wz => wz.heap[w.heap.size]? = some (.cells #[.int .i64 5, .string s, .int .i64 a, .int .i64 c, .slice va b.length vc, .slice na nx.length nc] 33 (0, 0))) (fun wz => wz.heap[w.heap.size]? = some (.cells #[.int .i64 5, .string s, .int .i64 a, .int .i64 c, .slice va b.length vc, .slice na nx.length nc] 33 (0, 0))) [(0, 0), (0, 1), (0, 2), (0, 5), (0, 6), (0, 7), (2, 3), (2, 4), (2, 8), (0, 9), (0, 10)] [] (by kernel_rfl) (by kernel_rfl) (by kernel_rfl) (by kernel_rfl) (by kernel_rfl) (by rw [← Hw1.out]; exact H1.out.box) (by rw [← Hw1.out]; exact H1.out.box) ?_
  simp only [planT, List.drop_succ_cons, List.drop_zero]
  rw [← Hw1.out]
  refine PlanT.take0 (v := ?v0) (by kernel_rfl) ?y0 ?r0
  case y0 => (intro wz hz; have c1 : wz.cell? ⟨w.heap.size, 1, none⟩ = some (.string s) := blk_cell hz; have c4 : wz.cell? ⟨w.heap.size, 4, none⟩ = some (.slice va b.length vc) := blk_cell hz; clear hz; go_simp; try with_reducible rfl)
  (try simp only [Act.put, List.setIfInBounds_toArray, List.set_cons_zero, List.set_cons_succ])
  refine PlanT.take0 (v := ?v1) (by kernel_rfl) ?y1 ?r1
  case y1 => (intro wz hz; have c1 : wz.cell? ⟨w.heap.size, 1, none⟩ = some (.string s) := blk_cell hz; have c4 : wz.cell? ⟨w.heap.size, 4, none⟩ = some (.slice va b.length vc) := blk_cell hz; clear hz; go_simp; try with_reducible rfl)
  (try simp only [Act.put, List.setIfInBounds_toArray, List.set_cons_zero, List.set_cons_succ])
  refine PlanT.take0 (v := ?v2) (by kernel_rfl) ?y2 ?r2
  case y2 => (intro wz hz; have c1 : wz.cell? ⟨w.heap.size, 1, none⟩ = some (.string s) := blk_cell hz; have c4 : wz.cell? ⟨w.heap.size, 4, none⟩ = some (.slice va b.length vc) := blk_cell hz; clear hz; go_simp; try with_reducible rfl)
  (try simp only [Act.put, List.setIfInBounds_toArray, List.set_cons_zero, List.set_cons_succ])
  refine PlanT.take0 (v := ?v5) (by kernel_rfl) ?y5 ?r5
  case y5 => (intro wz hz; have c1 : wz.cell? ⟨w.heap.size, 1, none⟩ = some (.string s) := blk_cell hz; have c4 : wz.cell? ⟨w.heap.size, 4, none⟩ = some (.slice va b.length vc) := blk_cell hz; clear hz; go_simp; try with_reducible rfl)
  (try simp only [Act.put, List.setIfInBounds_toArray, List.set_cons_zero, List.set_cons_succ])
  refine PlanT.take0 (v := ?v6) (by kernel_rfl) ?y6 ?r6
  case y6 => (intro wz hz; have c1 : wz.cell? ⟨w.heap.size, 1, none⟩ = some (.string s) := blk_cell hz; have c4 : wz.cell? ⟨w.heap.size, 4, none⟩ = some (.slice va b.length vc) := blk_cell hz; clear hz; go_simp; try with_reducible rfl)
  (try simp only [Act.put, List.setIfInBounds_toArray, List.set_cons_zero, List.set_cons_succ])
  refine PlanT.take0 (v := ?v7) (by kernel_rfl) ?y7 ?r7
  case y7 => (intro wz hz; have c1 : wz.cell? ⟨w.heap.size, 1, none⟩ = some (.string s) := blk_cell hz; have c4 : wz.cell? ⟨w.heap.size, 4, none⟩ = some (.slice va b.length vc) := blk_cell hz; clear hz; go_simp; try with_reducible rfl)
  (try simp only [Act.put, List.setIfInBounds_toArray, List.set_cons_zero, List.set_cons_succ])
  refine PlanT.exec2 (fun K hK => ⟨by kernel_rfl, ?_⟩)
  go_simp
  refine (bn_drop1 H1.out HS.out hk _ hsz _ _ HE.out).mono ?_
  rintro e w2 ⟨rfl, h2⟩
  have H2 := Lib.hid h2
  clear h2
  refine hK.out _ _ H2.out.box H2.out.box ?_
  clear hK K
  (try simp only [Act.put, List.setIfInBounds_toArray, List.set_cons_zero, List.set_cons_succ])
  refine PlanT.exec2 (fun K hK => ⟨by kernel_rfl, ?_⟩)
  go_simp
  refine (num1_any _ _).mono ?_
  rintro e w3 ⟨rfl, rfl⟩
  refine hK.out _ _ H2.out.box H2.out.box ?_
  clear hK K
  (try simp only [Act.put, List.setIfInBounds_toArray, List.set_cons_zero, List.set_cons_succ])
  refine PlanT.exec2 (fun K hK => ⟨by kernel_rfl, ?_⟩)
  go_simp
  refine (bn_drop2 H2.out HS.out hk HSR.out _ _ _ HE.out).mono ?_
  rintro e w4 ⟨rfl, h4⟩
  have H4 := Lib.hid h4
  clear h4
  refine hK.out _ _ H4.out.box H4.out.box ?_
  clear hK K
  (try simp only [Act.put, List.setIfInBounds_toArray, List.set_cons_zero, List.set_cons_succ])
  refine PlanT.take0 (v := ?v9) (by kernel_rfl) ?y9 ?r9
  case y9 => (intro wz hz; have c1 : wz.cell? ⟨w.heap.size, 1, none⟩ = some (.string s) := blk_cell hz; have c4 : wz.cell? ⟨w.heap.size, 4, none⟩ = some (.slice va b.length vc) := blk_cell hz; clear hz; go_simp; try with_reducible rfl)
  (try simp only [Act.put, List.setIfInBounds_toArray, List.set_cons_zero, List.set_cons_succ])
  refine PlanT.take0 (v := ?v10) (by kernel_rfl) ?y10 ?r10
  case y10 => (intro wz hz; have c1 : wz.cell? ⟨w.heap.size, 1, none⟩ = some (.string s) := blk_cell hz; have c4 : wz.cell? ⟨w.heap.size, 4, none⟩ = some (.slice va b.length vc) := blk_cell hz; clear hz; go_simp; try with_reducible rfl)
  (try simp only [Act.put, List.setIfInBounds_toArray, List.set_cons_zero, List.set_cons_succ])
  refine PlanT.done (NoPanic.normal ?_)
  go_wp2
  go_ret
  exact ⟨rfl, H4.out.bo⟩

set_option maxRecDepth 100000 in
set_option maxHeartbeats 4000000 in
set_option linter.unusedSimpArgs false in
set_option linter.unusedVariables false in
theorem step_next {W w : World} {p q : Nat} {f : FR} {k : Nat} (h : Bo W w p q f f) (hs : RSm f k) (hk : k ≤ 1000) (s : ByteArray) (hsz : s.size ≤ maxLen) (a c : Int) (va : Option Addr) (vc : Nat) (b : List UInt8) (hv : RdB W (.slice va b.length vc) b) (hbl : b.length ≤ 300) (na : Option Addr) (nc : Nat) (nx : List Int) (hn : Rd W 1 (.slice na nx.length nc) nx.length (nx.map (Value.int .i64))) (hnl : nx.length ≤ 100) :
    Calls Tryd.prog 10 #[.pointer (some ⟨p, 0, none⟩), .pointer (some ⟨q, 0, none⟩), .agg #[.int .i64 0, .string s, .int .i64 a, .int .i64 c, .slice va b.length vc, .slice na nx.length nc]] w fun e w' => e = .returned (.bool true) ∧ Bo W w' p q (f.next nx) (f.next nx) := by
  have HS := Lib.hid hs
  have HD := Lib.hid hv
  have HNX := Lib.hid hn
  have HA := Lib.hid (h.alloc (.cells #[.int .i64 0, .string s, .int .i64 a, .int .i64 c, .slice va b.length vc, .slice na nx.length nc] 33 (0, 0)) (heap_alloc_new w _))
  clear hs hv hn
  clear h
  go_enter Tryd.func10, Tryd.ntmps10
  go_wp2_with (first | (go_at_call 19; refine (bn_next1 HA.out _ nx HNX.out hnl).mono ?_; rintro e w1 ⟨rfl, h1⟩; have c5 : w1.cell? ⟨w.heap.size, 5, none⟩ = some (.slice na nx.length nc) := blk_cell h1.box; have H1 := Lib.hid h1; clear h1) | (go_at_call 26; refine (bn_next2 H1.out _ nx HNX.out hnl).mono ?_; rintro e w2 ⟨rfl, h2⟩; have H2 := Lib.hid h2; clear h2))
  go_ret
  exact ⟨rfl, H2.out.bo⟩

set_option maxRecDepth 100000 in
set_option maxHeartbeats 4000000 in
set_option linter.unusedSimpArgs false in
set_option linter.unusedVariables false in
theorem step_get {W w : World} {p q : Nat} {f : FR} {k : Nat} (h : Bo W w p q f f) (hs : RSm f k) (hk : k ≤ 1000) (s : ByteArray) (hsz : s.size ≤ maxLen) (a c : Int) (va : Option Addr) (vc : Nat) (b : List UInt8) (hv : RdB W (.slice va b.length vc) b) (hbl : b.length ≤ 300) (na : Option Addr) (nc : Nat) (nx : List Int) (hn : Rd W 1 (.slice na nx.length nc) nx.length (nx.map (Value.int .i64))) (hnl : nx.length ≤ 100) :
    Calls Tryd.prog 10 #[.pointer (some ⟨p, 0, none⟩), .pointer (some ⟨q, 0, none⟩), .agg #[.int .i64 3, .string s, .int .i64 a, .int .i64 c, .slice va b.length vc, .slice na nx.length nc]] w fun e w' => e = .returned (.bool true) ∧ Bo W w' p q f.took f.took := by
  have HS := Lib.hid hs
  have HD := Lib.hid hv
  have HNX := Lib.hid hn
  have HA := Lib.hid (h.alloc (.cells #[.int .i64 3, .string s, .int .i64 a, .int .i64 c, .slice va b.length vc, .slice na nx.length nc] 33 (0, 0)) (heap_alloc_new w _))
  clear hs hv hn
  obtain ⟨⟨l, r⟩, he⟩ : ∃ y, f.get s.data.toList a c = y := ⟨_, rfl⟩
  have HE := Lib.hid he
  have hse : (strB l).toList == (strB l).toList := by simp
  clear he h
  go_enter Tryd.func10, Tryd.ntmps10
  go_wp2_with (first | (go_at_call 20; refine (bn_get1 HA.out HS.out hk _ hsz _ _ _ _ HE.out).mono ?_; rintro e w1 ⟨v1, n1, rfl, h1⟩; have hbx := h1.bn.box; have c1 : w1.cell? ⟨w.heap.size, 1, none⟩ = some (.string s) := blk_cell hbx; have c2 : w1.cell? ⟨w.heap.size, 2, none⟩ = some (.int .i64 a) := blk_cell hbx; have c3 : w1.cell? ⟨w.heap.size, 3, none⟩ = some (.int .i64 c) := blk_cell hbx; clear hbx; have H1 := Lib.hid h1; clear h1) | (go_at_call 28; refine (bn_get2 H1.out HS.out hk _ _ _ _ _ HE.out).mono ?_; rintro e w2 ⟨v2, n2, rfl, h2, rd1, rd2⟩; have hcv1 := rdB_convert (P := Tryd.prog) rd1 31 5 9 Tryd.underlying31 Tryd.underlying5 Tryd.underlying9; have hcv2 := rdB_convert (P := Tryd.prog) rd2 31 5 9 Tryd.underlying31 Tryd.underlying5 Tryd.underlying9; have H2 := Lib.hid h2; clear h2 rd1 rd2) | (go_at_call 22; refine (num1_any _ _).mono ?_; rintro e w5 ⟨rfl, rfl⟩))
  go_ret
  exact ⟨rfl, H2.out.bo⟩

set_option maxRecDepth 100000 in
set_option maxHeartbeats 4000000 in
set_option linter.unusedSimpArgs false in
set_option linter.unusedVariables false in
theorem step_list {W w : World} {p q : Nat} {f : FR} {k : Nat} (h : Bo W w p q f f) (hs : RSm f k) (hk : k ≤ 1000) (s : ByteArray) (hsz : s.size ≤ maxLen) (a c : Int) (va : Option Addr) (vc : Nat) (b : List UInt8) (hv : RdB W (.slice va b.length vc) b) (hbl : b.length ≤ 300) (na : Option Addr) (nc : Nat) (nx : List Int) (hn : Rd W 1 (.slice na nx.length nc) nx.length (nx.map (Value.int .i64))) (hnl : nx.length ≤ 100) :
    Calls Tryd.prog 10 #[.pointer (some ⟨p, 0, none⟩), .pointer (some ⟨q, 0, none⟩), .agg #[.int .i64 4, .string s, .int .i64 a, .int .i64 c, .slice va b.length vc, .slice na nx.length nc]] w fun e w' => e = .returned (.bool true) ∧ Bo W w' p q f.took f.took := by
  have HS := Lib.hid hs
  have HD := Lib.hid hv
  have HNX := Lib.hid hn
  have HA := Lib.hid (h.alloc (.cells #[.int .i64 4, .string s, .int .i64 a, .int .i64 c, .slice va b.length vc, .slice na nx.length nc] 33 (0, 0)) (heap_alloc_new w _))
  clear hs hv hn
  obtain ⟨⟨l, r⟩, he⟩ : ∃ y, f.list = y := ⟨_, rfl⟩
  have hll : l.length < 1000000 := list_len (by have := HS.out.objs; omega) he
  have HE := Lib.hid he
  clear he h
  go_enter Tryd.func10, Tryd.ntmps10
  go_wp2_with (first | (go_at_call 23; refine (bn_list1 HA.out HS.out hk _ _ HE.out).mono ?_; rintro e w1 ⟨v1, n1, rfl, h1⟩; have H1 := Lib.hid h1; clear h1) | (go_at_call 29; refine (bn_list2 H1.out HS.out hk _ _ HE.out).mono ?_; rintro e w2 ⟨v2, n2, rfl, h2, rd1, rd2⟩; have RD1 := Lib.hid rd1; have RD2 := Lib.hid rd2; have H2 := Lib.hid h2; clear h2 rd1 rd2) | (go_at_call 30; refine (texts_any _ _ _ l hll RD1.out RD2.out).mono ?_; rintro e w3 ⟨rfl, B3⟩) | (go_at_call 22; refine (num1_any _ _).mono ?_; rintro e w5 ⟨rfl, rfl⟩))
  go_ret
  exact ⟨rfl, H2.out.bo.below B3⟩

set_option maxRecDepth 100000 in
set_option maxHeartbeats 4000000 in
set_option linter.unusedSimpArgs false in
set_option linter.unusedVariables false in
theorem step_else {W w : World} {p q : Nat} {f : FR} {k : Nat} (h : Bo W w p q f f) (hs : RSm f k) (hk : k ≤ 1000) (d : Int) (h0 : d ≠ 0) (h1 : d ≠ 1) (h2 : d ≠ 2) (h3 : d ≠ 3) (h4 : d ≠ 4) (h5 : d ≠ 5) (s : ByteArray) (hsz : s.size ≤ maxLen) (a c : Int) (va : Option Addr) (vc : Nat) (b : List UInt8) (hv : RdB W (.slice va b.length vc) b) (hbl : b.length ≤ 300) (na : Option Addr) (nc : Nat) (nx : List Int) (hn : Rd W 1 (.slice na nx.length nc) nx.length (nx.map (Value.int .i64))) (hnl : nx.length ≤ 100) :
    Calls Tryd.prog 10 #[.pointer (some ⟨p, 0, none⟩), .pointer (some ⟨q, 0, none⟩), .agg #[.int .i64 d, .string s, .int .i64 a, .int .i64 c, .slice va b.length vc, .slice na nx.length nc]] w fun e w' => e = .returned (.bool true) ∧ Bo W w' p q f f := by
  have HS := Lib.hid hs
  have HD := Lib.hid hv
  have HNX := Lib.hid hn
  have HA := Lib.hid (h.alloc (.cells #[.int .i64 d, .string s, .int .i64 a, .int .i64 c, .slice va b.length vc, .slice na nx.length nc] 33 (0, 0)) (heap_alloc_new w _))
  clear hs hv hn
  have HH := Lib.hid h
  have e0 : (d == 0) = false := by simpa using h0
  have e1 : (d == 1) = false := by simpa using h1
  have e2 : (d == 2) = false := by simpa using h2
  have e3 : (d == 3) = false := by simpa using h3
  have e4 : (d == 4) = false := by simpa using h4
  have e5 : (d == 5) = false := by simpa using h5
  clear h h0 h1 h2 h3 h4 h5
  go_enter Tryd.func10, Tryd.ntmps10
  go_wp2
  go_ret
  exact ⟨rfl, HA.out.bo⟩
end Go.Proofs.YtcgbpbpbbbfmhaaDoor
