/-
  Blocks: where Seek begins: the last whole key that is below, or the first one.
-/
import Derived.Test.YtdcjfgbngmdkfaaBlkStart
import Derived.Test.YtdcjfgbngmdkfaaBlkRPut
import Derived.Test.YtdcjfgbngmdkfaaMemMath
import Derived.Laws.EntriesVeiled
namespace Go.Proofs.Ytdcjfgbngmdkfaa
open Go.RowKit

theorem tail_at (es : List Ent) : ∀ (n i : Nat), 4 * i < n → ((tailN es n).drop (4 * i)).take 4 = fixL (((bodyN es (4 * i)).length : Nat) : Int) 4
  | 0, i, h => by omega
  | n + 1, i, h => by
    unfold tailN
    have hl := tailN_len es n
    rcases Nat.lt_or_ge (4 * i) n with h1 | h1
    · rw [List.drop_append_of_le_length (by omega), List.take_append_of_le_length (by rw [List.length_drop]; omega)]
      exact tail_at es n i h1
    · obtain rfl : n = 4 * i := by omega
      rw [if_pos (by omega), List.drop_left' (by rw [hl]; omega), List.take_of_length_le (by rw [fixL_length]; exact Nat.le_refl _)]

theorem up_at {es : List Ent} (h : risingB es = true) : ∀ {a b : Nat}, a < b → b < es.length → (es.getD a Ent.none_).cmp (es.getD b Ent.none_) < 0
  | a, 0, h1, _ => by omega
  | a, b + 1, h1, h2 => by
    have hg : goodAt es (b + 1) = true := by
      unfold risingB at h
      rw [List.all_eq_true] at h
      exact h (b + 1) (List.mem_range.2 h2)
    unfold goodAt at hg
    have hs : (es.getD b Ent.none_).cmp (es.getD (b + 1) Ent.none_) < 0 := by
      rw [Bool.and_eq_true] at hg
      simpa using hg.2
    rcases Nat.lt_or_ge a b with h3 | h3
    · exact cmp_trans (up_at h h3 (by omega)) hs
    · obtain rfl : a = b := by omega
      exact hs

theorem read_at {es : List Ent} (hm : ∀ k, k < es.length → (es.getD k Ent.none_).may = true) {k : Nat} (hk : k < es.length) : readP (bodyN es es.length) (prevU es k) (bodyN es k).length = some (es.getD k Ent.none_, (bodyN es (k + 1)).length) :=
  step_read ((⟨rfl, hm⟩ : IsBody (bodyN es es.length) es).step hk) (hm k hk)

/-- A whole one is read without the one ahead. -/
theorem read_whole {es : List Ent} (hm : ∀ k, k < es.length → (es.getD k Ent.none_).may = true) {k : Nat} (hk : 4 * k < es.length) : readP (bodyN es es.length) [] (bodyN es (4 * k)).length = some (es.getD (4 * k) Ent.none_, (bodyN es (4 * k + 1)).length) := by
  have h := (⟨rfl, hm⟩ : IsBody (bodyN es es.length) es).step hk
  refine step_read ?_ (hm _ hk)
  obtain ⟨r, hr⟩ := bodyN_split es (k := 4 * k + 1) (n := es.length) hk
  have hs : shE es (4 * k) = 0 := by unfold shE; rw [if_pos (by omega)]
  have hb : bodyN es (4 * k + 1) = bodyN es (4 * k) ++ (putL 0 ++ (putT (uL (es.getD (4 * k) Ent.none_)) ++ putL (numE (es.getD (4 * k) Ent.none_)) ++ putT (vL (es.getD (4 * k) Ent.none_)))) := by
    show bodyN es (4 * k) ++ entB _ _ = _
    rw [hs]
    unfold entB
    simp only [List.drop_zero, List.append_assoc]
  have hg := getAt_tells (bodyN es (4 * k)) ((putT (uL (es.getD (4 * k) Ent.none_)) ++ putL (numE (es.getD (4 * k) Ent.none_)) ++ putT (vL (es.getD (4 * k) Ent.none_))) ++ r) 0 (by omega)
  have hc : bodyN es es.length = bodyN es (4 * k) ++ putL 0 ++ ((putT (uL (es.getD (4 * k) Ent.none_)) ++ putL (numE (es.getD (4 * k) Ent.none_)) ++ putT (vL (es.getD (4 * k) Ent.none_))) ++ r) := by
    rw [hr, hb]
    simp only [List.append_assoc]
  rw [← hc] at hg
  unfold stepP at h ⊢
  rw [hg] at h ⊢
  simp only [List.take_zero, List.nil_append, Nat.not_lt_zero, if_false] at h ⊢
  exact h

theorem alloc_keep {w : World} {o x : Obj} {k : Nat} (h : w.heap[k]? = some x) : (w.alloc o).heap[k]? = some x := (Below.block ((Below.refl _ _).alloc (Nat.le_refl _) _) _ (blk_lt h)).trans h
theorem heap_new3 (w : World) (o1 o2 o3 : Obj) : (((w.alloc o1).alloc o2).alloc o3).heap[w.heap.size + 1 + 1]? = some o3 := by simpa using heap_alloc_new ((w.alloc o1).alloc o2) o3
theorem heap_new4 (w : World) (o1 o2 o3 o4 : Obj) : ((((w.alloc o1).alloc o2).alloc o3).alloc o4).heap[w.heap.size + 1 + 1 + 1]? = some o4 := by simpa using heap_alloc_new (((w.alloc o1).alloc o2).alloc o3) o4

set_option maxRecDepth 100000 in
set_option maxHeartbeats 400000 in
theorem start_any {es : List Ent} (hr : risingB es = true) (h1 : 1 ≤ es.length) (h64 : es.length ≤ 64) (x y : Value) (u : ByteArray) (s k : Int) (w : World) (hu : u.size ≤ maxLen) (hx : RdB w x (bodyN es es.length)) (hy : RdB w y (tailN es es.length)) :
    Calls Try.prog 35 #[x, y, .agg #[.string u, .int .i64 s, .int .i64 k]] w fun e w' => ∃ j : Nat, 4 * j < es.length ∧ e = .returned (.int .i64 ((bodyN es (4 * j)).length : Int)) ∧ (∀ a, a < 4 * j → (es.getD a Ent.none_).cmp ⟨u, s, k, ⟨#[]⟩⟩ < 0) ∧ Below w.heap.size w w' := by
  have hm := fun k (hk : k < es.length) => rising_may hr hk
  have hbl := bodyN_len hm
  have HPL : Hid (∀ i, 4 * i < es.length → valL (((tailN es es.length).drop (4 * i)).take 4) = (bodyN es (4 * i)).length) := Lib.hid fun i hi => by
    rw [tail_at es es.length i hi, valL_fixL _ _ (by have := hbl (4 * i) (by omega); omega)]
  have HRW : Hid (∀ i, 4 * i < es.length → readP (bodyN es es.length) [] (bodyN es (4 * i)).length = some (es.getD (4 * i) Ent.none_, (bodyN es (4 * i + 1)).length)) := Lib.hid fun i hi => read_whole hm hi
  have HUP : Hid (∀ a b, a < b → b < es.length → (es.getD a Ent.none_).cmp (es.getD b Ent.none_) < 0) := Lib.hid fun a b => up_at hr
  have HSU : Hid (∀ k, k < es.length → (es.getD k Ent.none_).u.size ≤ maxLen) := Lib.hid fun k hk => by
    have := (may_facts (hm k hk)).1
    rw [size_list] at this
    unfold maxLen
    omega
  obtain ⟨N, hN⟩ : ∃ N, N = (es.length + 3) / 4 := ⟨_, rfl⟩
  have htl : (tailN es es.length).length = 4 * N := by rw [tailN_len, hN]
  have HN : Hid (∀ i, i < N → 4 * i < es.length) := Lib.hid fun i hi => by omega
  have hN1 : 1 ≤ N := by omega
  have hN2 : N ≤ 100 := by omega
  obtain ⟨xa, xc, rfl, _, _⟩ := hx.form
  obtain ⟨ya, yc, rfl, _, _⟩ := hy.form
  have HX := Lib.hid hx
  have HY := Lib.hid hy
  have HT := Lib.hid htl
  have hdv : wrap64 (((tailN es es.length).length : Int) / 4) = (N : Int) := by rw [IntWalk.wrap64_in _ (by omega)]; omega
  clear hx hy hbl hN htl h1 h64
  generalize tailN es es.length = t at *
  generalize bodyN es es.length = c at *
  obtain ⟨bl, hbl⟩ : ∃ bl : Nat → Nat, bl = fun i => (bodyN es i).length := ⟨_, rfl⟩
  have HBE : Hid (∀ i, (bodyN es i).length = bl i) := Lib.hid fun i => by rw [hbl]
  clear hbl
  simp only [HBE.out] at HPL HRW ⊢
  go_enter Try.func35, Try.ntmps35
  go_upto_region 2 with (fail)
  obtain ⟨w1, hw1⟩ : ∃ w1, w1 = ((((w.alloc (.cells #[.slice xa c.length xc] 23)).alloc (.cells #[.slice ya t.length yc] 23)).alloc (.cells #[.string u, .int .i64 s, .int .i64 k] 25)).alloc (.cells #[.func (.func 46) #[] #[.pointer (some ⟨w.heap.size + 1, 0, none⟩)]] 75)) := ⟨_, rfl⟩
  rw [← hw1]
  have hB1 : Below w.heap.size w w1 := by rw [hw1]; exact (((Below.refl _ _).alloc (Nat.le_refl _) _).alloc (by simp) _).alloc (by simp; omega) _ |>.alloc (by simp; omega) _
  have b0 : w1.heap[w.heap.size]? = some (.cells #[.slice xa c.length xc] 23 (0, 0)) := by rw [hw1]; exact alloc_keep (alloc_keep (alloc_keep (heap_alloc_new w _)))
  have b1 : w1.heap[w.heap.size + 1]? = some (.cells #[.slice ya t.length yc] 23 (0, 0)) := by rw [hw1]; exact alloc_keep (alloc_keep (heap_new2 w _ _))
  have b2 : w1.heap[w.heap.size + 1 + 1]? = some (.cells #[.string u, .int .i64 s, .int .i64 k] 25 (0, 0)) := by rw [hw1]; exact alloc_keep (heap_new3 w _ _ _)
  have b3 : w1.heap[w.heap.size + 1 + 1 + 1]? = some (.cells #[.func (.func 46) #[] #[.pointer (some ⟨w.heap.size + 1, 0, none⟩)]] 75 (0, 0)) := by rw [hw1]; exact heap_new4 w _ _ _ _
  have B0 := Lib.hid b0
  have B1 := Lib.hid b1
  have B2 := Lib.hid b2
  have B3 := Lib.hid b3
  have HB1 := Lib.hid hB1
  have c1 := blk_cell (i := 0) b1
  replace c1 : w1.cell? ⟨w.heap.size + 1, 0, none⟩ = some (.slice ya t.length yc) := c1
  clear hw1 b0 b1 b2 b3 hB1
  have HSE := Lib.hid (search_any N (by omega) (fun i => decide (0 ≤ (es.getD (4 * i) Ent.none_).cmp ⟨u, s, k, ⟨#[]⟩⟩)) 48 #[.pointer (some ⟨w.heap.size, 0, none⟩), .pointer (some ⟨w.heap.size + 1 + 1 + 1, 0, none⟩), .pointer (some ⟨w.heap.size + 1 + 1, 0, none⟩)] enters_low w1 fun i wz hi hz =>
    low_any c t xa ya _ xc yc w.heap.size (w.heap.size + 1) (w.heap.size + 1 + 1 + 1) (w.heap.size + 1 + 1) i u s k wz hu ((hz.block _ (blk_lt B0.out)).trans B0.out) ((hz.block _ (blk_lt B3.out)).trans B3.out) ((hz.block _ (blk_lt B1.out)).trans B1.out) ((hz.block _ (blk_lt B2.out)).trans B2.out)
      ((HX.out.below HB1.out (Nat.le_refl _)).below hz (Nat.le_refl _)) ((HY.out.below HB1.out (Nat.le_refl _)).below hz (Nat.le_refl _)) (by have := HT.out; omega) _ _ (HSU.out _ (HN.out i hi)) (by rw [HPL.out i (HN.out i hi)]; exact HRW.out i (HN.out i hi)))
  go_upto_region 3 with (go_at_call 47; (refine HSE.out.mono ?_); rintro e w2 ⟨m, hm1, rfl, hm2, _, hb2⟩; have HB2 := Lib.hid hb2; clear hb2)
  have k3 : w2.cell? ⟨w.heap.size + 1 + 1 + 1, 0, none⟩ = some (.func (.func 46) #[] #[.pointer (some ⟨w.heap.size + 1, 0, none⟩)]) := blk_cell (i := 0) ((HB2.out.block _ (blk_lt B3.out)).trans B3.out)
  have hen := enters_whole
  unfold Enters at hen
  have HWH : Hid (∀ i : Nat, i < N → Calls Try.prog 46 #[.int .i64 (i : Int), .pointer (some ⟨w.heap.size + 1, 0, none⟩)] w2 fun e w' => e = .returned (.int .i64 ((bl (4 * i) : Nat) : Int)) ∧ Below w2.heap.size w2 w') := Lib.hid fun i hi => by
    have h := whole_any t ya yc (w.heap.size + 1) i w2 ((HB2.out.block _ (blk_lt B1.out)).trans B1.out) ((HY.out.below HB1.out (Nat.le_refl _)).below HB2.out (Nat.le_refl _)) (by have := HT.out; omega)
    rw [HPL.out i (HN.out i hi)] at h
    exact h
  rcases m with _ | j
  · have HW0 : Hid (Calls Try.prog 46 #[.int .i64 0, .pointer (some ⟨w.heap.size + 1, 0, none⟩)] w2 fun e w' => e = .returned (.int .i64 ((bl 0 : Nat) : Int)) ∧ Below w2.heap.size w2 w') := Lib.hid (HWH.out 0 (by omega))
    clear HSE HWH
    go_wp2_with (go_at_fn 46; (refine HW0.out.mono ?_); rintro e w3 ⟨rfl, hb3⟩)
    go_ret
    exact ⟨0, by have := HN.out 0 (by omega); omega, rfl, fun a ha => by omega, (HB1.out.trans (HB2.out.mono HB1.out.size)).trans (hb3.mono (Nat.le_trans HB1.out.size HB2.out.size))⟩
  · have hjN : j < N := by omega
    have HWJ := Lib.hid (HWH.out j hjN)
    have HLW : Hid ((es.getD (4 * j) Ent.none_).cmp ⟨u, s, k, ⟨#[]⟩⟩ < 0) := Lib.hid (by have := hm2 (by omega); simpa using this)
    have hj0 : (0 : Int) ≤ (j : Int) := by omega
    have hj1 : IntKind.i64.wrap (((j + 1 : Nat) : Int) - 1) = (j : Int) := by rw [IntWalk.i64_in _ (by omega)]; omega
    clear HSE HWH hm2
    go_wp2_with (go_at_fn 46; (refine HWJ.out.mono ?_); rintro e w3 ⟨rfl, hb3⟩)
    go_ret
    refine ⟨j, HN.out j hjN, rfl, fun a ha => ?_, (HB1.out.trans (HB2.out.mono HB1.out.size)).trans (hb3.mono (Nat.le_trans HB1.out.size HB2.out.size))⟩
    exact cmp_trans (HUP.out a (4 * j) ha (HN.out j hjN)) HLW.out
end Go.Proofs.Ytdcjfgbngmdkfaa
