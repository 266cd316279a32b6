/-
  The list with towers: an entry is added, or refused.
-/
import Derived.Test.YtjiefffmcohcbaaMemPush
namespace Go.Proofs.Ytjiefffmcohcbaa
open Go.RowKit

theorem mem_nv {g : GM} {m : MS} {wz : World} {p : Nat} {v : Value} (h : wz.heap[p]? = some (.cells (memCells g m) 53 (0, 0))) (hv : g.nv = v) : wz.cell? ⟨p, 12, none⟩ = some v := by
  rw [blk_cell h, ← hv]
  unfold memCells
  rw [List.getElem?_toArray, List.getElem?_append_right (by rw [lkCells_len]; omega), lkCells_len]; rfl

theorem one_node (w5 : World) (e : Ent) (t : Nat) : Rd ((w5.alloc (.cells (zeroC t) 3)).alloc (.cells #[.string e.u, .int .i64 e.s, .int .i64 e.k, .string e.v, .slice (some ⟨w5.heap.size, 0, none⟩) t t] 59)) 5 (.slice (some ⟨w5.heap.size + 1, 0, none⟩) 1 1) 1 (newC e w5.heap.size t) := by
  refine ⟨_, 1, rfl, Nat.le_refl _, by unfold maxLen; omega, rfl, .inr ⟨w5.heap.size + 1, 0, rfl, by simp, fun j u hj => ?_⟩⟩
  rw [Nat.zero_add, blk_cell (heap_new2 w5 _ _)]
  simpa [newC, Ent.cells] using hj

/-- What an Add makes of it. -/
def AddTo (g : GM) (p : Nat) (m : MS) (e : Ent) (w : World) (r : Ending) (w' : World) : Prop :=
  r = .returned (.bool (addB e m.all)) ∧ ∃ g' m', MemAt g' w' p m' ∧ m'.Ok ∧ m'.all = addL e m.all ∧ Touch g.F w w' ∧ Grows g.F g'.F w w'

theorem addTo_no {g : GM} {p : Nat} {m : MS} {e : Ent} {w w' : World} (hm : MemAt g w p m) (hok : m.Ok) (hb : Below w.heap.size w w') (hn : addB e m.all = false) : AddTo g p m e w (.returned (.bool false)) w' :=
  ⟨by rw [hn], g, m, hm.below hb, hok, by unfold addL; rw [hn]; rfl, Touch.of_below hb, Grows.refl _ _ _⟩

theorem height_ok (hgt : Int) : ∃ t : Nat, 1 ≤ t ∧ t ≤ 12 ∧ min (max hgt 1) 12 = (t : Int) := by
  refine ⟨(min (max hgt 1) 12).toNat, ?_, ?_, ?_⟩ <;> omega

set_option maxRecDepth 100000 in
set_option maxHeartbeats 4000000 in
theorem add_no {g : GM} {w : World} {p : Nat} {m : MS} (hm : MemAt g w p m) (hok : m.Ok) (e : Ent) (he : e.fits) (hgt : Int) (hmay : e.may = false) :
    Calls Try.prog 9 #[.pointer (some ⟨p, 0, none⟩), entV e, .int .i64 hgt] w (AddTo g p m e w) := by
  have hM := mayE_any e.u e.s e.k e.v he.1 he.2.1
  have hM1 : mayE e.u.data.toList e.s e.k e.v.data.toList = false := hmay
  rw [hM1] at hM
  have HMAY := Lib.hid hM
  have HM := Lib.hid hm
  have HOK := Lib.hid hok
  have HN := Lib.hid (show addB e m.all = false by unfold addB; rw [hmay]; rfl)
  clear hM hM1 hm hok hmay he
  go_enter Try.func9, Try.ntmps9
  go_wp2_with (go_at_call 20; (refine (HMAY.out _).mono ?_); rintro r w1 ⟨rfl, hb1⟩; (have hbw1 := belowT ((Below.refl _ _).alloc (Nat.le_refl _) _) hb1); (have hs1 := (hb1.block w.heap.size (by simp)).trans (heap_alloc_new w (.cells #[.string e.u, .int .i64 e.s, .int .i64 e.k, .string e.v] 34))); (have HB1 := Lib.hid hbw1); (have HS1 := Lib.hid hs1); (have z10 := blk_cell (i := 0) hs1); (have z11 := blk_cell (i := 1) hs1); (have z12 := blk_cell (i := 2) hs1); (have z13 := blk_cell (i := 3) hs1); clear hbw1 hs1 hb1)
  go_ret
  exact addTo_no HM.out HOK.out HB1.out HN.out

theorem not_in {e x : Ent} {l r : List Ent} (h : highE e l = x :: r) (hu : x.u = e.u) (hs : x.s = e.s) (hk : x.k = e.k) : isIn e l = true := by
  unfold isIn
  rw [h]
  simp only [decide_eq_true_eq]
  rw [cmp_zero]
  exact ⟨hu, hs, hk⟩

set_option maxRecDepth 100000 in
set_option maxHeartbeats 8000000 in
theorem add_there {g : GM} {w : World} {p : Nat} {m : MS} (hm : MemAt g w p m) (hok : m.Ok) (e : Ent) (he : e.fits) (hgt : Int) (hmay : e.may = true) (a : Nat) (r : List Nat) (h1 : m.high e = a :: r) (h2 : highE e m.all = m.ent a :: r.map m.ent)
    (xu : ByteArray) (xs xk : Int) (xv : ByteArray) (hx : m.ent a = ⟨xu, xs, xk, xv⟩) (hu : xu = e.u) (hs : xs = e.s) (hk : xk = e.k) :
    Calls Try.prog 9 #[.pointer (some ⟨p, 0, none⟩), entV e, .int .i64 hgt] w (AddTo g p m e w) := by
  have hM := mayE_any e.u e.s e.k e.v he.1 he.2.1
  have hM1 : mayE e.u.data.toList e.s e.k e.v.data.toList = true := hmay
  rw [hM1] at hM
  have HN := Lib.hid (show addB e m.all = false by unfold addB; rw [not_in h2 (by rw [hx]; exact hu) (by rw [hx]; exact hs) (by rw [hx]; exact hk)]; simp)
  have hA := ahead_all hm hok e he
  have hfst := hok.first e
  have hlk := hok.linkIn e (h := 0) (i := (m.lowAt e 0).length) (by omega) (by rw [List.length_append]; omega)
  rw [← MS.path_nth] at hlk
  have hmem : ∀ a ∈ m.high e, 1 ≤ a ∧ a ≤ m.es.length := fun a ha => hok.mem a (by rw [← MS.low_high m e]; simp [ha])
  rw [h1] at hfst
  obtain ⟨n1, n2⟩ := hmem a (by rw [h1]; simp)
  obtain ⟨lb, hlb⟩ := link_all hm hok hlk hfst
  have hE := entry_all hm n1 n2 _ hx
  simp only [List.headD_cons] at hlb
  unfold retPath at hA
  have HM := Lib.hid hm
  have HOK := Lib.hid hok
  clear hM1 hlk hfst hmem hm hok hmay he h1 h2 hx n2
  generalize m.path e 0 = q0 at *
  generalize m.path e 1 = q1 at *
  generalize m.path e 2 = q2 at *
  generalize m.path e 3 = q3 at *
  generalize m.path e 4 = q4 at *
  generalize m.path e 5 = q5 at *
  generalize m.path e 6 = q6 at *
  generalize m.path e 7 = q7 at *
  generalize m.path e 8 = q8 at *
  generalize m.path e 9 = q9 at *
  generalize m.path e 10 = q10 at *
  generalize m.path e 11 = q11 at *
  have hanz : ¬ a = 0 := by omega
  have hanz' : (a : Int) ≠ 0 := by omega
  rw [hu, hs, hk] at hE
  clear hu hs hk
  have HMAY := Lib.hid hM
  have HL := Lib.hid hlb
  have HA := Lib.hid hA
  have HEA := Lib.hid hE
  clear hM hlb hA hE n1
  go_enter Try.func9, Try.ntmps9
  go_wp2_with (first | (go_at_call 20; (refine (HMAY.out _).mono ?_); rintro r w1 ⟨rfl, hb1⟩; (have hbw1 := belowT ((Below.refl _ _).alloc (Nat.le_refl _) _) hb1); (have hs1 := (hb1.block w.heap.size (by simp)).trans (heap_alloc_new w (.cells #[.string e.u, .int .i64 e.s, .int .i64 e.k, .string e.v] 34))); (have HB1 := Lib.hid hbw1); (have HS1 := Lib.hid hs1); (have z10 := blk_cell (i := 0) hs1); (have z11 := blk_cell (i := 1) hs1); (have z12 := blk_cell (i := 2) hs1); (have z13 := blk_cell (i := 3) hs1); clear hbw1 hs1 hb1) | (go_at_call 21; (refine (HA.out w1 HB1.out).mono ?_); rintro r w2 ⟨rfl, hb2⟩; (have hbw2 := belowT HB1.out hb2); (have hs2 := (hb2.block w.heap.size (blk_lt HS1.out)).trans HS1.out); (have HB2 := Lib.hid hbw2); (have HS2 := Lib.hid hs2); clear hbw2 hs2 hb2) | (go_at_call 22; (obtain ⟨wB, hwB⟩ : ∃ wB, wB = w2.alloc (.cells #[.int .i64 (q0 : Int), .int .i64 (q1 : Int), .int .i64 (q2 : Int), .int .i64 (q3 : Int), .int .i64 (q4 : Int), .int .i64 (q5 : Int), .int .i64 (q6 : Int), .int .i64 (q7 : Int), .int .i64 (q8 : Int), .int .i64 (q9 : Int), .int .i64 (q10 : Int), .int .i64 (q11 : Int)] 50) := ⟨_, rfl⟩); rw [← hwB]; (have hbB : Below w.heap.size w wB := by rw [hwB]; exact HB2.out.alloc HB2.out.size _); (have hsB : wB.heap[w.heap.size]? = some (.cells #[.string e.u, .int .i64 e.s, .int .i64 e.k, .string e.v] 34 (0, 0)) := by rw [hwB]; exact (Below.heap_alloc _ _ _ (blk_lt HS2.out)).trans HS2.out); (have hpB : wB.heap[w2.heap.size]? = some (.cells #[.int .i64 (q0 : Int), .int .i64 (q1 : Int), .int .i64 (q2 : Int), .int .i64 (q3 : Int), .int .i64 (q4 : Int), .int .i64 (q5 : Int), .int .i64 (q6 : Int), .int .i64 (q7 : Int), .int .i64 (q8 : Int), .int .i64 (q9 : Int), .int .i64 (q10 : Int), .int .i64 (q11 : Int)] 50 (0, 0)) := by rw [hwB]; exact heap_alloc_new w2 _); (obtain ⟨hqB, hclB⟩ := HL.out wB hbB); (have HBB := Lib.hid hbB); (have HSB := Lib.hid hsB); (have HPB := Lib.hid hpB); (have zB0 := blk_cell (i := 0) hsB); (have zB1 := blk_cell (i := 1) hsB); (have zB2 := blk_cell (i := 2) hsB); (have zB3 := blk_cell (i := 3) hsB); (refine hclB.mono ?_); clear hclB hwB hbB hsB hpB; rintro r w9 ⟨rfl, rfl⟩))
  have hE5 := HEA.out wB.drew HBB.out.drew
  have HE5 := Lib.hid hE5
  clear hE5
  refine wp_region_plan [(true, 0), (true, 1), (true, 2), (true, 3), (true, 4), (true, 7), (true, 8), (false, 5), (true, 6), (true, 9), (true, 10)] (by kernel_rfl) (by kernel_rfl) (by kernel_rfl) (by kernel_rfl) (by kernel_rfl) ?_
  simp only [planO, List.drop_succ_cons, List.drop_zero]
  refine PlanO.take (v := ?vb0) (by kernel_rfl) ?yb0 ?rb0
  case yb0 => (intro wz hz; go_simp; try with_reducible rfl)
  (try simp only [Act.put, List.setIfInBounds_toArray, List.set_cons_zero, List.set_cons_succ])
  refine PlanO.take (v := .bool true) (by kernel_rfl) ?yb1 ?rb1
  case yb1 => (intro wz hz; go_simp; try simp [hanz])
  (try simp only [Act.put, List.setIfInBounds_toArray, List.set_cons_zero, List.set_cons_succ])
  refine PlanO.take (v := ?vb2) (by kernel_rfl) ?yb2 ?rb2
  case yb2 => (intro wz hz; go_simp; try with_reducible rfl)
  (try simp only [Act.put, List.setIfInBounds_toArray, List.set_cons_zero, List.set_cons_succ])
  refine PlanO.take (v := ?vb3) (by kernel_rfl) ?yb3 ?rb3
  case yb3 => (intro wz hz; go_simp; try with_reducible rfl)
  (try simp only [Act.put, List.setIfInBounds_toArray, List.set_cons_zero, List.set_cons_succ])
  refine PlanO.take (v := ?vb4) (by kernel_rfl) ?yb4 ?rb4
  case yb4 => (intro wz hz; go_simp; try with_reducible rfl)
  (try simp only [Act.put, List.setIfInBounds_toArray, List.set_cons_zero, List.set_cons_succ])
  refine PlanO.take (v := ?vb7) (by kernel_rfl) ?yb7 ?rb7
  case yb7 => (intro wz hz; go_simp; try with_reducible rfl)
  (try simp only [Act.put, List.setIfInBounds_toArray, List.set_cons_zero, List.set_cons_succ])
  refine PlanO.take (v := ?vb8) (by kernel_rfl) ?yb8 ?rb8
  case yb8 => (intro wz hz; have c0 := Ext.at_ hz zB0; have c1 := Ext.at_ hz zB1; have c2 := Ext.at_ hz zB2; go_simp; try with_reducible rfl)
  (try simp only [Act.put, List.setIfInBounds_toArray, List.set_cons_zero, List.set_cons_succ])
  refine PlanO.exec (fun K hK => ?_)
  go_simp
  go_at_call 23
  refine HE5.out.mono ?_
  rintro r u1 ⟨rfl, hb3⟩
  have hE1 : Ext wB.drew u1 := hb3
  go_wp2_with fail
  refine hK.out _ _ hb3 ?_
  clear hK K
  (try simp only [Act.put, List.setIfInBounds_toArray, List.set_cons_zero, List.set_cons_succ])
  refine PlanO.take (v := ?vb6) (by kernel_rfl) ?yb6 ?rb6
  case yb6 => (intro wz hz; have hfk := run_field_key e.u e.s e.k xv wz; go_simp; try with_reducible rfl)
  (try simp only [Act.put, List.setIfInBounds_toArray, List.set_cons_zero, List.set_cons_succ])
  refine PlanO.take (v := .bool true) (by kernel_rfl) ?yb9 ?rb9
  case yb9 => (intro wz hz; go_simp; try with_reducible rfl)
  (try simp only [Act.put, List.setIfInBounds_toArray, List.set_cons_zero, List.set_cons_succ])
  refine PlanO.take (v := ?vb10) (by kernel_rfl) ?yb10 ?rb10
  case yb10 => (intro wz hz; go_simp; try with_reducible rfl)
  (try simp only [Act.put, List.setIfInBounds_toArray, List.set_cons_zero, List.set_cons_succ])
  refine PlanO.done (NoPanic.normal ?_)
  go_wp2
  go_ret
  exact addTo_no HM.out HOK.out (belowT HBB.out.drew hb3) HN.out

/-- What is laid ahead of the walk of an entry that is taken up. -/
theorem add_facts {g : GM} {w : World} {p : Nat} {m : MS} (_hm : MemAt g w p m) (hok : m.Ok) (e : Ent) (hlen : m.es.length < 100000) (hmay : e.may = true) (hin : isIn e m.all = false) (t : Nat) (ht1 : 1 ≤ t) (ht2 : t ≤ 12) :
    true = addB e m.all ∧ (m.add e t).Ok ∧ (m.add e t).all = addL e m.all ∧ e.u.size ≤ 64 ∧ e.v.size ≤ 512 ∧ m.sz ≤ 57600000 := by
  have ha : addB e m.all = true := by unfold addB; rw [hmay, hin]; rfl
  have hk := may_kind hmay
  have hsz := may_size hok.all_may
  have hl : m.all.length = m.es.length := by unfold MS.all; rw [List.length_map, hok.len]
  refine ⟨ha.symm, hok.add hmay hin ht1 ht2, ?_, hk.2.1, hk.2.2, ?_⟩
  · rw [hok.all_add]; unfold addL; rw [ha]; rfl
  · rw [hok.size]; omega

set_option maxRecDepth 100000 in
set_option maxHeartbeats 16000000 in
theorem add_last {g : GM} {w : World} {p : Nat} {m : MS} (hm : MemAt g w p m) (hok : m.Ok) (e : Ent) (he : e.fits) (hgt : Int) (hlen : m.es.length < 100000) (hmay : e.may = true) (h1 : m.high e = []) (h2 : highE e m.all = []) :
    Calls Try.prog 9 #[.pointer (some ⟨p, 0, none⟩), entV e, .int .i64 hgt] w (AddTo g p m e w) := by
  have hM := mayE_any e.u e.s e.k e.v he.1 he.2.1
  have hM1 : mayE e.u.data.toList e.s e.k e.v.data.toList = true := hmay
  rw [hM1] at hM
  have hin : isIn e m.all = false := by unfold isIn; rw [h2]
  have hA := ahead_all hm hok e he
  have hfst := hok.first e
  have hlk := hok.linkIn e (h := 0) (i := (m.lowAt e 0).length) (by omega) (by rw [List.length_append]; omega)
  rw [← MS.path_nth] at hlk
  have hmem : ∀ a ∈ m.high e, 1 ≤ a ∧ a ≤ m.es.length := fun a ha => hok.mem a (by rw [← MS.low_high m e]; simp [ha])
  rw [h1] at hfst
  obtain ⟨lb, hlb⟩ := link_all hm hok hlk hfst
  obtain ⟨t, ht1, ht2, hT⟩ := height_ok hgt
  obtain ⟨hadd, hok2, hall, hu64, hv512, hszm⟩ := add_facts hm hok e hlen hmay hin t ht1 ht2
  obtain ⟨v, hv⟩ : ∃ v, m.es.length + 1 = v := ⟨_, rfl⟩
  have hent : ∀ (g9 : GM) (wC : World), MemAt g9 wC p (m.mid e t 0) → _ := fun g9 wC h => enter_at hok e ht1 ht2 (by omega) h v hv
  rw [pathC_zero] at hent
  unfold retPath at hA
  obtain ⟨na, nc, hnv, _, _⟩ := rd_of_own hm.nr
  have hnp : g.nv.ownBlock ≠ some p := fun h => by have := hm.onv p h; rw [hm.rol] at this; cases this
  have HM := Lib.hid hm
  have HOK := Lib.hid hok
  clear hM1 hlk hfst hmem hm hok hmay he h1 h2 hin
  generalize m.path e 0 = q0 at *
  generalize m.path e 1 = q1 at *
  generalize m.path e 2 = q2 at *
  generalize m.path e 3 = q3 at *
  generalize m.path e 4 = q4 at *
  generalize m.path e 5 = q5 at *
  generalize m.path e 6 = q6 at *
  generalize m.path e 7 = q7 at *
  generalize m.path e 8 = q8 at *
  generalize m.path e 9 = q9 at *
  generalize m.path e 10 = q10 at *
  generalize m.path e 11 = q11 at *
  have HMAY := Lib.hid hM
  have HL := Lib.hid hlb
  have HA := Lib.hid hA
  have HENT := Lib.hid hent
  have HADD := Lib.hid hadd
  have HOK2 := Lib.hid hok2
  have HALL := Lib.hid hall
  have HNV := Lib.hid hnv
  have HNP := Lib.hid hnp
  have HV := Lib.hid hv
  have HT := Lib.hid hT
  clear hM hlb hA hent hadd hok2 hall hnv hnp hv hT
  go_enter Try.func9, Try.ntmps9
  go_wp2_with (first | (go_at_call 20; (refine (HMAY.out _).mono ?_); rintro r w1 ⟨rfl, hb1⟩; (have hbw1 := belowT ((Below.refl _ _).alloc (Nat.le_refl _) _) hb1); (have hs1 := (hb1.block w.heap.size (by simp)).trans (heap_alloc_new w (.cells #[.string e.u, .int .i64 e.s, .int .i64 e.k, .string e.v] 34))); (have HB1 := Lib.hid hbw1); (have HS1 := Lib.hid hs1); (have z10 := blk_cell (i := 0) hs1); (have z11 := blk_cell (i := 1) hs1); (have z12 := blk_cell (i := 2) hs1); (have z13 := blk_cell (i := 3) hs1); clear hbw1 hs1 hb1) | (go_at_call 21; (refine (HA.out w1 HB1.out).mono ?_); rintro r w2 ⟨rfl, hb2⟩; (have hbw2 := belowT HB1.out hb2); (have hs2 := (hb2.block w.heap.size (blk_lt HS1.out)).trans HS1.out); (have HB2 := Lib.hid hbw2); (have HS2 := Lib.hid hs2); clear hbw2 hs2 hb2) | (go_at_call 22; (obtain ⟨wB, hwB⟩ : ∃ wB, wB = w2.alloc (.cells #[.int .i64 (q0 : Int), .int .i64 (q1 : Int), .int .i64 (q2 : Int), .int .i64 (q3 : Int), .int .i64 (q4 : Int), .int .i64 (q5 : Int), .int .i64 (q6 : Int), .int .i64 (q7 : Int), .int .i64 (q8 : Int), .int .i64 (q9 : Int), .int .i64 (q10 : Int), .int .i64 (q11 : Int)] 50) := ⟨_, rfl⟩); rw [← hwB]; (have hbB : Below w.heap.size w wB := by rw [hwB]; exact HB2.out.alloc HB2.out.size _); (have hsB : wB.heap[w.heap.size]? = some (.cells #[.string e.u, .int .i64 e.s, .int .i64 e.k, .string e.v] 34 (0, 0)) := by rw [hwB]; exact (Below.heap_alloc _ _ _ (blk_lt HS2.out)).trans HS2.out); (have hpB : wB.heap[w2.heap.size]? = some (.cells #[.int .i64 (q0 : Int), .int .i64 (q1 : Int), .int .i64 (q2 : Int), .int .i64 (q3 : Int), .int .i64 (q4 : Int), .int .i64 (q5 : Int), .int .i64 (q6 : Int), .int .i64 (q7 : Int), .int .i64 (q8 : Int), .int .i64 (q9 : Int), .int .i64 (q10 : Int), .int .i64 (q11 : Int)] 50 (0, 0)) := by rw [hwB]; exact heap_alloc_new w2 _); (obtain ⟨hqB, hclB⟩ := HL.out wB hbB); (have HBB := Lib.hid hbB); (have HSB := Lib.hid hsB); (have HPB := Lib.hid hpB); (have zB0 := blk_cell (i := 0) hsB); (have zB1 := blk_cell (i := 1) hsB); (have zB2 := blk_cell (i := 2) hsB); (have zB3 := blk_cell (i := 3) hsB); (refine hclB.mono ?_); clear hclB hwB hbB hsB hpB; rintro r w9 ⟨rfl, rfl⟩))
  go_quiet (fail)
  obtain ⟨w3, hw3⟩ : ∃ w3, w3 = wB.drewN nq := ⟨_, rfl⟩
  rw [← hw3]
  have hb5 : Below w.heap.size w w3 := by rw [hw3]; exact below_drewN HBB.out nq
  have hs5 : w3.heap[w.heap.size]? = some (.cells #[.string e.u, .int .i64 e.s, .int .i64 e.k, .string e.v] 34 (0, 0)) := by rw [hw3]; exact HSB.out
  have hp5 : w3.heap[w2.heap.size]? = some (.cells #[.int .i64 (q0 : Int), .int .i64 (q1 : Int), .int .i64 (q2 : Int), .int .i64 (q3 : Int), .int .i64 (q4 : Int), .int .i64 (q5 : Int), .int .i64 (q6 : Int), .int .i64 (q7 : Int), .int .i64 (q8 : Int), .int .i64 (q9 : Int), .int .i64 (q10 : Int), .int .i64 (q11 : Int)] 50 (0, 0)) := by rw [hw3]; exact HPB.out
  clear hw3
  go_wp2
  obtain ⟨w5, hw5⟩ : ∃ w5, w5 = w3.drew := ⟨_, rfl⟩
  have hbw5 : Below w.heap.size w w5 := by rw [hw5]; exact hb5.drew
  have h5s : w5.heap[w.heap.size]? = some (.cells #[.string e.u, .int .i64 e.s, .int .i64 e.k, .string e.v] 34 (0, 0)) := by rw [hw5]; exact hs5
  have h5q : w5.heap[w2.heap.size]? = some (.cells #[.int .i64 (q0 : Int), .int .i64 (q1 : Int), .int .i64 (q2 : Int), .int .i64 (q3 : Int), .int .i64 (q4 : Int), .int .i64 (q5 : Int), .int .i64 (q6 : Int), .int .i64 (q7 : Int), .int .i64 (q8 : Int), .int .i64 (q9 : Int), .int .i64 (q10 : Int), .int .i64 (q11 : Int)] 50 (0, 0)) := by rw [hw5]; exact hp5
  have hm5 := HM.out.below hbw5
  have Hw5 := Lib.hid hw5
  have HB5 := Lib.hid hbw5
  have H5S := Lib.hid h5s
  have H5Q := Lib.hid h5q
  have H5P := Lib.hid hm5.blk
  have HM5 := Lib.hid hm5
  clear hw5 hbw5 h5s h5q hm5 hb5 hs5 hp5
  have hmk := run_make_ints t ht2
  refine wp_region_two (fun wz => wz.heap[p]? = some (.cells (memCells g m) 53 (0, 0)) ∧ wz.heap[w.heap.size]? = some (.cells #[.string e.u, .int .i64 e.s, .int .i64 e.k, .string e.v] 34 (0, 0))) (fun _ => True) [(1, 0), (0, 1), (0, 2), (0, 3), (0, 4), (0, 5), (0, 6), (0, 7), (0, 8), (2, 9), (0, 10), (2, 11), (3, 12), (1, 13), (1, 14), (3, 15)] [12, 15] (by kernel_rfl) (by kernel_rfl) (by kernel_rfl) (by kernel_rfl) (by kernel_rfl) (by rw [← Hw5.out]; exact ⟨H5P.out, H5S.out⟩) trivial ?_
  simp only [planT, List.drop_succ_cons, List.drop_zero]
  rw [← Hw5.out]
  refine PlanT.take1 (v := ?vSc0) (by kernel_rfl) ?ySc0 ?rSc0
  case ySc0 => (intro wz hz; go_simp; try with_reducible rfl)
  (try simp only [Act.put, List.setIfInBounds_toArray, List.set_cons_zero, List.set_cons_succ])
  refine PlanT.take0 (v := ?vSc1) (by kernel_rfl) ?ySc1 ?rSc1
  case ySc1 => (intro wz hz; obtain ⟨z1, z2⟩ := hz; have q12 := mem_nv z1 HNV.out; have b0 : wz.cell? ⟨w.heap.size, 0, none⟩ = some (.string e.u) := blk_cell z2; have b1 : wz.cell? ⟨w.heap.size, 1, none⟩ = some (.int .i64 e.s) := blk_cell z2; have b2 : wz.cell? ⟨w.heap.size, 2, none⟩ = some (.int .i64 e.k) := blk_cell z2; have b3 : wz.cell? ⟨w.heap.size, 3, none⟩ = some (.string e.v) := blk_cell z2; go_simp; try with_reducible rfl)
  (try simp only [Act.put, List.setIfInBounds_toArray, List.set_cons_zero, List.set_cons_succ])
  refine PlanT.take0 (v := ?vSc2) (by kernel_rfl) ?ySc2 ?rSc2
  case ySc2 => (intro wz hz; obtain ⟨z1, z2⟩ := hz; have q12 := mem_nv z1 HNV.out; have b0 : wz.cell? ⟨w.heap.size, 0, none⟩ = some (.string e.u) := blk_cell z2; have b1 : wz.cell? ⟨w.heap.size, 1, none⟩ = some (.int .i64 e.s) := blk_cell z2; have b2 : wz.cell? ⟨w.heap.size, 2, none⟩ = some (.int .i64 e.k) := blk_cell z2; have b3 : wz.cell? ⟨w.heap.size, 3, none⟩ = some (.string e.v) := blk_cell z2; go_simp; try with_reducible rfl)
  (try simp only [Act.put, List.setIfInBounds_toArray, List.set_cons_zero, List.set_cons_succ])
  refine PlanT.take0 (v := ?vSc3) (by kernel_rfl) ?ySc3 ?rSc3
  case ySc3 => (intro wz hz; obtain ⟨z1, z2⟩ := hz; have q12 := mem_nv z1 HNV.out; have b0 : wz.cell? ⟨w.heap.size, 0, none⟩ = some (.string e.u) := blk_cell z2; have b1 : wz.cell? ⟨w.heap.size, 1, none⟩ = some (.int .i64 e.s) := blk_cell z2; have b2 : wz.cell? ⟨w.heap.size, 2, none⟩ = some (.int .i64 e.k) := blk_cell z2; have b3 : wz.cell? ⟨w.heap.size, 3, none⟩ = some (.string e.v) := blk_cell z2; go_simp; try with_reducible rfl)
  (try simp only [Act.put, List.setIfInBounds_toArray, List.set_cons_zero, List.set_cons_succ])
  refine PlanT.take0 (v := ?vSc4) (by kernel_rfl) ?ySc4 ?rSc4
  case ySc4 => (intro wz hz; obtain ⟨z1, z2⟩ := hz; have q12 := mem_nv z1 HNV.out; have b0 : wz.cell? ⟨w.heap.size, 0, none⟩ = some (.string e.u) := blk_cell z2; have b1 : wz.cell? ⟨w.heap.size, 1, none⟩ = some (.int .i64 e.s) := blk_cell z2; have b2 : wz.cell? ⟨w.heap.size, 2, none⟩ = some (.int .i64 e.k) := blk_cell z2; have b3 : wz.cell? ⟨w.heap.size, 3, none⟩ = some (.string e.v) := blk_cell z2; go_simp; try with_reducible rfl)
  (try simp only [Act.put, List.setIfInBounds_toArray, List.set_cons_zero, List.set_cons_succ])
  refine PlanT.take0 (v := ?vSc5) (by kernel_rfl) ?ySc5 ?rSc5
  case ySc5 => (intro wz hz; obtain ⟨z1, z2⟩ := hz; have q12 := mem_nv z1 HNV.out; have b0 : wz.cell? ⟨w.heap.size, 0, none⟩ = some (.string e.u) := blk_cell z2; have b1 : wz.cell? ⟨w.heap.size, 1, none⟩ = some (.int .i64 e.s) := blk_cell z2; have b2 : wz.cell? ⟨w.heap.size, 2, none⟩ = some (.int .i64 e.k) := blk_cell z2; have b3 : wz.cell? ⟨w.heap.size, 3, none⟩ = some (.string e.v) := blk_cell z2; go_simp; try with_reducible rfl)
  (try simp only [Act.put, List.setIfInBounds_toArray, List.set_cons_zero, List.set_cons_succ])
  refine PlanT.take0 (v := ?vSc6) (by kernel_rfl) ?ySc6 ?rSc6
  case ySc6 => (intro wz hz; obtain ⟨z1, z2⟩ := hz; have q12 := mem_nv z1 HNV.out; have b0 : wz.cell? ⟨w.heap.size, 0, none⟩ = some (.string e.u) := blk_cell z2; have b1 : wz.cell? ⟨w.heap.size, 1, none⟩ = some (.int .i64 e.s) := blk_cell z2; have b2 : wz.cell? ⟨w.heap.size, 2, none⟩ = some (.int .i64 e.k) := blk_cell z2; have b3 : wz.cell? ⟨w.heap.size, 3, none⟩ = some (.string e.v) := blk_cell z2; go_simp; try with_reducible rfl)
  (try simp only [Act.put, List.setIfInBounds_toArray, List.set_cons_zero, List.set_cons_succ])
  refine PlanT.take0 (v := .int .i64 (max hgt 1)) (by kernel_rfl) ?ySc7 ?rSc7
  case ySc7 => (intro wz hz; obtain ⟨z1, z2⟩ := hz; have q12 := mem_nv z1 HNV.out; have b0 : wz.cell? ⟨w.heap.size, 0, none⟩ = some (.string e.u) := blk_cell z2; have b1 : wz.cell? ⟨w.heap.size, 1, none⟩ = some (.int .i64 e.s) := blk_cell z2; have b2 : wz.cell? ⟨w.heap.size, 2, none⟩ = some (.int .i64 e.k) := blk_cell z2; have b3 : wz.cell? ⟨w.heap.size, 3, none⟩ = some (.string e.v) := blk_cell z2; go_simp; split <;> omega)
  (try simp only [Act.put, List.setIfInBounds_toArray, List.set_cons_zero, List.set_cons_succ])
  refine PlanT.take0 (v := .int .i64 (t : Int)) (by kernel_rfl) ?ySc8 ?rSc8
  case ySc8 => (intro wz hz; obtain ⟨z1, z2⟩ := hz; have q12 := mem_nv z1 HNV.out; have b0 : wz.cell? ⟨w.heap.size, 0, none⟩ = some (.string e.u) := blk_cell z2; have b1 : wz.cell? ⟨w.heap.size, 1, none⟩ = some (.int .i64 e.s) := blk_cell z2; have b2 : wz.cell? ⟨w.heap.size, 2, none⟩ = some (.int .i64 e.k) := blk_cell z2; have b3 : wz.cell? ⟨w.heap.size, 3, none⟩ = some (.string e.v) := blk_cell z2; go_simp; have hT := HT.out; split <;> omega)
  (try simp only [Act.put, List.setIfInBounds_toArray, List.set_cons_zero, List.set_cons_succ])
  refine PlanT.exec2 (fun K hK => ⟨by kernel_rfl, ?_⟩)
  go_simp
  have hp6 := (Below.heap_alloc w5 (.cells (zeroC t) 3) p (blk_lt H5P.out)).trans H5P.out
  have hs6 := (Below.heap_alloc w5 (.cells (zeroC t) 3) w.heap.size (blk_lt H5S.out)).trans H5S.out
  have HP6 := Lib.hid hp6
  have HS6 := Lib.hid hs6
  clear hp6 hs6
  refine hK.out _ _ ⟨HP6.out, HS6.out⟩ trivial ?_
  clear hK K
  (try simp only [Act.put, List.setIfInBounds_toArray, List.set_cons_zero, List.set_cons_succ])
  refine PlanT.take0 (v := ?vSc10) (by kernel_rfl) ?ySc10 ?rSc10
  case ySc10 => (intro wz hz; obtain ⟨z1, z2⟩ := hz; have q12 := mem_nv z1 HNV.out; have b0 : wz.cell? ⟨w.heap.size, 0, none⟩ = some (.string e.u) := blk_cell z2; have b1 : wz.cell? ⟨w.heap.size, 1, none⟩ = some (.int .i64 e.s) := blk_cell z2; have b2 : wz.cell? ⟨w.heap.size, 2, none⟩ = some (.int .i64 e.k) := blk_cell z2; have b3 : wz.cell? ⟨w.heap.size, 3, none⟩ = some (.string e.v) := blk_cell z2; go_simp; try with_reducible rfl)
  (try simp only [Act.put, List.setIfInBounds_toArray, List.set_cons_zero, List.set_cons_succ])
  refine PlanT.exec2 (fun K hK => ⟨by kernel_rfl, ?_⟩)
  go_simp
  have hp7 := (Below.heap_alloc (w5.alloc (.cells (zeroC t) 3)) (.cells #[.string e.u, .int .i64 e.s, .int .i64 e.k, .string e.v, .slice (some ⟨w5.heap.size, 0, none⟩) t t] 59) p (blk_lt HP6.out)).trans HP6.out
  have hs7 := (Below.heap_alloc (w5.alloc (.cells (zeroC t) 3)) (.cells #[.string e.u, .int .i64 e.s, .int .i64 e.k, .string e.v, .slice (some ⟨w5.heap.size, 0, none⟩) t t] 59) w.heap.size (blk_lt HS6.out)).trans HS6.out
  have HP7 := Lib.hid hp7
  have HS7 := Lib.hid hs7
  clear hp7 hs7
  refine hK.out _ _ ⟨HP7.out, HS7.out⟩ trivial ?_
  clear hK K
  (try simp only [Act.put, List.setIfInBounds_toArray, List.set_cons_zero, List.set_cons_succ])
  refine PlanT.exec3 (fun K hK => ⟨by kernel_rfl, ?_⟩)
  refine wp_append_at (.tmp 41) (.tmp 48) 51 rfl 59 5 72 (.agg #[.string ⟨#[]⟩, .int .i64 0, .int .i64 0, .string ⟨#[]⟩, .slice none 0 0]) Try.underlying51 info_node rfl (by decide) (.slice na m.es.length nc) (.slice (some ⟨w5.heap.size + 1, 0, none⟩) 1 1) m.es.length 1 (nodeCells g.tb m.ht m.es) (newC e w5.heap.size t) rfl rfl ?ownc ?rdc (newC_one _ _ _) (by omega) (by unfold maxLen; omega) ?_
  case ownc => (rw [← HNV.out]; exact own_kept HM5.out.nr (R := fun k => k < w5.heap.size) (Kept.of (((Below.refl _ _).alloc (Nat.le_refl _) _).alloc (by simp) _) fun _ h => h) fun k e => own_lt HM5.out.nr k e)
  case rdc => exact one_node w5 e t
  intro v2 w8 ho2 hm2
  rw [HV.out] at ho2
  obtain ⟨av2, cv2, hv2, _, _⟩ := rd_of_own ho2
  subst hv2
  have hp8 := (hm2.grown.block p (by have := blk_lt HP7.out; omega) (fun e => HNP.out (by rw [HNV.out]; exact e.symm))).trans HP7.out
  have c12 := mem_nv hp8 HNV.out
  have f12 : w8.frozen? ⟨p, 12, none⟩ = false := blk_free hp8
  have HM2 := Lib.hid hm2
  have HO2 := Lib.hid ho2
  clear hm2 ho2 hp8
  refine hK.out _ _ trivial ?_
  clear hK K
  (try simp only [Act.put, List.setIfInBounds_toArray, List.set_cons_zero, List.set_cons_succ])
  refine PlanT.take1 (v := ?vSc13) (by kernel_rfl) ?ySc13 ?rSc13
  case ySc13 => (intro wz hz; go_simp; try with_reducible rfl)
  (try simp only [Act.put, List.setIfInBounds_toArray, List.set_cons_zero, List.set_cons_succ])
  refine PlanT.take1 (v := ?vSc14) (by kernel_rfl) ?ySc14 ?rSc14
  case ySc14 => (intro wz hz; go_simp; try with_reducible rfl)
  (try simp only [Act.put, List.setIfInBounds_toArray, List.set_cons_zero, List.set_cons_succ])
  refine PlanT.exec3 (fun K hK => ⟨by kernel_rfl, ?_⟩)
  go_simp
  refine hK.out _ _ trivial ?_
  clear hK K
  (try simp only [Act.put, List.setIfInBounds_toArray, List.set_cons_zero, List.set_cons_succ])
  refine PlanT.done (NoPanic.normal ?_)
  obtain ⟨w9, hw9⟩ : ∃ w9, w9 = w8.setCell ⟨p, 12, none⟩ (.slice av2 v cv2) := ⟨_, rfl⟩
  rw [← hw9]
  have hpush := MemAt.push HM5.out HOK.out e (t := t) (a2 := av2) (n2 := v) (c2 := cv2) (w8 := w8) (by rw [HV.out]; exact HO2.out) (by rw [HNV.out]; exact HM2.out)
  rw [← hw9] at hpush
  obtain ⟨hm9, ht9, hg9⟩ := hpush
  generalize hgg : g.more m.es.length w5.heap.size (.slice av2 v cv2) = g9 at hm9 hg9
  have hnv9 : g9.nv = .slice av2 v cv2 := by rw [← hgg]; rfl
  have hs9 : w9.heap[w.heap.size]? = some (.cells #[.string e.u, .int .i64 e.s, .int .i64 e.k, .string e.v] 34 (0, 0)) := (ht9.block _ ⟨blk_lt H5S.out, fun h => by have := HM.out.olt _ h; omega⟩).trans H5S.out
  have hq9 : w9.heap[w2.heap.size]? = some (.cells #[.int .i64 (q0 : Int), .int .i64 (q1 : Int), .int .i64 (q2 : Int), .int .i64 (q3 : Int), .int .i64 (q4 : Int), .int .i64 (q5 : Int), .int .i64 (q6 : Int), .int .i64 (q7 : Int), .int .i64 (q8 : Int), .int .i64 (q9 : Int), .int .i64 (q10 : Int), .int .i64 (q11 : Int)] 50 (0, 0)) := (ht9.block _ ⟨blk_lt H5Q.out, fun h => by have := HM.out.olt _ h; have := HB2.out.size; omega⟩).trans H5Q.out
  obtain ⟨wC, hwC⟩ : ∃ wC, wC = w9.drew := ⟨_, rfl⟩
  have hmC : MemAt g9 wC p (m.mid e t 0) := by rw [hwC]; exact hm9.drew
  have q12 : wC.cell? ⟨p, 12, none⟩ = some (.slice av2 v cv2) := by rw [← hnv9]; exact hmC.fields.1
  have hqC : wC.heap[w2.heap.size]? = some (.cells #[.int .i64 (q0 : Int), .int .i64 (q1 : Int), .int .i64 (q2 : Int), .int .i64 (q3 : Int), .int .i64 (q4 : Int), .int .i64 (q5 : Int), .int .i64 (q6 : Int), .int .i64 (q7 : Int), .int .i64 (q8 : Int), .int .i64 (q9 : Int), .int .i64 (q10 : Int), .int .i64 (q11 : Int)] 50 (0, 0)) := by rw [hwC]; exact hq9
  have pc0 : wC.cell? ⟨w2.heap.size, 0, none⟩ = some (.int .i64 (q0 : Int)) := blk_cell hqC
  have pc1 : wC.cell? ⟨w2.heap.size, 1, none⟩ = some (.int .i64 (q1 : Int)) := blk_cell hqC
  have pc2 : wC.cell? ⟨w2.heap.size, 2, none⟩ = some (.int .i64 (q2 : Int)) := blk_cell hqC
  have pc3 : wC.cell? ⟨w2.heap.size, 3, none⟩ = some (.int .i64 (q3 : Int)) := blk_cell hqC
  have pc4 : wC.cell? ⟨w2.heap.size, 4, none⟩ = some (.int .i64 (q4 : Int)) := blk_cell hqC
  have pc5 : wC.cell? ⟨w2.heap.size, 5, none⟩ = some (.int .i64 (q5 : Int)) := blk_cell hqC
  have pc6 : wC.cell? ⟨w2.heap.size, 6, none⟩ = some (.int .i64 (q6 : Int)) := blk_cell hqC
  have pc7 : wC.cell? ⟨w2.heap.size, 7, none⟩ = some (.int .i64 (q7 : Int)) := blk_cell hqC
  have pc8 : wC.cell? ⟨w2.heap.size, 8, none⟩ = some (.int .i64 (q8 : Int)) := blk_cell hqC
  have pc9 : wC.cell? ⟨w2.heap.size, 9, none⟩ = some (.int .i64 (q9 : Int)) := blk_cell hqC
  have pc10 : wC.cell? ⟨w2.heap.size, 10, none⟩ = some (.int .i64 (q10 : Int)) := blk_cell hqC
  have pc11 : wC.cell? ⟨w2.heap.size, 11, none⟩ = some (.int .i64 (q11 : Int)) := blk_cell hqC
  have hsC : wC.heap[w.heap.size]? = some (.cells #[.string e.u, .int .i64 e.s, .int .i64 e.k, .string e.v] 34 (0, 0)) := by rw [hwC]; exact hs9
  have hen := HENT.out g9 wC hmC
  have htC : Touch g.F w5 wC := by rw [hwC]; exact ht9.drew
  have hgC : Grows g.F g9.F w5 wC := by rw [hwC]; exact hg9
  have HwC := Lib.hid hwC
  have HEN := Lib.hid hen
  have HSC := Lib.hid hsC
  have HTC := Lib.hid htC
  have HGC := Lib.hid hgC
  have HMC := Lib.hid hmC
  clear hw9 hm9 ht9 hg9 hgg hnv9 hs9 hq9 hwC hmC hqC hsC hen htC hgC c12 f12 hmk
  go_wp2
  refine wp_region_two (fun wz => wz = wC) (fun _ => True) [(0, 0), (0, 1), (0, 2), (0, 3), (0, 4), (0, 5), (0, 6), (3, 7)] [7] (by kernel_rfl) (by kernel_rfl) (by kernel_rfl) (by kernel_rfl) (by kernel_rfl) HwC.out.symm trivial ?_
  simp only [planT, List.drop_succ_cons, List.drop_zero]
  rw [← HwC.out]
  refine PlanT.take0 (v := ?vTc0) (by kernel_rfl) ?yTc0 ?rTc0
  case yTc0 => (intro wz hz; cases hz; go_simp; try with_reducible rfl)
  (try simp only [Act.put, List.setIfInBounds_toArray, List.set_cons_zero, List.set_cons_succ])
  refine PlanT.take0 (v := ?vTc1) (by kernel_rfl) ?yTc1 ?rTc1
  case yTc1 => (intro wz hz; cases hz; go_simp; try with_reducible rfl)
  (try simp only [Act.put, List.setIfInBounds_toArray, List.set_cons_zero, List.set_cons_succ])
  refine PlanT.take0 (v := ?vTc2) (by kernel_rfl) ?yTc2 ?rTc2
  case yTc2 => (intro wz hz; cases hz; go_simp; try with_reducible rfl)
  (try simp only [Act.put, List.setIfInBounds_toArray, List.set_cons_zero, List.set_cons_succ])
  refine PlanT.take0 (v := ?vTc3) (by kernel_rfl) ?yTc3 ?rTc3
  case yTc3 => (intro wz hz; cases hz; go_simp; try with_reducible rfl)
  (try simp only [Act.put, List.setIfInBounds_toArray, List.set_cons_zero, List.set_cons_succ])
  refine PlanT.take0 (v := ?vTc4) (by kernel_rfl) ?yTc4 ?rTc4
  case yTc4 => (intro wz hz; cases hz; go_simp; try with_reducible rfl)
  (try simp only [Act.put, List.setIfInBounds_toArray, List.set_cons_zero, List.set_cons_succ])
  refine PlanT.take0 (v := ?vTc5) (by kernel_rfl) ?yTc5 ?rTc5
  case yTc5 => (intro wz hz; cases hz; go_simp; try with_reducible rfl)
  (try simp only [Act.put, List.setIfInBounds_toArray, List.set_cons_zero, List.set_cons_succ])
  refine PlanT.take0 (v := ?vTc6) (by kernel_rfl) ?yTc6 ?rTc6
  case yTc6 => (intro wz hz; cases hz; go_simp; try with_reducible rfl)
  (try simp only [Act.put, List.setIfInBounds_toArray, List.set_cons_zero, List.set_cons_succ])
  refine PlanT.exec3 (fun K hK => ⟨by kernel_rfl, ?_⟩)
  go_simp
  go_at_call 24
  (with_reducible refine HEN.out.mono ?_)
  rintro r w11 ⟨rfl, hm11, ht11⟩
  go_wp2_with fail
  refine hK.out _ _ trivial ?_
  clear hK K
  (try simp only [Act.put, List.setIfInBounds_toArray, List.set_cons_zero, List.set_cons_succ])
  refine PlanT.done (NoPanic.normal ?_)
  obtain ⟨wD, hwD⟩ : ∃ wD, wD = w11.drew := ⟨_, rfl⟩
  have hmD : MemAt g9 wD p (m.mid e t t) := by rw [hwD]; exact hm11.drew
  have q13 : wD.cell? ⟨p, 13, none⟩ = some (.int .i64 (m.sz : Int)) := hmD.fields.2.1
  have f13 : wD.frozen? ⟨p, 13, none⟩ = false := hmD.fields.2.2.2
  have hsD : wD.heap[w.heap.size]? = some (.cells #[.string e.u, .int .i64 e.s, .int .i64 e.k, .string e.v] 34 (0, 0)) := by
    rw [hwD]
    refine (ht11.block _ ⟨blk_lt HSC.out, fun h => ?_⟩).trans HSC.out
    rcases HGC.out _ h with h1 | h1
    · have := HM.out.olt _ h1; omega
    · have := blk_lt H5S.out; omega
  have b0 : wD.cell? ⟨w.heap.size, 0, none⟩ = some (.string e.u) := blk_cell hsD
  have b3 : wD.cell? ⟨w.heap.size, 3, none⟩ = some (.string e.v) := blk_cell hsD
  have HwD := Lib.hid hwD
  have HMD := Lib.hid hmD
  have HT11 := Lib.hid ht11
  clear hwD hmD hsD ht11 hm11 q12 pc0 pc1 pc2 pc3 pc4 pc5 pc6 pc7 pc8 pc9 pc10 pc11
  go_wp2
  refine wp_region_two (fun wz => wz = wD) (fun _ => True) [(0, 0), (0, 1), (0, 2), (0, 3), (0, 4), (0, 5), (0, 6), (0, 7), (0, 8), (0, 9), (0, 10), (0, 11), (0, 12), (0, 13), (0, 14), (3, 15)] [15] (by kernel_rfl) (by kernel_rfl) (by kernel_rfl) (by kernel_rfl) (by kernel_rfl) HwD.out.symm trivial ?_
  simp only [planT, List.drop_succ_cons, List.drop_zero]
  rw [← HwD.out]
  refine PlanT.take0 (v := ?vUc0) (by kernel_rfl) ?yUc0 ?rUc0
  case yUc0 => (intro wz hz; cases hz; go_simp; try with_reducible rfl)
  (try simp only [Act.put, List.setIfInBounds_toArray, List.set_cons_zero, List.set_cons_succ])
  refine PlanT.take0 (v := ?vUc1) (by kernel_rfl) ?yUc1 ?rUc1
  case yUc1 => (intro wz hz; cases hz; go_simp; try with_reducible rfl)
  (try simp only [Act.put, List.setIfInBounds_toArray, List.set_cons_zero, List.set_cons_succ])
  refine PlanT.take0 (v := ?vUc2) (by kernel_rfl) ?yUc2 ?rUc2
  case yUc2 => (intro wz hz; cases hz; go_simp; try with_reducible rfl)
  (try simp only [Act.put, List.setIfInBounds_toArray, List.set_cons_zero, List.set_cons_succ])
  refine PlanT.take0 (v := ?vUc3) (by kernel_rfl) ?yUc3 ?rUc3
  case yUc3 => (intro wz hz; cases hz; go_simp; try with_reducible rfl)
  (try simp only [Act.put, List.setIfInBounds_toArray, List.set_cons_zero, List.set_cons_succ])
  refine PlanT.take0 (v := ?vUc4) (by kernel_rfl) ?yUc4 ?rUc4
  case yUc4 => (intro wz hz; cases hz; go_simp; try with_reducible rfl)
  (try simp only [Act.put, List.setIfInBounds_toArray, List.set_cons_zero, List.set_cons_succ])
  refine PlanT.take0 (v := ?vUc5) (by kernel_rfl) ?yUc5 ?rUc5
  case yUc5 => (intro wz hz; cases hz; go_simp; try with_reducible rfl)
  (try simp only [Act.put, List.setIfInBounds_toArray, List.set_cons_zero, List.set_cons_succ])
  refine PlanT.take0 (v := ?vUc6) (by kernel_rfl) ?yUc6 ?rUc6
  case yUc6 => (intro wz hz; cases hz; go_simp; try with_reducible rfl)
  (try simp only [Act.put, List.setIfInBounds_toArray, List.set_cons_zero, List.set_cons_succ])
  refine PlanT.take0 (v := ?vUc7) (by kernel_rfl) ?yUc7 ?rUc7
  case yUc7 => (intro wz hz; cases hz; go_simp; try with_reducible rfl)
  (try simp only [Act.put, List.setIfInBounds_toArray, List.set_cons_zero, List.set_cons_succ])
  refine PlanT.take0 (v := ?vUc8) (by kernel_rfl) ?yUc8 ?rUc8
  case yUc8 => (intro wz hz; cases hz; go_simp; try with_reducible rfl)
  (try simp only [Act.put, List.setIfInBounds_toArray, List.set_cons_zero, List.set_cons_succ])
  refine PlanT.take0 (v := ?vUc9) (by kernel_rfl) ?yUc9 ?rUc9
  case yUc9 => (intro wz hz; cases hz; go_simp; try with_reducible rfl)
  (try simp only [Act.put, List.setIfInBounds_toArray, List.set_cons_zero, List.set_cons_succ])
  refine PlanT.take0 (v := ?vUc10) (by kernel_rfl) ?yUc10 ?rUc10
  case yUc10 => (intro wz hz; cases hz; go_simp; try with_reducible rfl)
  (try simp only [Act.put, List.setIfInBounds_toArray, List.set_cons_zero, List.set_cons_succ])
  refine PlanT.take0 (v := ?vUc11) (by kernel_rfl) ?yUc11 ?rUc11
  case yUc11 => (intro wz hz; cases hz; go_simp; try with_reducible rfl)
  (try simp only [Act.put, List.setIfInBounds_toArray, List.set_cons_zero, List.set_cons_succ])
  refine PlanT.take0 (v := ?vUc12) (by kernel_rfl) ?yUc12 ?rUc12
  case yUc12 => (intro wz hz; cases hz; go_simp; try with_reducible rfl)
  (try simp only [Act.put, List.setIfInBounds_toArray, List.set_cons_zero, List.set_cons_succ])
  refine PlanT.take0 (v := ?vUc13) (by kernel_rfl) ?yUc13 ?rUc13
  case yUc13 => (intro wz hz; cases hz; go_simp; try with_reducible rfl)
  (try simp only [Act.put, List.setIfInBounds_toArray, List.set_cons_zero, List.set_cons_succ])
  refine PlanT.take0 (v := ?vUc14) (by kernel_rfl) ?yUc14 ?rUc14
  case yUc14 => (intro wz hz; cases hz; go_simp; try with_reducible rfl)
  (try simp only [Act.put, List.setIfInBounds_toArray, List.set_cons_zero, List.set_cons_succ])
  refine PlanT.exec3 (fun K hK => ⟨by kernel_rfl, ?_⟩)
  go_simp
  refine hK.out _ _ trivial ?_
  clear hK K
  (try simp only [Act.put, List.setIfInBounds_toArray, List.set_cons_zero, List.set_cons_succ])
  refine PlanT.done (NoPanic.normal ?_)
  have hsum : IntKind.i64.wrap ((m.sz : Int) + IntKind.i64.wrap ((e.u.size : Int) + (e.v.size : Int))) = ((m.sz + sizeE e : Nat) : Int) := by rw [IntWalk.i64_in ((e.u.size : Int) + (e.v.size : Int)) (by omega), IntWalk.i64_in _ (by omega)]; unfold sizeE; omega
  rw [hsum]
  have hfin := HMD.out.resize (m.sz + sizeE e)
  have HFIN := Lib.hid hfin
  clear hfin hsum q13 f13 b0 b3
  go_wp2
  go_ret
  have T1 : Touch g.F w wC := (Touch.of_below HB5.out).trans HTC.out (Grows.refl _ _ _)
  have G1 : Grows g.F g9.F w wC := (Grows.refl g.F w w5).trans HGC.out HB5.out.size HTC.out.size
  have T2 : Touch g9.F wC wD := by rw [HwD.out]; exact HT11.out.drew
  have T3 := (T1.trans T2 G1).trans HFIN.out.2 (G1.trans (Grows.refl g9.F wC wD) T1.size T2.size)
  refine ⟨ret_bool HADD.out, g9, m.add e t, MemAt.done HFIN.out.1, HOK2.out, HALL.out, T3, ?_⟩
  exact (G1.trans (Grows.refl g9.F wC wD) T1.size T2.size).trans (Grows.refl g9.F wD _) (T1.trans T2 G1).size HFIN.out.2.size

set_option maxRecDepth 100000 in
set_option maxHeartbeats 16000000 in
theorem add_ahead {g : GM} {w : World} {p : Nat} {m : MS} (hm : MemAt g w p m) (hok : m.Ok) (e : Ent) (he : e.fits) (hgt : Int) (hlen : m.es.length < 100000) (hmay : e.may = true) (a : Nat) (r : List Nat) (h1 : m.high e = a :: r) (h2 : highE e m.all = m.ent a :: r.map m.ent)
    (xu : ByteArray) (xs xk : Int) (xv : ByteArray) (hx : m.ent a = ⟨xu, xs, xk, xv⟩) (hne : ¬ (xu.toList = e.u.toList ∧ xs = e.s ∧ xk = e.k)) :
    Calls Try.prog 9 #[.pointer (some ⟨p, 0, none⟩), entV e, .int .i64 hgt] w (AddTo g p m e w) := by
  have hM := mayE_any e.u e.s e.k e.v he.1 he.2.1
  have hM1 : mayE e.u.data.toList e.s e.k e.v.data.toList = true := hmay
  rw [hM1] at hM
  have hin : isIn e m.all = false := by
    unfold isIn
    rw [h2]
    simp only [decide_eq_false_iff_not]
    rw [cmp_zero, hx]
    rintro ⟨h1, h2, h3⟩
    exact hne ⟨congrArg ByteArray.toList h1, h2, h3⟩
  have hA := ahead_all hm hok e he
  have hfst := hok.first e
  have hlk := hok.linkIn e (h := 0) (i := (m.lowAt e 0).length) (by omega) (by rw [List.length_append]; omega)
  rw [← MS.path_nth] at hlk
  have hmem : ∀ a ∈ m.high e, 1 ≤ a ∧ a ≤ m.es.length := fun a ha => hok.mem a (by rw [← MS.low_high m e]; simp [ha])
  rw [h1] at hfst
  obtain ⟨n1, n2⟩ := hmem a (by rw [h1]; simp)
  obtain ⟨lb, hlb⟩ := link_all hm hok hlk hfst
  have hE := entry_all hm n1 n2 _ hx
  simp only [List.headD_cons] at hlb
  obtain ⟨t, ht1, ht2, hT⟩ := height_ok hgt
  obtain ⟨hadd, hok2, hall, hu64, hv512, hszm⟩ := add_facts hm hok e hlen hmay hin t ht1 ht2
  obtain ⟨v, hv⟩ : ∃ v, m.es.length + 1 = v := ⟨_, rfl⟩
  have hent : ∀ (g9 : GM) (wC : World), MemAt g9 wC p (m.mid e t 0) → _ := fun g9 wC h => enter_at hok e ht1 ht2 (by omega) h v hv
  rw [pathC_zero] at hent
  unfold retPath at hA
  obtain ⟨na, nc, hnv, _, _⟩ := rd_of_own hm.nr
  have hnp : g.nv.ownBlock ≠ some p := fun h => by have := hm.onv p h; rw [hm.rol] at this; cases this
  have HM := Lib.hid hm
  have HOK := Lib.hid hok
  clear hM1 hlk hfst hmem hm hok hmay he h1 h2 hin hx n2
  generalize m.path e 0 = q0 at *
  generalize m.path e 1 = q1 at *
  generalize m.path e 2 = q2 at *
  generalize m.path e 3 = q3 at *
  generalize m.path e 4 = q4 at *
  generalize m.path e 5 = q5 at *
  generalize m.path e 6 = q6 at *
  generalize m.path e 7 = q7 at *
  generalize m.path e 8 = q8 at *
  generalize m.path e 9 = q9 at *
  generalize m.path e 10 = q10 at *
  generalize m.path e 11 = q11 at *
  have HMAY := Lib.hid hM
  have HL := Lib.hid hlb
  have HA := Lib.hid hA
  have HENT := Lib.hid hent
  have HADD := Lib.hid hadd
  have HOK2 := Lib.hid hok2
  have HALL := Lib.hid hall
  have HNV := Lib.hid hnv
  have HNP := Lib.hid hnp
  have HV := Lib.hid hv
  have HT := Lib.hid hT
  clear hM hlb hA hent hadd hok2 hall hnv hnp hv hT
  have hanz : ¬ a = 0 := by omega
  have hanz' : (a : Int) ≠ 0 := by omega
  have HEA := Lib.hid hE
  have HNE := Lib.hid hne
  clear hE n1 hne
  go_enter Try.func9, Try.ntmps9
  go_wp2_with (first | (go_at_call 20; (refine (HMAY.out _).mono ?_); rintro r w1 ⟨rfl, hb1⟩; (have hbw1 := belowT ((Below.refl _ _).alloc (Nat.le_refl _) _) hb1); (have hs1 := (hb1.block w.heap.size (by simp)).trans (heap_alloc_new w (.cells #[.string e.u, .int .i64 e.s, .int .i64 e.k, .string e.v] 34))); (have HB1 := Lib.hid hbw1); (have HS1 := Lib.hid hs1); (have z10 := blk_cell (i := 0) hs1); (have z11 := blk_cell (i := 1) hs1); (have z12 := blk_cell (i := 2) hs1); (have z13 := blk_cell (i := 3) hs1); clear hbw1 hs1 hb1) | (go_at_call 21; (refine (HA.out w1 HB1.out).mono ?_); rintro r w2 ⟨rfl, hb2⟩; (have hbw2 := belowT HB1.out hb2); (have hs2 := (hb2.block w.heap.size (blk_lt HS1.out)).trans HS1.out); (have HB2 := Lib.hid hbw2); (have HS2 := Lib.hid hs2); clear hbw2 hs2 hb2) | (go_at_call 22; (obtain ⟨wB, hwB⟩ : ∃ wB, wB = w2.alloc (.cells #[.int .i64 (q0 : Int), .int .i64 (q1 : Int), .int .i64 (q2 : Int), .int .i64 (q3 : Int), .int .i64 (q4 : Int), .int .i64 (q5 : Int), .int .i64 (q6 : Int), .int .i64 (q7 : Int), .int .i64 (q8 : Int), .int .i64 (q9 : Int), .int .i64 (q10 : Int), .int .i64 (q11 : Int)] 50) := ⟨_, rfl⟩); rw [← hwB]; (have hbB : Below w.heap.size w wB := by rw [hwB]; exact HB2.out.alloc HB2.out.size _); (have hsB : wB.heap[w.heap.size]? = some (.cells #[.string e.u, .int .i64 e.s, .int .i64 e.k, .string e.v] 34 (0, 0)) := by rw [hwB]; exact (Below.heap_alloc _ _ _ (blk_lt HS2.out)).trans HS2.out); (have hpB : wB.heap[w2.heap.size]? = some (.cells #[.int .i64 (q0 : Int), .int .i64 (q1 : Int), .int .i64 (q2 : Int), .int .i64 (q3 : Int), .int .i64 (q4 : Int), .int .i64 (q5 : Int), .int .i64 (q6 : Int), .int .i64 (q7 : Int), .int .i64 (q8 : Int), .int .i64 (q9 : Int), .int .i64 (q10 : Int), .int .i64 (q11 : Int)] 50 (0, 0)) := by rw [hwB]; exact heap_alloc_new w2 _); (obtain ⟨hqB, hclB⟩ := HL.out wB hbB); (have HBB := Lib.hid hbB); (have HSB := Lib.hid hsB); (have HPB := Lib.hid hpB); (have zB0 := blk_cell (i := 0) hsB); (have zB1 := blk_cell (i := 1) hsB); (have zB2 := blk_cell (i := 2) hsB); (have zB3 := blk_cell (i := 3) hsB); (refine hclB.mono ?_); clear hclB hwB hbB hsB hpB; rintro r w9 ⟨rfl, rfl⟩))
  have hE5 := HEA.out wB.drew HBB.out.drew
  have HE5 := Lib.hid hE5
  clear hE5
  refine wp_region_plan [(true, 0), (true, 1), (true, 2), (true, 3), (true, 4), (true, 7), (true, 8), (false, 5), (true, 6), (true, 9), (true, 10)] (by kernel_rfl) (by kernel_rfl) (by kernel_rfl) (by kernel_rfl) (by kernel_rfl) ?_
  simp only [planO, List.drop_succ_cons, List.drop_zero]
  refine PlanO.take (v := ?vd0) (by kernel_rfl) ?yd0 ?rd0
  case yd0 => (intro wz hz; go_simp; try with_reducible rfl)
  (try simp only [Act.put, List.setIfInBounds_toArray, List.set_cons_zero, List.set_cons_succ])
  refine PlanO.take (v := .bool true) (by kernel_rfl) ?yd1 ?rd1
  case yd1 => (intro wz hz; go_simp; try simp [hanz])
  (try simp only [Act.put, List.setIfInBounds_toArray, List.set_cons_zero, List.set_cons_succ])
  refine PlanO.take (v := ?vd2) (by kernel_rfl) ?yd2 ?rd2
  case yd2 => (intro wz hz; go_simp; try with_reducible rfl)
  (try simp only [Act.put, List.setIfInBounds_toArray, List.set_cons_zero, List.set_cons_succ])
  refine PlanO.take (v := ?vd3) (by kernel_rfl) ?yd3 ?rd3
  case yd3 => (intro wz hz; go_simp; try with_reducible rfl)
  (try simp only [Act.put, List.setIfInBounds_toArray, List.set_cons_zero, List.set_cons_succ])
  refine PlanO.take (v := ?vd4) (by kernel_rfl) ?yd4 ?rd4
  case yd4 => (intro wz hz; go_simp; try with_reducible rfl)
  (try simp only [Act.put, List.setIfInBounds_toArray, List.set_cons_zero, List.set_cons_succ])
  refine PlanO.take (v := ?vd7) (by kernel_rfl) ?yd7 ?rd7
  case yd7 => (intro wz hz; go_simp; try with_reducible rfl)
  (try simp only [Act.put, List.setIfInBounds_toArray, List.set_cons_zero, List.set_cons_succ])
  refine PlanO.take (v := ?vd8) (by kernel_rfl) ?yd8 ?rd8
  case yd8 => (intro wz hz; have c0 := Ext.at_ hz zB0; have c1 := Ext.at_ hz zB1; have c2 := Ext.at_ hz zB2; go_simp; try with_reducible rfl)
  (try simp only [Act.put, List.setIfInBounds_toArray, List.set_cons_zero, List.set_cons_succ])
  refine PlanO.exec (fun K hK => ?_)
  go_simp
  go_at_call 23
  refine HE5.out.mono ?_
  rintro r u1 ⟨rfl, hb3⟩
  have hE1 : Ext wB.drew u1 := hb3
  go_wp2_with fail
  refine hK.out _ _ hb3 ?_
  clear hK K
  (try simp only [Act.put, List.setIfInBounds_toArray, List.set_cons_zero, List.set_cons_succ])
  refine PlanO.take (v := ?vd6) (by kernel_rfl) ?yd6 ?rd6
  case yd6 => (intro wz hz; have hfk := run_field_key xu xs xk xv wz; go_simp; try with_reducible rfl)
  (try simp only [Act.put, List.setIfInBounds_toArray, List.set_cons_zero, List.set_cons_succ])
  refine PlanO.take (v := .bool false) (by kernel_rfl) ?yd9 ?rd9
  case yd9 => (intro wz hz; go_simp; exact fun a b c => HNE.out ⟨a, b, c⟩)
  (try simp only [Act.put, List.setIfInBounds_toArray, List.set_cons_zero, List.set_cons_succ])
  refine PlanO.take (v := ?vd10) (by kernel_rfl) ?yd10 ?rd10
  case yd10 => (intro wz hz; go_simp; try with_reducible rfl)
  (try simp only [Act.put, List.setIfInBounds_toArray, List.set_cons_zero, List.set_cons_succ])
  refine PlanO.done (NoPanic.normal ?_)
  have hb5 : Below w.heap.size w u1 := belowT HBB.out.drew hb3
  have hs5 : u1.heap[w.heap.size]? = some (.cells #[.string e.u, .int .i64 e.s, .int .i64 e.k, .string e.v] 34 (0, 0)) := (hb3.block _ (blk_lt HSB.out)).trans HSB.out
  have hp5 : u1.heap[w2.heap.size]? = some (.cells #[.int .i64 (q0 : Int), .int .i64 (q1 : Int), .int .i64 (q2 : Int), .int .i64 (q3 : Int), .int .i64 (q4 : Int), .int .i64 (q5 : Int), .int .i64 (q6 : Int), .int .i64 (q7 : Int), .int .i64 (q8 : Int), .int .i64 (q9 : Int), .int .i64 (q10 : Int), .int .i64 (q11 : Int)] 50 (0, 0)) := (hb3.block _ (blk_lt HPB.out)).trans HPB.out
  clear hb3 hE1
  go_wp2
  obtain ⟨w5, hw5⟩ : ∃ w5, w5 = u1.drew := ⟨_, rfl⟩
  have hbw5 : Below w.heap.size w w5 := by rw [hw5]; exact hb5.drew
  have h5s : w5.heap[w.heap.size]? = some (.cells #[.string e.u, .int .i64 e.s, .int .i64 e.k, .string e.v] 34 (0, 0)) := by rw [hw5]; exact hs5
  have h5q : w5.heap[w2.heap.size]? = some (.cells #[.int .i64 (q0 : Int), .int .i64 (q1 : Int), .int .i64 (q2 : Int), .int .i64 (q3 : Int), .int .i64 (q4 : Int), .int .i64 (q5 : Int), .int .i64 (q6 : Int), .int .i64 (q7 : Int), .int .i64 (q8 : Int), .int .i64 (q9 : Int), .int .i64 (q10 : Int), .int .i64 (q11 : Int)] 50 (0, 0)) := by rw [hw5]; exact hp5
  have hm5 := HM.out.below hbw5
  have Hw5 := Lib.hid hw5
  have HB5 := Lib.hid hbw5
  have H5S := Lib.hid h5s
  have H5Q := Lib.hid h5q
  have H5P := Lib.hid hm5.blk
  have HM5 := Lib.hid hm5
  clear hw5 hbw5 h5s h5q hm5 hb5 hs5 hp5
  have hmk := run_make_ints t ht2
  refine wp_region_two (fun wz => wz.heap[p]? = some (.cells (memCells g m) 53 (0, 0)) ∧ wz.heap[w.heap.size]? = some (.cells #[.string e.u, .int .i64 e.s, .int .i64 e.k, .string e.v] 34 (0, 0))) (fun _ => True) [(1, 0), (0, 1), (0, 2), (0, 3), (0, 4), (0, 5), (0, 6), (0, 7), (0, 8), (2, 9), (0, 10), (2, 11), (3, 12), (1, 13), (1, 14), (3, 15)] [12, 15] (by kernel_rfl) (by kernel_rfl) (by kernel_rfl) (by kernel_rfl) (by kernel_rfl) (by rw [← Hw5.out]; exact ⟨H5P.out, H5S.out⟩) trivial ?_
  simp only [planT, List.drop_succ_cons, List.drop_zero]
  rw [← Hw5.out]
  refine PlanT.take1 (v := ?vSd0) (by kernel_rfl) ?ySd0 ?rSd0
  case ySd0 => (intro wz hz; go_simp; try with_reducible rfl)
  (try simp only [Act.put, List.setIfInBounds_toArray, List.set_cons_zero, List.set_cons_succ])
  refine PlanT.take0 (v := ?vSd1) (by kernel_rfl) ?ySd1 ?rSd1
  case ySd1 => (intro wz hz; obtain ⟨z1, z2⟩ := hz; have q12 := mem_nv z1 HNV.out; have b0 : wz.cell? ⟨w.heap.size, 0, none⟩ = some (.string e.u) := blk_cell z2; have b1 : wz.cell? ⟨w.heap.size, 1, none⟩ = some (.int .i64 e.s) := blk_cell z2; have b2 : wz.cell? ⟨w.heap.size, 2, none⟩ = some (.int .i64 e.k) := blk_cell z2; have b3 : wz.cell? ⟨w.heap.size, 3, none⟩ = some (.string e.v) := blk_cell z2; go_simp; try with_reducible rfl)
  (try simp only [Act.put, List.setIfInBounds_toArray, List.set_cons_zero, List.set_cons_succ])
  refine PlanT.take0 (v := ?vSd2) (by kernel_rfl) ?ySd2 ?rSd2
  case ySd2 => (intro wz hz; obtain ⟨z1, z2⟩ := hz; have q12 := mem_nv z1 HNV.out; have b0 : wz.cell? ⟨w.heap.size, 0, none⟩ = some (.string e.u) := blk_cell z2; have b1 : wz.cell? ⟨w.heap.size, 1, none⟩ = some (.int .i64 e.s) := blk_cell z2; have b2 : wz.cell? ⟨w.heap.size, 2, none⟩ = some (.int .i64 e.k) := blk_cell z2; have b3 : wz.cell? ⟨w.heap.size, 3, none⟩ = some (.string e.v) := blk_cell z2; go_simp; try with_reducible rfl)
  (try simp only [Act.put, List.setIfInBounds_toArray, List.set_cons_zero, List.set_cons_succ])
  refine PlanT.take0 (v := ?vSd3) (by kernel_rfl) ?ySd3 ?rSd3
  case ySd3 => (intro wz hz; obtain ⟨z1, z2⟩ := hz; have q12 := mem_nv z1 HNV.out; have b0 : wz.cell? ⟨w.heap.size, 0, none⟩ = some (.string e.u) := blk_cell z2; have b1 : wz.cell? ⟨w.heap.size, 1, none⟩ = some (.int .i64 e.s) := blk_cell z2; have b2 : wz.cell? ⟨w.heap.size, 2, none⟩ = some (.int .i64 e.k) := blk_cell z2; have b3 : wz.cell? ⟨w.heap.size, 3, none⟩ = some (.string e.v) := blk_cell z2; go_simp; try with_reducible rfl)
  (try simp only [Act.put, List.setIfInBounds_toArray, List.set_cons_zero, List.set_cons_succ])
  refine PlanT.take0 (v := ?vSd4) (by kernel_rfl) ?ySd4 ?rSd4
  case ySd4 => (intro wz hz; obtain ⟨z1, z2⟩ := hz; have q12 := mem_nv z1 HNV.out; have b0 : wz.cell? ⟨w.heap.size, 0, none⟩ = some (.string e.u) := blk_cell z2; have b1 : wz.cell? ⟨w.heap.size, 1, none⟩ = some (.int .i64 e.s) := blk_cell z2; have b2 : wz.cell? ⟨w.heap.size, 2, none⟩ = some (.int .i64 e.k) := blk_cell z2; have b3 : wz.cell? ⟨w.heap.size, 3, none⟩ = some (.string e.v) := blk_cell z2; go_simp; try with_reducible rfl)
  (try simp only [Act.put, List.setIfInBounds_toArray, List.set_cons_zero, List.set_cons_succ])
  refine PlanT.take0 (v := ?vSd5) (by kernel_rfl) ?ySd5 ?rSd5
  case ySd5 => (intro wz hz; obtain ⟨z1, z2⟩ := hz; have q12 := mem_nv z1 HNV.out; have b0 : wz.cell? ⟨w.heap.size, 0, none⟩ = some (.string e.u) := blk_cell z2; have b1 : wz.cell? ⟨w.heap.size, 1, none⟩ = some (.int .i64 e.s) := blk_cell z2; have b2 : wz.cell? ⟨w.heap.size, 2, none⟩ = some (.int .i64 e.k) := blk_cell z2; have b3 : wz.cell? ⟨w.heap.size, 3, none⟩ = some (.string e.v) := blk_cell z2; go_simp; try with_reducible rfl)
  (try simp only [Act.put, List.setIfInBounds_toArray, List.set_cons_zero, List.set_cons_succ])
  refine PlanT.take0 (v := ?vSd6) (by kernel_rfl) ?ySd6 ?rSd6
  case ySd6 => (intro wz hz; obtain ⟨z1, z2⟩ := hz; have q12 := mem_nv z1 HNV.out; have b0 : wz.cell? ⟨w.heap.size, 0, none⟩ = some (.string e.u) := blk_cell z2; have b1 : wz.cell? ⟨w.heap.size, 1, none⟩ = some (.int .i64 e.s) := blk_cell z2; have b2 : wz.cell? ⟨w.heap.size, 2, none⟩ = some (.int .i64 e.k) := blk_cell z2; have b3 : wz.cell? ⟨w.heap.size, 3, none⟩ = some (.string e.v) := blk_cell z2; go_simp; try with_reducible rfl)
  (try simp only [Act.put, List.setIfInBounds_toArray, List.set_cons_zero, List.set_cons_succ])
  refine PlanT.take0 (v := .int .i64 (max hgt 1)) (by kernel_rfl) ?ySd7 ?rSd7
  case ySd7 => (intro wz hz; obtain ⟨z1, z2⟩ := hz; have q12 := mem_nv z1 HNV.out; have b0 : wz.cell? ⟨w.heap.size, 0, none⟩ = some (.string e.u) := blk_cell z2; have b1 : wz.cell? ⟨w.heap.size, 1, none⟩ = some (.int .i64 e.s) := blk_cell z2; have b2 : wz.cell? ⟨w.heap.size, 2, none⟩ = some (.int .i64 e.k) := blk_cell z2; have b3 : wz.cell? ⟨w.heap.size, 3, none⟩ = some (.string e.v) := blk_cell z2; go_simp; split <;> omega)
  (try simp only [Act.put, List.setIfInBounds_toArray, List.set_cons_zero, List.set_cons_succ])
  refine PlanT.take0 (v := .int .i64 (t : Int)) (by kernel_rfl) ?ySd8 ?rSd8
  case ySd8 => (intro wz hz; obtain ⟨z1, z2⟩ := hz; have q12 := mem_nv z1 HNV.out; have b0 : wz.cell? ⟨w.heap.size, 0, none⟩ = some (.string e.u) := blk_cell z2; have b1 : wz.cell? ⟨w.heap.size, 1, none⟩ = some (.int .i64 e.s) := blk_cell z2; have b2 : wz.cell? ⟨w.heap.size, 2, none⟩ = some (.int .i64 e.k) := blk_cell z2; have b3 : wz.cell? ⟨w.heap.size, 3, none⟩ = some (.string e.v) := blk_cell z2; go_simp; have hT := HT.out; split <;> omega)
  (try simp only [Act.put, List.setIfInBounds_toArray, List.set_cons_zero, List.set_cons_succ])
  refine PlanT.exec2 (fun K hK => ⟨by kernel_rfl, ?_⟩)
  go_simp
  have hp6 := (Below.heap_alloc w5 (.cells (zeroC t) 3) p (blk_lt H5P.out)).trans H5P.out
  have hs6 := (Below.heap_alloc w5 (.cells (zeroC t) 3) w.heap.size (blk_lt H5S.out)).trans H5S.out
  have HP6 := Lib.hid hp6
  have HS6 := Lib.hid hs6
  clear hp6 hs6
  refine hK.out _ _ ⟨HP6.out, HS6.out⟩ trivial ?_
  clear hK K
  (try simp only [Act.put, List.setIfInBounds_toArray, List.set_cons_zero, List.set_cons_succ])
  refine PlanT.take0 (v := ?vSd10) (by kernel_rfl) ?ySd10 ?rSd10
  case ySd10 => (intro wz hz; obtain ⟨z1, z2⟩ := hz; have q12 := mem_nv z1 HNV.out; have b0 : wz.cell? ⟨w.heap.size, 0, none⟩ = some (.string e.u) := blk_cell z2; have b1 : wz.cell? ⟨w.heap.size, 1, none⟩ = some (.int .i64 e.s) := blk_cell z2; have b2 : wz.cell? ⟨w.heap.size, 2, none⟩ = some (.int .i64 e.k) := blk_cell z2; have b3 : wz.cell? ⟨w.heap.size, 3, none⟩ = some (.string e.v) := blk_cell z2; go_simp; try with_reducible rfl)
  (try simp only [Act.put, List.setIfInBounds_toArray, List.set_cons_zero, List.set_cons_succ])
  refine PlanT.exec2 (fun K hK => ⟨by kernel_rfl, ?_⟩)
  go_simp
  have hp7 := (Below.heap_alloc (w5.alloc (.cells (zeroC t) 3)) (.cells #[.string e.u, .int .i64 e.s, .int .i64 e.k, .string e.v, .slice (some ⟨w5.heap.size, 0, none⟩) t t] 59) p (blk_lt HP6.out)).trans HP6.out
  have hs7 := (Below.heap_alloc (w5.alloc (.cells (zeroC t) 3)) (.cells #[.string e.u, .int .i64 e.s, .int .i64 e.k, .string e.v, .slice (some ⟨w5.heap.size, 0, none⟩) t t] 59) w.heap.size (blk_lt HS6.out)).trans HS6.out
  have HP7 := Lib.hid hp7
  have HS7 := Lib.hid hs7
  clear hp7 hs7
  refine hK.out _ _ ⟨HP7.out, HS7.out⟩ trivial ?_
  clear hK K
  (try simp only [Act.put, List.setIfInBounds_toArray, List.set_cons_zero, List.set_cons_succ])
  refine PlanT.exec3 (fun K hK => ⟨by kernel_rfl, ?_⟩)
  refine wp_append_at (.tmp 41) (.tmp 48) 51 rfl 59 5 72 (.agg #[.string ⟨#[]⟩, .int .i64 0, .int .i64 0, .string ⟨#[]⟩, .slice none 0 0]) Try.underlying51 info_node rfl (by decide) (.slice na m.es.length nc) (.slice (some ⟨w5.heap.size + 1, 0, none⟩) 1 1) m.es.length 1 (nodeCells g.tb m.ht m.es) (newC e w5.heap.size t) rfl rfl ?ownd ?rdd (newC_one _ _ _) (by omega) (by unfold maxLen; omega) ?_
  case ownd => (rw [← HNV.out]; exact own_kept HM5.out.nr (R := fun k => k < w5.heap.size) (Kept.of (((Below.refl _ _).alloc (Nat.le_refl _) _).alloc (by simp) _) fun _ h => h) fun k e => own_lt HM5.out.nr k e)
  case rdd => exact one_node w5 e t
  intro v2 w8 ho2 hm2
  rw [HV.out] at ho2
  obtain ⟨av2, cv2, hv2, _, _⟩ := rd_of_own ho2
  subst hv2
  have hp8 := (hm2.grown.block p (by have := blk_lt HP7.out; omega) (fun e => HNP.out (by rw [HNV.out]; exact e.symm))).trans HP7.out
  have c12 := mem_nv hp8 HNV.out
  have f12 : w8.frozen? ⟨p, 12, none⟩ = false := blk_free hp8
  have HM2 := Lib.hid hm2
  have HO2 := Lib.hid ho2
  clear hm2 ho2 hp8
  refine hK.out _ _ trivial ?_
  clear hK K
  (try simp only [Act.put, List.setIfInBounds_toArray, List.set_cons_zero, List.set_cons_succ])
  refine PlanT.take1 (v := ?vSd13) (by kernel_rfl) ?ySd13 ?rSd13
  case ySd13 => (intro wz hz; go_simp; try with_reducible rfl)
  (try simp only [Act.put, List.setIfInBounds_toArray, List.set_cons_zero, List.set_cons_succ])
  refine PlanT.take1 (v := ?vSd14) (by kernel_rfl) ?ySd14 ?rSd14
  case ySd14 => (intro wz hz; go_simp; try with_reducible rfl)
  (try simp only [Act.put, List.setIfInBounds_toArray, List.set_cons_zero, List.set_cons_succ])
  refine PlanT.exec3 (fun K hK => ⟨by kernel_rfl, ?_⟩)
  go_simp
  refine hK.out _ _ trivial ?_
  clear hK K
  (try simp only [Act.put, List.setIfInBounds_toArray, List.set_cons_zero, List.set_cons_succ])
  refine PlanT.done (NoPanic.normal ?_)
  obtain ⟨w9, hw9⟩ : ∃ w9, w9 = w8.setCell ⟨p, 12, none⟩ (.slice av2 v cv2) := ⟨_, rfl⟩
  rw [← hw9]
  have hpush := MemAt.push HM5.out HOK.out e (t := t) (a2 := av2) (n2 := v) (c2 := cv2) (w8 := w8) (by rw [HV.out]; exact HO2.out) (by rw [HNV.out]; exact HM2.out)
  rw [← hw9] at hpush
  obtain ⟨hm9, ht9, hg9⟩ := hpush
  generalize hgg : g.more m.es.length w5.heap.size (.slice av2 v cv2) = g9 at hm9 hg9
  have hnv9 : g9.nv = .slice av2 v cv2 := by rw [← hgg]; rfl
  have hs9 : w9.heap[w.heap.size]? = some (.cells #[.string e.u, .int .i64 e.s, .int .i64 e.k, .string e.v] 34 (0, 0)) := (ht9.block _ ⟨blk_lt H5S.out, fun h => by have := HM.out.olt _ h; omega⟩).trans H5S.out
  have hq9 : w9.heap[w2.heap.size]? = some (.cells #[.int .i64 (q0 : Int), .int .i64 (q1 : Int), .int .i64 (q2 : Int), .int .i64 (q3 : Int), .int .i64 (q4 : Int), .int .i64 (q5 : Int), .int .i64 (q6 : Int), .int .i64 (q7 : Int), .int .i64 (q8 : Int), .int .i64 (q9 : Int), .int .i64 (q10 : Int), .int .i64 (q11 : Int)] 50 (0, 0)) := (ht9.block _ ⟨blk_lt H5Q.out, fun h => by have := HM.out.olt _ h; have := HB2.out.size; omega⟩).trans H5Q.out
  obtain ⟨wC, hwC⟩ : ∃ wC, wC = w9.drew := ⟨_, rfl⟩
  have hmC : MemAt g9 wC p (m.mid e t 0) := by rw [hwC]; exact hm9.drew
  have q12 : wC.cell? ⟨p, 12, none⟩ = some (.slice av2 v cv2) := by rw [← hnv9]; exact hmC.fields.1
  have hqC : wC.heap[w2.heap.size]? = some (.cells #[.int .i64 (q0 : Int), .int .i64 (q1 : Int), .int .i64 (q2 : Int), .int .i64 (q3 : Int), .int .i64 (q4 : Int), .int .i64 (q5 : Int), .int .i64 (q6 : Int), .int .i64 (q7 : Int), .int .i64 (q8 : Int), .int .i64 (q9 : Int), .int .i64 (q10 : Int), .int .i64 (q11 : Int)] 50 (0, 0)) := by rw [hwC]; exact hq9
  have pc0 : wC.cell? ⟨w2.heap.size, 0, none⟩ = some (.int .i64 (q0 : Int)) := blk_cell hqC
  have pc1 : wC.cell? ⟨w2.heap.size, 1, none⟩ = some (.int .i64 (q1 : Int)) := blk_cell hqC
  have pc2 : wC.cell? ⟨w2.heap.size, 2, none⟩ = some (.int .i64 (q2 : Int)) := blk_cell hqC
  have pc3 : wC.cell? ⟨w2.heap.size, 3, none⟩ = some (.int .i64 (q3 : Int)) := blk_cell hqC
  have pc4 : wC.cell? ⟨w2.heap.size, 4, none⟩ = some (.int .i64 (q4 : Int)) := blk_cell hqC
  have pc5 : wC.cell? ⟨w2.heap.size, 5, none⟩ = some (.int .i64 (q5 : Int)) := blk_cell hqC
  have pc6 : wC.cell? ⟨w2.heap.size, 6, none⟩ = some (.int .i64 (q6 : Int)) := blk_cell hqC
  have pc7 : wC.cell? ⟨w2.heap.size, 7, none⟩ = some (.int .i64 (q7 : Int)) := blk_cell hqC
  have pc8 : wC.cell? ⟨w2.heap.size, 8, none⟩ = some (.int .i64 (q8 : Int)) := blk_cell hqC
  have pc9 : wC.cell? ⟨w2.heap.size, 9, none⟩ = some (.int .i64 (q9 : Int)) := blk_cell hqC
  have pc10 : wC.cell? ⟨w2.heap.size, 10, none⟩ = some (.int .i64 (q10 : Int)) := blk_cell hqC
  have pc11 : wC.cell? ⟨w2.heap.size, 11, none⟩ = some (.int .i64 (q11 : Int)) := blk_cell hqC
  have hsC : wC.heap[w.heap.size]? = some (.cells #[.string e.u, .int .i64 e.s, .int .i64 e.k, .string e.v] 34 (0, 0)) := by rw [hwC]; exact hs9
  have hen := HENT.out g9 wC hmC
  have htC : Touch g.F w5 wC := by rw [hwC]; exact ht9.drew
  have hgC : Grows g.F g9.F w5 wC := by rw [hwC]; exact hg9
  have HwC := Lib.hid hwC
  have HEN := Lib.hid hen
  have HSC := Lib.hid hsC
  have HTC := Lib.hid htC
  have HGC := Lib.hid hgC
  have HMC := Lib.hid hmC
  clear hw9 hm9 ht9 hg9 hgg hnv9 hs9 hq9 hwC hmC hqC hsC hen htC hgC c12 f12 hmk
  go_wp2
  refine wp_region_two (fun wz => wz = wC) (fun _ => True) [(0, 0), (0, 1), (0, 2), (0, 3), (0, 4), (0, 5), (0, 6), (3, 7)] [7] (by kernel_rfl) (by kernel_rfl) (by kernel_rfl) (by kernel_rfl) (by kernel_rfl) HwC.out.symm trivial ?_
  simp only [planT, List.drop_succ_cons, List.drop_zero]
  rw [← HwC.out]
  refine PlanT.take0 (v := ?vTd0) (by kernel_rfl) ?yTd0 ?rTd0
  case yTd0 => (intro wz hz; cases hz; go_simp; try with_reducible rfl)
  (try simp only [Act.put, List.setIfInBounds_toArray, List.set_cons_zero, List.set_cons_succ])
  refine PlanT.take0 (v := ?vTd1) (by kernel_rfl) ?yTd1 ?rTd1
  case yTd1 => (intro wz hz; cases hz; go_simp; try with_reducible rfl)
  (try simp only [Act.put, List.setIfInBounds_toArray, List.set_cons_zero, List.set_cons_succ])
  refine PlanT.take0 (v := ?vTd2) (by kernel_rfl) ?yTd2 ?rTd2
  case yTd2 => (intro wz hz; cases hz; go_simp; try with_reducible rfl)
  (try simp only [Act.put, List.setIfInBounds_toArray, List.set_cons_zero, List.set_cons_succ])
  refine PlanT.take0 (v := ?vTd3) (by kernel_rfl) ?yTd3 ?rTd3
  case yTd3 => (intro wz hz; cases hz; go_simp; try with_reducible rfl)
  (try simp only [Act.put, List.setIfInBounds_toArray, List.set_cons_zero, List.set_cons_succ])
  refine PlanT.take0 (v := ?vTd4) (by kernel_rfl) ?yTd4 ?rTd4
  case yTd4 => (intro wz hz; cases hz; go_simp; try with_reducible rfl)
  (try simp only [Act.put, List.setIfInBounds_toArray, List.set_cons_zero, List.set_cons_succ])
  refine PlanT.take0 (v := ?vTd5) (by kernel_rfl) ?yTd5 ?rTd5
  case yTd5 => (intro wz hz; cases hz; go_simp; try with_reducible rfl)
  (try simp only [Act.put, List.setIfInBounds_toArray, List.set_cons_zero, List.set_cons_succ])
  refine PlanT.take0 (v := ?vTd6) (by kernel_rfl) ?yTd6 ?rTd6
  case yTd6 => (intro wz hz; cases hz; go_simp; try with_reducible rfl)
  (try simp only [Act.put, List.setIfInBounds_toArray, List.set_cons_zero, List.set_cons_succ])
  refine PlanT.exec3 (fun K hK => ⟨by kernel_rfl, ?_⟩)
  go_simp
  go_at_call 24
  (with_reducible refine HEN.out.mono ?_)
  rintro r w11 ⟨rfl, hm11, ht11⟩
  go_wp2_with fail
  refine hK.out _ _ trivial ?_
  clear hK K
  (try simp only [Act.put, List.setIfInBounds_toArray, List.set_cons_zero, List.set_cons_succ])
  refine PlanT.done (NoPanic.normal ?_)
  obtain ⟨wD, hwD⟩ : ∃ wD, wD = w11.drew := ⟨_, rfl⟩
  have hmD : MemAt g9 wD p (m.mid e t t) := by rw [hwD]; exact hm11.drew
  have q13 : wD.cell? ⟨p, 13, none⟩ = some (.int .i64 (m.sz : Int)) := hmD.fields.2.1
  have f13 : wD.frozen? ⟨p, 13, none⟩ = false := hmD.fields.2.2.2
  have hsD : wD.heap[w.heap.size]? = some (.cells #[.string e.u, .int .i64 e.s, .int .i64 e.k, .string e.v] 34 (0, 0)) := by
    rw [hwD]
    refine (ht11.block _ ⟨blk_lt HSC.out, fun h => ?_⟩).trans HSC.out
    rcases HGC.out _ h with h1 | h1
    · have := HM.out.olt _ h1; omega
    · have := blk_lt H5S.out; omega
  have b0 : wD.cell? ⟨w.heap.size, 0, none⟩ = some (.string e.u) := blk_cell hsD
  have b3 : wD.cell? ⟨w.heap.size, 3, none⟩ = some (.string e.v) := blk_cell hsD
  have HwD := Lib.hid hwD
  have HMD := Lib.hid hmD
  have HT11 := Lib.hid ht11
  clear hwD hmD hsD ht11 hm11 q12 pc0 pc1 pc2 pc3 pc4 pc5 pc6 pc7 pc8 pc9 pc10 pc11
  go_wp2
  refine wp_region_two (fun wz => wz = wD) (fun _ => True) [(0, 0), (0, 1), (0, 2), (0, 3), (0, 4), (0, 5), (0, 6), (0, 7), (0, 8), (0, 9), (0, 10), (0, 11), (0, 12), (0, 13), (0, 14), (3, 15)] [15] (by kernel_rfl) (by kernel_rfl) (by kernel_rfl) (by kernel_rfl) (by kernel_rfl) HwD.out.symm trivial ?_
  simp only [planT, List.drop_succ_cons, List.drop_zero]
  rw [← HwD.out]
  refine PlanT.take0 (v := ?vUd0) (by kernel_rfl) ?yUd0 ?rUd0
  case yUd0 => (intro wz hz; cases hz; go_simp; try with_reducible rfl)
  (try simp only [Act.put, List.setIfInBounds_toArray, List.set_cons_zero, List.set_cons_succ])
  refine PlanT.take0 (v := ?vUd1) (by kernel_rfl) ?yUd1 ?rUd1
  case yUd1 => (intro wz hz; cases hz; go_simp; try with_reducible rfl)
  (try simp only [Act.put, List.setIfInBounds_toArray, List.set_cons_zero, List.set_cons_succ])
  refine PlanT.take0 (v := ?vUd2) (by kernel_rfl) ?yUd2 ?rUd2
  case yUd2 => (intro wz hz; cases hz; go_simp; try with_reducible rfl)
  (try simp only [Act.put, List.setIfInBounds_toArray, List.set_cons_zero, List.set_cons_succ])
  refine PlanT.take0 (v := ?vUd3) (by kernel_rfl) ?yUd3 ?rUd3
  case yUd3 => (intro wz hz; cases hz; go_simp; try with_reducible rfl)
  (try simp only [Act.put, List.setIfInBounds_toArray, List.set_cons_zero, List.set_cons_succ])
  refine PlanT.take0 (v := ?vUd4) (by kernel_rfl) ?yUd4 ?rUd4
  case yUd4 => (intro wz hz; cases hz; go_simp; try with_reducible rfl)
  (try simp only [Act.put, List.setIfInBounds_toArray, List.set_cons_zero, List.set_cons_succ])
  refine PlanT.take0 (v := ?vUd5) (by kernel_rfl) ?yUd5 ?rUd5
  case yUd5 => (intro wz hz; cases hz; go_simp; try with_reducible rfl)
  (try simp only [Act.put, List.setIfInBounds_toArray, List.set_cons_zero, List.set_cons_succ])
  refine PlanT.take0 (v := ?vUd6) (by kernel_rfl) ?yUd6 ?rUd6
  case yUd6 => (intro wz hz; cases hz; go_simp; try with_reducible rfl)
  (try simp only [Act.put, List.setIfInBounds_toArray, List.set_cons_zero, List.set_cons_succ])
  refine PlanT.take0 (v := ?vUd7) (by kernel_rfl) ?yUd7 ?rUd7
  case yUd7 => (intro wz hz; cases hz; go_simp; try with_reducible rfl)
  (try simp only [Act.put, List.setIfInBounds_toArray, List.set_cons_zero, List.set_cons_succ])
  refine PlanT.take0 (v := ?vUd8) (by kernel_rfl) ?yUd8 ?rUd8
  case yUd8 => (intro wz hz; cases hz; go_simp; try with_reducible rfl)
  (try simp only [Act.put, List.setIfInBounds_toArray, List.set_cons_zero, List.set_cons_succ])
  refine PlanT.take0 (v := ?vUd9) (by kernel_rfl) ?yUd9 ?rUd9
  case yUd9 => (intro wz hz; cases hz; go_simp; try with_reducible rfl)
  (try simp only [Act.put, List.setIfInBounds_toArray, List.set_cons_zero, List.set_cons_succ])
  refine PlanT.take0 (v := ?vUd10) (by kernel_rfl) ?yUd10 ?rUd10
  case yUd10 => (intro wz hz; cases hz; go_simp; try with_reducible rfl)
  (try simp only [Act.put, List.setIfInBounds_toArray, List.set_cons_zero, List.set_cons_succ])
  refine PlanT.take0 (v := ?vUd11) (by kernel_rfl) ?yUd11 ?rUd11
  case yUd11 => (intro wz hz; cases hz; go_simp; try with_reducible rfl)
  (try simp only [Act.put, List.setIfInBounds_toArray, List.set_cons_zero, List.set_cons_succ])
  refine PlanT.take0 (v := ?vUd12) (by kernel_rfl) ?yUd12 ?rUd12
  case yUd12 => (intro wz hz; cases hz; go_simp; try with_reducible rfl)
  (try simp only [Act.put, List.setIfInBounds_toArray, List.set_cons_zero, List.set_cons_succ])
  refine PlanT.take0 (v := ?vUd13) (by kernel_rfl) ?yUd13 ?rUd13
  case yUd13 => (intro wz hz; cases hz; go_simp; try with_reducible rfl)
  (try simp only [Act.put, List.setIfInBounds_toArray, List.set_cons_zero, List.set_cons_succ])
  refine PlanT.take0 (v := ?vUd14) (by kernel_rfl) ?yUd14 ?rUd14
  case yUd14 => (intro wz hz; cases hz; go_simp; try with_reducible rfl)
  (try simp only [Act.put, List.setIfInBounds_toArray, List.set_cons_zero, List.set_cons_succ])
  refine PlanT.exec3 (fun K hK => ⟨by kernel_rfl, ?_⟩)
  go_simp
  refine hK.out _ _ trivial ?_
  clear hK K
  (try simp only [Act.put, List.setIfInBounds_toArray, List.set_cons_zero, List.set_cons_succ])
  refine PlanT.done (NoPanic.normal ?_)
  have hsum : IntKind.i64.wrap ((m.sz : Int) + IntKind.i64.wrap ((e.u.size : Int) + (e.v.size : Int))) = ((m.sz + sizeE e : Nat) : Int) := by rw [IntWalk.i64_in ((e.u.size : Int) + (e.v.size : Int)) (by omega), IntWalk.i64_in _ (by omega)]; unfold sizeE; omega
  rw [hsum]
  have hfin := HMD.out.resize (m.sz + sizeE e)
  have HFIN := Lib.hid hfin
  clear hfin hsum q13 f13 b0 b3
  go_wp2
  go_ret
  have T1 : Touch g.F w wC := (Touch.of_below HB5.out).trans HTC.out (Grows.refl _ _ _)
  have G1 : Grows g.F g9.F w wC := (Grows.refl g.F w w5).trans HGC.out HB5.out.size HTC.out.size
  have T2 : Touch g9.F wC wD := by rw [HwD.out]; exact HT11.out.drew
  have T3 := (T1.trans T2 G1).trans HFIN.out.2 (G1.trans (Grows.refl g9.F wC wD) T1.size T2.size)
  refine ⟨ret_bool HADD.out, g9, m.add e t, MemAt.done HFIN.out.1, HOK2.out, HALL.out, T3, ?_⟩
  exact (G1.trans (Grows.refl g9.F wC wD) T1.size T2.size).trans (Grows.refl g9.F wD _) (T1.trans T2 G1).size HFIN.out.2.size

theorem memAdd_at {g : GM} {w : World} {p : Nat} {m : MS} (hm : MemAt g w p m) (hok : m.Ok) (e : Ent) (he : e.fits) (hgt : Int) (hlen : m.es.length < 100000) :
    Calls Try.prog 9 #[.pointer (some ⟨p, 0, none⟩), entV e, .int .i64 hgt] w (AddTo g p m e w) := by
  cases hmay : e.may with
  | false => exact add_no hm hok e he hgt hmay
  | true =>
    rcases high_of (m := m) e with ⟨h1, h2⟩ | ⟨a, r, h1, h2⟩
    · exact add_last hm hok e he hgt hlen hmay h1 h2
    · by_cases hne : (m.ent a).u.toList = e.u.toList ∧ (m.ent a).s = e.s ∧ (m.ent a).k = e.k
      · exact add_there hm hok e he hgt hmay a r h1 h2 (m.ent a).u (m.ent a).s (m.ent a).k (m.ent a).v rfl (by have := hne.1; rw [toList_data, toList_data] at this; exact ByteArray.ext (Array.toList_inj.1 this)) hne.2.1 hne.2.2
      · exact add_ahead hm hok e he hgt hlen hmay a r h1 h2 (m.ent a).u (m.ent a).s (m.ent a).k (m.ent a).v rfl hne
end Go.Proofs.Ytjiefffmcohcbaa
