import Derived.Test.YtfeogoihkpclcaaMg24
import Derived.Deep.Cut

/-
  The document's disk falls.
-/
namespace Go.Proofs.Ytfeogoihkpclcaa
open Go.RowKit

theorem DocTo.drew {o : Nat → DR} {w w' : World} {q : Nat} {m : DM} (h : DocTo o w w' q m) : DocTo o w w'.drew q m := by
  obtain ⟨o2, v2, g2, h1, h2, h3⟩ := h
  exact ⟨o2, v2, g2, h1.below (Below.refl _ _).drew, h2.drew, h3⟩

/-- What lies apart from the disk stays. -/
theorem touch_blk {o : Nat → DR} {w w' : World} (h : Touch (DF_ o) w w') {k : Nat} {x : Obj} (ho : o k = .out) (hx : w.heap[k]? = some x) : w'.heap[k]? = some x :=
  (h.block k ⟨blk_lt hx, fun hd => hd ho⟩).trans hx
theorem touch_cell {o : Nat → DR} {w w' : World} (h : Touch (DF_ o) w w') {k i : Nat} {x : Value} (ho : o k = .out) (hk : k < w.heap.size) (hx : w.cell? ⟨k, i, none⟩ = some x) : w'.cell? ⟨k, i, none⟩ = some x :=
  (h.cell (p := ⟨k, i, none⟩) ⟨hk, fun hd => hd ho⟩).trans hx

/-- A file that is falling, so many of its writes done. -/
def FallL (o : Nat → DR) (w1 w : World) (q : Nat) (mi : DM) (id fp : Nat) (F : DF) (b : List UInt8) : Prop :=
  ∃ o3 v3 g3 g, DocAt o3 v3 g3 w q { mi with files := mi.files.set id ⟨b, F.loose⟩ } ∧ g3[id]? = some g ∧ g.fp = fp ∧ g.df = ⟨b, F.loose⟩ ∧ Touch (DF_ o) w1 w ∧ Grows (DF_ o) (DF_ o3) w1 w

theorem fset_self {l : List DF} {i : Nat} {x : DF} (h : l[i]? = some x) : l.set i x = l := by
  refine List.ext_getElem? fun j => ?_
  rw [List.getElem?_set]
  by_cases e : i = j
  · subst e
    rw [if_pos rfl, if_pos (List.getElem?_eq_some_iff.1 h).1, h]
  · rw [if_neg e]

theorem FallL.start {o o2 : Nat → DR} {v2 : DV} {g2 : List GD} {w1 w : World} {q : Nat} {mi : DM} {id : Nat} {g : GD} (h : DocAt o2 v2 g2 w q mi) (hg : g2[id]? = some g) (ht : Touch (DF_ o) w1 w) (hgr : Grows (DF_ o) (DF_ o2) w1 w) : FallL o w1 w q mi id g.fp g.df g.df.safe := by
  have e : mi.files[id]? = some g.df := by rw [h.fls, List.getElem?_map, hg]; rfl
  have e2 : ({ mi with files := mi.files.set id ⟨g.df.safe, g.df.loose⟩ } : DM) = mi := by
    show ({ mi with files := mi.files.set id g.df } : DM) = mi
    rw [fset_self e]
  exact ⟨o2, v2, g2, g, by rw [e2]; exact h, hg, rfl, rfl, ht, hgr⟩

theorem DocAt.scal2 {o : Nat → DR} {v : DV} {gs : List GD} {w w' : World} {q : Nat} {m m' : DM} (h : DocAt o v gs w q m) (hk : Kept (fun k => k < w.heap.size ∧ k ≠ q) w w') {kv' : Value} (hkv : ∃ a n c, kv' = .slice a n c) (hb : w'.heap[q]? = some (.cells (docCells { v with kv := kv' } m') 56 (0, 0)))
    (h1 : m'.files = m.files) (h2 : m'.now = m.now) (h3 : m'.old = m.old) (h4 : m'.loose = m.loose) : DocAt o { v with kv := kv' } gs w' q m' where
  blk := hb
  rol := h.rol
  fls := by rw [h1]; exact h.fls
  row := own_kept h.row hk fun k e => ⟨h.lt k (by rw [h.orow k e]; decide), fun ep => by subst ep; have := h.orow k e; rw [h.rol] at this; cases this⟩
  orow := h.orow
  each i g hg := (h.each i g hg).kept hk fun k e => ⟨h.lt k (by rcases e with e | e | e <;> rw [e] <;> simp), fun ep => by subst ep; rcases e with e | e | e <;> rw [h.rol] at e <;> cases e⟩
  now := by rw [h2]; exact rd_kept_any h.now hk fun _ k e => ⟨h.lt k (by rw [h.onow k e]; decide), fun ep => by subst ep; have := h.onow k e; rw [h.rol] at this; cases this⟩
  onow := h.onow
  old := by rw [h3]; exact rd_kept_any h.old hk fun _ k e => ⟨h.lt k (by rw [h.oold k e]; decide), fun ep => by subst ep; have := h.oold k e; rw [h.rol] at this; cases this⟩
  oold := h.oold
  chg := by rw [h4]; exact own_kept h.chg hk fun k e => ⟨h.lt k (by rw [h.ochg k e]; decide), fun ep => by subst ep; have := h.ochg k e; rw [h.rol] at this; cases this⟩
  ochg := h.ochg
  keep := hkv
  lt k hk' := Nat.lt_of_lt_of_le (h.lt k hk') hk.size

theorem DExt.refl (o : Nat → DR) : DExt o o := fun _ _ => rfl

theorem FallL.done {o : Nat → DR} {w1 w : World} {q : Nat} {mi : DM} {id fp : Nat} {F : DF} {b : List UInt8} (h : FallL o w1 w q mi id fp F b) : DocTo o w1 (w.setCell ⟨fp, 1, none⟩ (.slice none 0 0)) q { mi with files := mi.files.set id ⟨b, []⟩ } := by
  obtain ⟨o3, v3, g3, g, hD, hg, rfl, hdf, hT, hG⟩ := h
  have ga := hD.each id g hg
  have hsf : g.safe = b := congrArg DF.safe hdf
  have hk : Kept (fun k => k < w.heap.size ∧ k ≠ g.fp ∧ g.pv.ownBlock ≠ some k) w (w.setCell ⟨g.fp, 1, none⟩ (.slice none 0 0)) := (Kept.refl _ w).setCell (fun h => h.2.1 rfl) _
  have hs : (w.setCell ⟨g.fp, 1, none⟩ (.slice none 0 0)).heap.size = w.heap.size := by simp [World.setCell]
  have aw : ∀ {k : Nat} {r : DR}, o3 k = r → r ≠ .out → r ≠ .file id → r ≠ .puts id → k < w.heap.size ∧ k ≠ g.fp ∧ g.pv.ownBlock ≠ some k := fun e h0 h1 h2 => ⟨hD.lt _ (by rw [e]; exact h0), fun ep => h1 (by rw [← e, ep, ga.rol]), fun ep => h2 (by rw [← e, ga.orow _ ep])⟩
  obtain ⟨hz, ht⟩ := hD.set_file (g' := ⟨g.fp, g.sv, .slice none 0 0, b, []⟩) hg rfl hk ((blk_set (i := 1) ga.blk _).trans (by simp))
    (by rw [← hsf]; exact rd_kept_any ga.safe hk fun _ k e => aw (ga.os k e) (by simp) (by simp) (by simp))
    (World.ownsRow_nil _ _ _ _) (fun x hx => (nomatch hx)) (DExt.refl o3) (fun k hk => by rw [hs]; exact hD.lt k hk) ga.os (fun k e => (nomatch e)) (fun x hx => (nomatch hx)) rfl
  have e2 : (GD.df ⟨g.fp, g.sv, .slice none 0 0, b, []⟩) = ⟨b, []⟩ := rfl
  rw [e2] at hz
  dsimp only at hz
  rw [List.set_set] at hz
  exact ⟨o3, v3, _, hz, hT.trans ht hG, hG.trans (Grows.refl _ _ _) hT.size ht.size⟩

theorem FallL.next {o : Nat → DR} {w1 w w6 : World} {q : Nat} {mi : DM} {id fp : Nat} {F : DF} {b b' : List UInt8} {u : Value} (h : FallL o w1 w q mi id fp F b) (hb : Below w.heap.size w w6) (hu : OwnB w6 w.heap.size 5 u b') :
    FallL o w1 (w6.setCell ⟨fp, 0, none⟩ u) q mi id fp F b' := by
  obtain ⟨o3, v3, g3, g, hD, hg, rfl, hdf, hT, hG⟩ := h
  have ga := hD.each id g hg
  have hfl : g.fp < w.heap.size := blk_lt ga.blk
  have hf6 : w6.heap[g.fp]? = some (.cells #[g.sv, g.pv] 98 (0, 0)) := (hb.block g.fp hfl).trans ga.blk
  have hk : Kept (fun k => k < w.heap.size ∧ k ≠ g.fp) w (w6.setCell ⟨g.fp, 0, none⟩ u) := (Kept.of hb fun _ h => h.1).setCell (fun h => h.2 rfl) _
  have hk6 : Kept (fun k => k ≠ g.fp) w6 (w6.setCell ⟨g.fp, 0, none⟩ u) := (Kept.refl _ w6).setCell (fun h => h rfl) _
  have hs : (w6.setCell ⟨g.fp, 0, none⟩ u).heap.size = w6.heap.size := by simp [World.setCell]
  have hub : ∀ k, u.ownBlock = some k → w.heap.size ≤ k ∧ k < w6.heap.size := fun k e => World.ownsRow.lt hu k e
  have hps : pwL g.ps = F.loose := congrArg DF.loose hdf
  have hext : DExt o3 (cl o3 u.ownBlock .data) := cl_ext hD.lt fun k e => .inr (hub k e).1
  have aw : ∀ {k : Nat} {r : DR}, o3 k = r → r ≠ .out → r ≠ .file id → k < w.heap.size ∧ k ≠ g.fp := fun e h0 h1 => ⟨hD.lt _ (by rw [e]; exact h0), fun ep => h1 (by rw [← e, ep, ga.rol])⟩
  obtain ⟨hz, ht⟩ := hD.set_file (g' := ⟨g.fp, u, g.pv, b', g.ps⟩) hg rfl (hk.mono fun k h => ⟨h.1, h.2.1⟩) ((blk_set (i := 0) hf6 _).trans (by simp))
    (RdB.kept hu.read hk6 fun k e ep => by subst ep; have := (hub _ e).1; omega)
    (own_kept ga.row hk fun k e => aw (ga.orow k e) (by simp) (by simp)) (fun x hx => rd_kept_any (ga.each x hx) hk fun _ k e => aw (ga.oe x hx k e) (by simp) (by simp))
    hext (cl_lt (fun k e => by rw [hs]; exact Nat.lt_of_lt_of_le (hD.lt k e) hb.size) fun k e => by rw [hs]; exact (hub k e).2) (fun k e => cl_own k e) (fun k e => hext.at_ (ga.orow k e) (by simp)) (fun x hx k e => hext.at_ (ga.oe x hx k e) (by simp)) rfl
  have e2 : (GD.df ⟨g.fp, u, g.pv, b', g.ps⟩) = ⟨b', F.loose⟩ := by unfold GD.df; rw [hps]
  rw [e2] at hz
  dsimp only at hz
  rw [List.set_set] at hz
  have hg' : (g3.set id ⟨g.fp, u, g.pv, b', g.ps⟩)[id]? = some ⟨g.fp, u, g.pv, b', g.ps⟩ := by rw [List.getElem?_set, if_pos rfl, if_pos (List.getElem?_eq_some_iff.1 hg).1]
  exact ⟨_, v3, _, _, hz, hg', rfl, e2, hT.trans ht hG, hG.trans (cl_grows (by simp) fun k e => .inr ⟨(hub k e).1, by rw [hs]; exact (hub k e).2⟩) hT.size ht.size⟩

theorem dc_at (l : List DC) {j : Nat} {c : DC} (h : l[j]? = some c) : (dcCells l)[j * 3]? = some (.string (strB c.src)) ∧ (dcCells l)[j * 3 + 1]? = some (.string (strB c.dst)) ∧ (dcCells l)[j * 3 + 2]? = some (.int .i64 (c.id : Int)) := by
  have hat := fun i hi => flat_at (fun c : DC => [Value.string (strB c.src), .string (strB c.dst), .int .i64 (c.id : Int)]) 3 (fun _ => rfl) l j i hi
  rw [h] at hat
  exact ⟨hat 0 (by omega), hat 1 (by omega), hat 2 (by omega)⟩

set_option maxRecDepth 100000 in
set_option maxHeartbeats 16000000 in
set_option linter.unusedSimpArgs false in
theorem dfall_any {o : Nat → DR} {v : DV} {gs : List GD} {w : World} {q : Nat} {m : DM} (h : DocAt o v gs w q m) (p : DP) (hfa : DFa m p) (ka : Option Addr) (kc : Nat) (hkc0 : p.keep.length ≤ kc) (hkv : p.keep = [] ∨ ∃ kb ko, ka = some ⟨kb, ko, none⟩ ∧ kb < w.heap.size ∧ o kb = .out ∧ ∀ i, i < p.keep.length → w.cell? ⟨kb, ko + i, none⟩ = some (.int .i64 (p.keep.getD i 0))) :
    Calls Try.prog 40 #[.pointer (some ⟨q, 0, none⟩), .agg #[.int .i64 p.room, .int .i64 p.crash, .bool p.done, .slice ka p.keep.length kc, .int .i64 p.names]] w fun e w' => e = .returned (.tuple #[]) ∧ DocTo o w w' q (m.fall p) := by
  obtain ⟨wb, hwb⟩ : ∃ wb, wb = w.alloc (.cells #[.int .i64 p.room, .int .i64 p.crash, .bool p.done, .slice ka p.keep.length kc, .int .i64 p.names] 24) := ⟨_, rfl⟩
  have hbb : Below w.heap.size w wb := by rw [hwb]; exact (Below.refl _ _).alloc (Nat.le_refl _) _
  obtain ⟨w1, hw1⟩ : ∃ w1, w1 = wb.drew := ⟨_, rfl⟩
  have hb1 : Below w.heap.size w w1 := by rw [hw1]; exact hbb.drew
  have hx1 : w1.heap[w.heap.size]? = some (.cells #[.int .i64 p.room, .int .i64 p.crash, .bool p.done, .slice ka p.keep.length kc, .int .i64 p.names] 24 (0, 0)) := by rw [hw1, hwb]; exact heap_alloc_new w _
  have hD1 := h.below hb1
  have hoB : o w.heap.size = .out := by
    by_cases e : o w.heap.size = .out
    · exact e
    · exact absurd (h.lt _ e) (by omega)
  have b4 : w1.cell? ⟨w.heap.size, 4, none⟩ = some (.int .i64 p.names) := blk_cell hx1
  obtain ⟨la, lc, hlv, _, _⟩ := rd_of_own hD1.chg
  have q3 : w1.cell? ⟨q, 3, none⟩ = some (.slice la m.loose.length lc) := by rw [← hlv]; exact blk_cell hD1.blk
  have hll := hfa.sm.loose
  have HREST := Lib.hid (rest_any w1 p.names m.loose.length (by omega) hfa.nn.2)
  obtain ⟨n, hn⟩ : ∃ n, rest p.names m.loose.length = n := ⟨_, rfl⟩
  have hnl : n ≤ m.loose.length := by rw [← hn]; exact rest_le _ _
  rw [hn] at HREST
  have HN := Lib.hid hn
  have HH := Lib.hid h
  have HFA := Lib.hid hfa
  have HKV := Lib.hid hkv
  have HKC := Lib.hid hkc0
  have HWB := Lib.hid hwb
  have HW1 := Lib.hid hw1
  have HB1 := Lib.hid hb1
  have HX1 := Lib.hid hx1
  have HD1 := Lib.hid hD1
  have HOB := Lib.hid hoB
  have HOB1 := Lib.hid hoB
  clear h hfa hkv hkc0 hwb hbb hw1 hb1 hx1 hD1 hoB hlv hn
  go_enter Try.func40, Try.ntmps40
  go_wp2_with fail
  rw [← HWB.out]
  refine wp_region_two (fun wz => wz.cell? ⟨w.heap.size, 4, none⟩ = some (.int .i64 p.names) ∧ wz.cell? ⟨q, 3, none⟩ = some (.slice la m.loose.length lc)) (fun _ => True) [(0, 0), (0, 1), (0, 2), (0, 3), (0, 4), (0, 5), (0, 6), (2, 7), (0, 8)] [] (by kernel_rfl) (by kernel_rfl) (by kernel_rfl) (by kernel_rfl) (by kernel_rfl) (by rw [← HW1.out]; exact ⟨b4, q3⟩) trivial ?_
  simp only [planT, List.drop_succ_cons, List.drop_zero]
  rw [← HW1.out]
  refine PlanT.take0 (v := ?vA0) (by kernel_rfl) ?yA0 ?rA0
  case yA0 => (intro wz hz; obtain ⟨z1, z2⟩ := hz; go_simp; try with_reducible rfl)
  (try simp only [Act.put, List.setIfInBounds_toArray, List.set_cons_zero, List.set_cons_succ])
  refine PlanT.take0 (v := ?vA1) (by kernel_rfl) ?yA1 ?rA1
  case yA1 => (intro wz hz; obtain ⟨z1, z2⟩ := hz; go_simp; try with_reducible rfl)
  (try simp only [Act.put, List.setIfInBounds_toArray, List.set_cons_zero, List.set_cons_succ])
  refine PlanT.take0 (v := ?vA2) (by kernel_rfl) ?yA2 ?rA2
  case yA2 => (intro wz hz; obtain ⟨z1, z2⟩ := hz; go_simp; try with_reducible rfl)
  (try simp only [Act.put, List.setIfInBounds_toArray, List.set_cons_zero, List.set_cons_succ])
  refine PlanT.take0 (v := ?vA3) (by kernel_rfl) ?yA3 ?rA3
  case yA3 => (intro wz hz; obtain ⟨z1, z2⟩ := hz; go_simp; try with_reducible rfl)
  (try simp only [Act.put, List.setIfInBounds_toArray, List.set_cons_zero, List.set_cons_succ])
  refine PlanT.take0 (v := ?vA4) (by kernel_rfl) ?yA4 ?rA4
  case yA4 => (intro wz hz; obtain ⟨z1, z2⟩ := hz; go_simp; try with_reducible rfl)
  (try simp only [Act.put, List.setIfInBounds_toArray, List.set_cons_zero, List.set_cons_succ])
  refine PlanT.take0 (v := ?vA5) (by kernel_rfl) ?yA5 ?rA5
  case yA5 => (intro wz hz; obtain ⟨z1, z2⟩ := hz; go_simp; try with_reducible rfl)
  (try simp only [Act.put, List.setIfInBounds_toArray, List.set_cons_zero, List.set_cons_succ])
  refine PlanT.take0 (v := ?vA6) (by kernel_rfl) ?yA6 ?rA6
  case yA6 => (intro wz hz; obtain ⟨z1, z2⟩ := hz; go_simp; try with_reducible rfl)
  (try simp only [Act.put, List.setIfInBounds_toArray, List.set_cons_zero, List.set_cons_succ])
  refine PlanT.exec2 (fun K hK => ⟨by kernel_rfl, ?_⟩)
  go_simp
  go_at_call 69
  (with_reducible refine HREST.out.mono ?_)
  rintro e wx ⟨rfl, rfl⟩
  go_wp2_with fail
  refine hK.out _ _ ⟨b4, q3⟩ trivial ?_
  clear hK K
  (try simp only [Act.put, List.setIfInBounds_toArray, List.set_cons_zero, List.set_cons_succ])
  refine PlanT.take0 (v := ?vA8) (by kernel_rfl) ?yA8 ?rA8
  case yA8 => (intro wz hz; obtain ⟨z1, z2⟩ := hz; go_simp; try with_reducible rfl)
  (try simp only [Act.put, List.setIfInBounds_toArray, List.set_cons_zero, List.set_cons_succ])
  refine PlanT.done (NoPanic.normal ?_)
  clear b4 q3
  go_wp2
  go_loopw [5] (fun i wr => ∃ j : Nat, j ≤ n ∧ i = .int .i64 j ∧ Hid (DocTo o w1 wr q { m with old := (m.loose.take j).foldl dchanged m.old })) (fun i _ => n - (intOf i).toNat)
  case atStart => exact ⟨0, Nat.zero_le _, rfl, Lib.hid (DocTo.of_below HD1.out (Below.refl _ _))⟩
  case round =>
    obtain ⟨j, hj, rfl, HT⟩ := hrel
    by_cases hlt : j < n
    · obtain ⟨c, hc⟩ : ∃ c, m.loose[j]? = some c := ⟨_, List.getElem?_eq_getElem (by omega)⟩
      obtain ⟨w4, hw4⟩ : ∃ w4, w4 = wr.drew := ⟨_, rfl⟩
      obtain ⟨o2, v2, g2, hD4, hT4, hG4⟩ := HT.out.drew
      rw [← hw4] at hD4 hT4 hG4
      obtain ⟨mj, hmj⟩ : ∃ mj : DM, mj = { m with old := (m.loose.take j).foldl dchanged m.old } := ⟨_, rfl⟩
      rw [← hmj] at hD4
      have hjl : mj.loose = m.loose := by rw [hmj]
      have hjo : mj.old = (m.loose.take j).foldl dchanged m.old := by rw [hmj]
      have hpre := HFA.out.pre j (by omega)
      rw [← hjo] at hpre
      obtain ⟨lb, lc2, lcur, hlv, hl1, _, hlb, hlc, _⟩ := own_form hD4.chg (by rw [hjl]; omega)
      have hcj : mj.loose[j]? = some c := by rw [hjl]; exact hc
      obtain ⟨d1, d2, d3⟩ := dc_at mj.loose hcj
      have L1 := Lib.hid (hlc _ _ d1)
      have L2 := Lib.hid (hlc _ _ d2)
      have L3 := Lib.hid (hlc _ _ d3)
      have hjlen : j < mj.loose.length := (List.getElem?_eq_some_iff.1 hcj).1
      obtain ⟨oa, oc, hov, _, _⟩ := hD4.old
      have hro : Rd w4 2 (.slice oa mj.old.length oc) mj.old.length (bCells mj.old) := by rw [← hov]; exact hD4.old
      have HCH := Lib.hid (dchanged_any w4 (.slice oa mj.old.length oc) mj.old c (by omega) (by have := HFA.out.cid c (List.mem_of_getElem? hc); omega) (fun x hx => by have h1 := (hpre.2 x hx).1; have h2 := HFA.out.sm.fls; omega) hro)
      have H4 := Lib.hid hD4.blk
      have HD4 := Lib.hid hD4
      have HT4 := Lib.hid hT4
      have HG4 := Lib.hid hG4
      have HOV := Lib.hid hov
      have HLV := Lib.hid hlv
      have HLB := Lib.hid (blk_lt hlb)
      have HW4 := Lib.hid hw4
      have HMJ := Lib.hid hmj
      have HJO := Lib.hid hjo
      have HC := Lib.hid hc
      have hllj : mj.loose.length ≤ lc2 := hl1
      clear hc hw4 hD4 hT4 hG4 hmj hjl hjo hpre hlv hlb hlc hcj d1 d2 d3 hov hro
      go_wp2
      refine wp_region_two (fun wz => wz.heap[q]? = some (.cells (docCells v2 mj) 56 (0, 0)) ∧ wz.cell? ⟨lb, j * 3, none⟩ = some (.string (strB c.src)) ∧ wz.cell? ⟨lb, j * 3 + 1, none⟩ = some (.string (strB c.dst)) ∧ wz.cell? ⟨lb, j * 3 + 2, none⟩ = some (.int .i64 (c.id : Int))) (fun _ => True) [(0, 0), (0, 1), (0, 2), (0, 3), (0, 4), (0, 5), (0, 6), (0, 7), (0, 8), (0, 9), (0, 10), (0, 11), (2, 12), (0, 13), (0, 14), (3, 15)] [15] (by kernel_rfl) (by kernel_rfl) (by kernel_rfl) (by kernel_rfl) (by kernel_rfl) (by rw [← HW4.out]; exact ⟨H4.out, L1.out, L2.out, L3.out⟩) trivial ?_
      simp only [planT, List.drop_succ_cons, List.drop_zero]
      rw [← HW4.out]
      refine PlanT.take0 (v := ?vB0) (by kernel_rfl) ?yB0 ?rB0
      case yB0 => (intro wz hz; obtain ⟨z1, z2, z3, z4⟩ := hz; have k2 : wz.cell? ⟨q, 2, none⟩ = some (.slice oa mj.old.length oc) := (by rw [← HOV.out]; exact blk_cell z1); have k3 : wz.cell? ⟨q, 3, none⟩ = some (.slice (some ⟨lb, 0, none⟩) mj.loose.length lc2) := (by rw [← HLV.out]; exact blk_cell z1); clear z1; go_simp; try with_reducible rfl)
      (try simp only [Act.put, List.setIfInBounds_toArray, List.set_cons_zero, List.set_cons_succ])
      refine PlanT.take0 (v := ?vB1) (by kernel_rfl) ?yB1 ?rB1
      case yB1 => (intro wz hz; obtain ⟨z1, z2, z3, z4⟩ := hz; have k2 : wz.cell? ⟨q, 2, none⟩ = some (.slice oa mj.old.length oc) := (by rw [← HOV.out]; exact blk_cell z1); have k3 : wz.cell? ⟨q, 3, none⟩ = some (.slice (some ⟨lb, 0, none⟩) mj.loose.length lc2) := (by rw [← HLV.out]; exact blk_cell z1); clear z1; go_simp; try with_reducible rfl)
      (try simp only [Act.put, List.setIfInBounds_toArray, List.set_cons_zero, List.set_cons_succ])
      refine PlanT.take0 (v := ?vB2) (by kernel_rfl) ?yB2 ?rB2
      case yB2 => (intro wz hz; obtain ⟨z1, z2, z3, z4⟩ := hz; have k2 : wz.cell? ⟨q, 2, none⟩ = some (.slice oa mj.old.length oc) := (by rw [← HOV.out]; exact blk_cell z1); have k3 : wz.cell? ⟨q, 3, none⟩ = some (.slice (some ⟨lb, 0, none⟩) mj.loose.length lc2) := (by rw [← HLV.out]; exact blk_cell z1); clear z1; go_simp; try with_reducible rfl)
      (try simp only [Act.put, List.setIfInBounds_toArray, List.set_cons_zero, List.set_cons_succ])
      refine PlanT.take0 (v := ?vB3) (by kernel_rfl) ?yB3 ?rB3
      case yB3 => (intro wz hz; obtain ⟨z1, z2, z3, z4⟩ := hz; have k2 : wz.cell? ⟨q, 2, none⟩ = some (.slice oa mj.old.length oc) := (by rw [← HOV.out]; exact blk_cell z1); have k3 : wz.cell? ⟨q, 3, none⟩ = some (.slice (some ⟨lb, 0, none⟩) mj.loose.length lc2) := (by rw [← HLV.out]; exact blk_cell z1); clear z1; go_simp; try with_reducible rfl)
      (try simp only [Act.put, List.setIfInBounds_toArray, List.set_cons_zero, List.set_cons_succ])
      refine PlanT.take0 (v := ?vB4) (by kernel_rfl) ?yB4 ?rB4
      case yB4 => (intro wz hz; obtain ⟨z1, z2, z3, z4⟩ := hz; have k2 : wz.cell? ⟨q, 2, none⟩ = some (.slice oa mj.old.length oc) := (by rw [← HOV.out]; exact blk_cell z1); have k3 : wz.cell? ⟨q, 3, none⟩ = some (.slice (some ⟨lb, 0, none⟩) mj.loose.length lc2) := (by rw [← HLV.out]; exact blk_cell z1); clear z1; go_simp; try with_reducible rfl)
      (try simp only [Act.put, List.setIfInBounds_toArray, List.set_cons_zero, List.set_cons_succ])
      refine PlanT.take0 (v := ?vB5) (by kernel_rfl) ?yB5 ?rB5
      case yB5 => (intro wz hz; obtain ⟨z1, z2, z3, z4⟩ := hz; have k2 : wz.cell? ⟨q, 2, none⟩ = some (.slice oa mj.old.length oc) := (by rw [← HOV.out]; exact blk_cell z1); have k3 : wz.cell? ⟨q, 3, none⟩ = some (.slice (some ⟨lb, 0, none⟩) mj.loose.length lc2) := (by rw [← HLV.out]; exact blk_cell z1); clear z1; go_simp; try with_reducible rfl)
      (try simp only [Act.put, List.setIfInBounds_toArray, List.set_cons_zero, List.set_cons_succ])
      refine PlanT.take0 (v := ?vB6) (by kernel_rfl) ?yB6 ?rB6
      case yB6 => (intro wz hz; obtain ⟨z1, z2, z3, z4⟩ := hz; have k2 : wz.cell? ⟨q, 2, none⟩ = some (.slice oa mj.old.length oc) := (by rw [← HOV.out]; exact blk_cell z1); have k3 : wz.cell? ⟨q, 3, none⟩ = some (.slice (some ⟨lb, 0, none⟩) mj.loose.length lc2) := (by rw [← HLV.out]; exact blk_cell z1); clear z1; go_simp; try with_reducible rfl)
      (try simp only [Act.put, List.setIfInBounds_toArray, List.set_cons_zero, List.set_cons_succ])
      refine PlanT.take0 (v := ?vB7) (by kernel_rfl) ?yB7 ?rB7
      case yB7 => (intro wz hz; obtain ⟨z1, z2, z3, z4⟩ := hz; have k2 : wz.cell? ⟨q, 2, none⟩ = some (.slice oa mj.old.length oc) := (by rw [← HOV.out]; exact blk_cell z1); have k3 : wz.cell? ⟨q, 3, none⟩ = some (.slice (some ⟨lb, 0, none⟩) mj.loose.length lc2) := (by rw [← HLV.out]; exact blk_cell z1); clear z1; go_simp; try with_reducible rfl)
      (try simp only [Act.put, List.setIfInBounds_toArray, List.set_cons_zero, List.set_cons_succ])
      refine PlanT.take0 (v := ?vB8) (by kernel_rfl) ?yB8 ?rB8
      case yB8 => (intro wz hz; obtain ⟨z1, z2, z3, z4⟩ := hz; have k2 : wz.cell? ⟨q, 2, none⟩ = some (.slice oa mj.old.length oc) := (by rw [← HOV.out]; exact blk_cell z1); have k3 : wz.cell? ⟨q, 3, none⟩ = some (.slice (some ⟨lb, 0, none⟩) mj.loose.length lc2) := (by rw [← HLV.out]; exact blk_cell z1); clear z1; go_simp; try with_reducible rfl)
      (try simp only [Act.put, List.setIfInBounds_toArray, List.set_cons_zero, List.set_cons_succ])
      refine PlanT.take0 (v := ?vB9) (by kernel_rfl) ?yB9 ?rB9
      case yB9 => (intro wz hz; obtain ⟨z1, z2, z3, z4⟩ := hz; have k2 : wz.cell? ⟨q, 2, none⟩ = some (.slice oa mj.old.length oc) := (by rw [← HOV.out]; exact blk_cell z1); have k3 : wz.cell? ⟨q, 3, none⟩ = some (.slice (some ⟨lb, 0, none⟩) mj.loose.length lc2) := (by rw [← HLV.out]; exact blk_cell z1); clear z1; go_simp; try with_reducible rfl)
      (try simp only [Act.put, List.setIfInBounds_toArray, List.set_cons_zero, List.set_cons_succ])
      refine PlanT.take0 (v := ?vB10) (by kernel_rfl) ?yB10 ?rB10
      case yB10 => (intro wz hz; obtain ⟨z1, z2, z3, z4⟩ := hz; have k2 : wz.cell? ⟨q, 2, none⟩ = some (.slice oa mj.old.length oc) := (by rw [← HOV.out]; exact blk_cell z1); have k3 : wz.cell? ⟨q, 3, none⟩ = some (.slice (some ⟨lb, 0, none⟩) mj.loose.length lc2) := (by rw [← HLV.out]; exact blk_cell z1); clear z1; go_simp; try with_reducible rfl)
      (try simp only [Act.put, List.setIfInBounds_toArray, List.set_cons_zero, List.set_cons_succ])
      refine PlanT.take0 (v := ?vB11) (by kernel_rfl) ?yB11 ?rB11
      case yB11 => (intro wz hz; obtain ⟨z1, z2, z3, z4⟩ := hz; have k2 : wz.cell? ⟨q, 2, none⟩ = some (.slice oa mj.old.length oc) := (by rw [← HOV.out]; exact blk_cell z1); have k3 : wz.cell? ⟨q, 3, none⟩ = some (.slice (some ⟨lb, 0, none⟩) mj.loose.length lc2) := (by rw [← HLV.out]; exact blk_cell z1); clear z1; go_simp; try with_reducible rfl)
      (try simp only [Act.put, List.setIfInBounds_toArray, List.set_cons_zero, List.set_cons_succ])
      refine PlanT.exec2 (fun K hK => ⟨by kernel_rfl, ?_⟩)
      go_simp
      go_at_call 70
      (with_reducible refine HCH.out.mono ?_)
      rintro e w5 ⟨nv5, rfl, hbo5⟩
      have hrd5 := hbo5.1
      obtain ⟨na5, nc5, hnv5, _, _⟩ := hrd5
      subst hnv5
      have HBO := Lib.hid hbo5
      have hq5 := (hbo5.2.1.block q (blk_lt H4.out)).trans H4.out
      have c2 : w5.cell? ⟨q, 2, none⟩ = some (.slice oa mj.old.length oc) := (by rw [← HOV.out]; exact blk_cell hq5)
      have f2 : w5.frozen? ⟨q, 2, none⟩ = false := blk_free hq5
      have e1 := (hbo5.2.1.cell (p := ⟨lb, j * 3, none⟩) HLB.out).trans L1.out
      have e2 := (hbo5.2.1.cell (p := ⟨lb, j * 3 + 1, none⟩) HLB.out).trans L2.out
      have e3 := (hbo5.2.1.cell (p := ⟨lb, j * 3 + 2, none⟩) HLB.out).trans L3.out
      have HQ5 := Lib.hid hq5
      have HE5 := Lib.hid (And.intro e1 (And.intro e2 e3))
      clear hbo5 hq5 e1 e2 e3
      go_wp2_with fail
      refine hK.out _ _ ⟨HQ5.out, HE5.out.1, HE5.out.2.1, HE5.out.2.2⟩ trivial ?_
      clear hK K
      (try simp only [Act.put, List.setIfInBounds_toArray, List.set_cons_zero, List.set_cons_succ])
      refine PlanT.take0 (v := ?vB13) (by kernel_rfl) ?yB13 ?rB13
      case yB13 => (intro wz hz; obtain ⟨z1, z2, z3, z4⟩ := hz; have k2 : wz.cell? ⟨q, 2, none⟩ = some (.slice oa mj.old.length oc) := (by rw [← HOV.out]; exact blk_cell z1); have k3 : wz.cell? ⟨q, 3, none⟩ = some (.slice (some ⟨lb, 0, none⟩) mj.loose.length lc2) := (by rw [← HLV.out]; exact blk_cell z1); clear z1; go_simp; try with_reducible rfl)
      (try simp only [Act.put, List.setIfInBounds_toArray, List.set_cons_zero, List.set_cons_succ])
      refine PlanT.take0 (v := ?vB14) (by kernel_rfl) ?yB14 ?rB14
      case yB14 => (intro wz hz; obtain ⟨z1, z2, z3, z4⟩ := hz; have k2 : wz.cell? ⟨q, 2, none⟩ = some (.slice oa mj.old.length oc) := (by rw [← HOV.out]; exact blk_cell z1); have k3 : wz.cell? ⟨q, 3, none⟩ = some (.slice (some ⟨lb, 0, none⟩) mj.loose.length lc2) := (by rw [← HLV.out]; exact blk_cell z1); clear z1; go_simp; try with_reducible rfl)
      (try simp only [Act.put, List.setIfInBounds_toArray, List.set_cons_zero, List.set_cons_succ])
      refine PlanT.exec3 (fun K hK => ⟨by kernel_rfl, ?_⟩)
      go_simp
      refine hK.out _ _ trivial ?_
      clear hK K
      (try simp only [Act.put, List.setIfInBounds_toArray, List.set_cons_zero, List.set_cons_succ])
      refine PlanT.done (NoPanic.normal ?_)
      obtain ⟨w6, hw6⟩ : ∃ w6, w6 = w5.setCell ⟨q, 2, none⟩ (.slice na5 (dchanged mj.old c).length nc5) := ⟨_, rfl⟩
      rw [← hw6]
      have hb6 : w6.heap[q]? = some (.cells (docCells { v2 with ov := .slice na5 (dchanged mj.old c).length nc5 } mj) 56 (0, 0)) := by
        rw [hw6]
        exact (blk_set (i := 2) HQ5.out _).trans (by simp [docCells])
      have hk6 : Kept (fun k => k < w4.heap.size ∧ k ≠ q) w4 w6 := by
        rw [hw6]
        exact (Kept.of HBO.out.2.1 fun _ h => h.1).setCell (fun h => h.2 rfl) _
      have hs6 : w6.heap.size = w5.heap.size := by rw [hw6]; simp [World.setCell]
      have hrd6 : Rd w6 2 (.slice na5 (dchanged mj.old c).length nc5) (dchanged mj.old c).length (bCells (dchanged mj.old c)) := by
        rw [hw6]
        refine HBO.out.1.kept (R := fun k => k ≠ q) ((Kept.refl _ w5).setCell (fun h => h rfl) _) fun k e ep => ?_
        subst ep
        rcases HBO.out.2.2 k e with h | h
        · have := blk_lt H4.out; omega
        · have := HD4.out.oold k (by rw [HOV.out]; exact h); rw [HD4.out.rol] at this; cases this
      have hat6 : ∀ k, (Value.slice na5 (dchanged mj.old c).length nc5).ownBlock = some k → o2 k = .data ∨ (w4.heap.size ≤ k ∧ k < w6.heap.size) := fun k e => by
        rcases HBO.out.2.2 k e with h | h
        · exact .inr ⟨h.1, by rw [hs6]; exact h.2⟩
        · exact .inl (HD4.out.oold k (by rw [HOV.out]; exact h))
      obtain ⟨hz, ht, hg⟩ := HD4.out.set_old hk6 hb6 hrd6 hat6
      have hnew : ({ mj with old := dchanged mj.old c } : DM) = { m with old := (m.loose.take (j + 1)).foldl dchanged m.old } := by rw [redo_step m HC.out, ← HJO.out, HMJ.out]
      rw [hnew] at hz
      have hto : DocTo o w1 w6 q { m with old := (m.loose.take (j + 1)).foldl dchanged m.old } := ⟨_, _, _, hz, HT4.out.trans ht HG4.out, HG4.out.trans hg HT4.out.size ht.size⟩
      have HTO := Lib.hid hto
      clear hto hz ht hg hat6 hrd6 hs6 hk6 hb6 hw6 c2 f2 hnew
      go_wp2
      go_roundw
      case rel => exact ⟨j + 1, by omega, by go_num, HTO⟩
      case measure => simp [intOf]; omega
    · have hjn : j = n := by omega
      rw [hjn] at HT
      clear hjn
      obtain ⟨wa, hwa⟩ : ∃ wa, wa = wr := ⟨_, rfl⟩
      subst hwa
      have HTO : Hid (DocTo o w1 wa q { m with old := m.names_ p }) := Lib.hid (by have := HT.out; unfold DM.names_; rw [HN.out]; exact this)
      clear HT
      have hNl := (HFA.out.pre n hnl)
      obtain ⟨N, hN⟩ : ∃ N, m.names_ p = N := ⟨_, rfl⟩
      have hNf : (m.loose.take n).foldl dchanged m.old = N := by rw [← hN]; unfold DM.names_; rw [HN.out]
      rw [hNf] at hNl
      have hnod := HFA.out.nod
      rw [hN] at hnod HTO
      have HNOD := Lib.hid hnod
      have HNN := Lib.hid hN
      have HNF := Lib.hid hNl.2
      have hNL := hNl.1
      clear hNf hnod hN hNl
      go_wp2
      go_loopw [6] (fun i wr => ∃ j : Nat, j ≤ N.length ∧ i = .int .i64 j ∧ Hid (DocTo o w1 wr q { m with old := N, files := fallFiles p (N.take j) 0 m.files })) (fun i _ => N.length - (intOf i).toNat)
      case atStart => exact ⟨0, Nat.zero_le _, rfl, HTO⟩
      case round =>
        obtain ⟨j, hj, rfl, HT⟩ := hrel
        obtain ⟨o2, v2, g2, hD, hT, hG⟩ := HT.out
        obtain ⟨oa, oc, hov, _, _⟩ := hD.old
        have r2 : wr.cell? ⟨q, 2, none⟩ = some (.slice oa N.length oc) := (blk_cell hD.blk).trans (by show some v2.ov = _; rw [hov])
        have HD := Lib.hid hD
        have HTT := Lib.hid hT
        have HGG := Lib.hid hG
        have HOV := Lib.hid hov
        clear hD hT hG hov
        by_cases hlt : j < N.length
        · obtain ⟨x, hx⟩ : ∃ x, N[j]? = some x := ⟨_, List.getElem?_eq_getElem hlt⟩
          obtain ⟨mi, hmi⟩ : ∃ mi : DM, mi = { m with old := N, files := fallFiles p (N.take j) 0 m.files } := ⟨_, rfl⟩
          obtain ⟨w4, hw4⟩ : ∃ w4, w4 = wr.drew := ⟨_, rfl⟩
          have hD4 : DocAt o2 v2 g2 w4 q mi := by rw [hw4, hmi]; exact HD.out.below (Below.refl _ _).drew
          have hT4 : Touch (DF_ o) w1 w4 := by rw [hw4]; exact Kept.drew HTT.out
          have hG4 : Grows (DF_ o) (DF_ o2) w1 w4 := by rw [hw4]; exact HGG.out
          have hfs := fall_step p N m.files hx HNOD.out
          have hxo := HNF.out x (List.mem_of_getElem? hx)
          have hidl : x.2 < mi.files.length := by rw [hmi]; show x.2 < (fallFiles p (N.take j) 0 m.files).length; rw [fall_len]; exact hxo.1
          obtain ⟨fb, fc, g, hfv, hg, hdf, a3, hfb, hgc, hga⟩ := hD4.file hidl
          have hdfm : g.df = m.file x.2 := by rw [hdf, hmi]; exact hfs.2
          have a0 : w4.cell? ⟨q, 0, none⟩ = some v2.fv := blk_cell hD4.blk
          rw [hfv] at a0
          have a1 : w4.cell? ⟨q, 2, none⟩ = some (.slice oa N.length oc) := by rw [hw4]; exact r2
          have hro : Rd w4 2 (.slice oa N.length oc) N.length (bCells N) := by
            have := hD4.old
            rw [HOV.out] at this
            rw [hmi] at this
            exact this
          obtain ⟨nb, no, rfl, _, a2, _⟩ := rd_bind hro hx
          have hid : x.2 < g2.length := (List.getElem?_eq_some_iff.1 hg).1
          have hok := hxo.2
          rw [← hdfm] at hok
          have HW4 := Lib.hid hw4
          have HMI := Lib.hid hmi
          have HFS := Lib.hid hfs
          have HD4 := Lib.hid hD4
          have HT4 := Lib.hid hT4
          have HG4 := Lib.hid hG4
          have HGA := Lib.hid hga
          have HGI := Lib.hid hg
          have HDFM := Lib.hid hdfm
          have HOK := Lib.hid hok
          have HXI := Lib.hid hx
          obtain ⟨id, hide⟩ : ∃ id, id = x.2 := ⟨_, rfl⟩
          rw [← hide] at a2 a3 hid HGA HGI
          have HID := Lib.hid hide
          clear hw4 hmi hfs hD4 hT4 hG4 hga hg hdfm hdf hok hx hfv hxo hidl hro hide
          go_wp2
          refine wp_region_plan [(true, 0), (true, 1), (true, 2), (true, 3), (true, 4), (true, 5), (true, 6), (true, 7), (true, 8), (true, 9), (true, 10), (true, 11), (true, 12), (true, 13), (true, 14)] (by kernel_rfl) (by kernel_rfl) (by kernel_rfl) (by kernel_rfl) (by kernel_rfl) ?_
          simp only [planO, List.drop_succ_cons, List.drop_zero]
          rw [← HW4.out]
          refine PlanO.take (v := ?v0) (by kernel_rfl) ?y0 ?r0
          case y0 => (intro wz hz; go_simp; try with_reducible rfl)
          (try simp only [Act.put, List.setIfInBounds_toArray, List.set_cons_zero, List.set_cons_succ])
          refine PlanO.take (v := ?v1) (by kernel_rfl) ?y1 ?r1
          case y1 => (intro wz hz; go_simp; try with_reducible rfl)
          (try simp only [Act.put, List.setIfInBounds_toArray, List.set_cons_zero, List.set_cons_succ])
          refine PlanO.take (v := ?v2) (by kernel_rfl) ?y2 ?r2
          case y2 => (intro wz hz; go_simp; try with_reducible rfl)
          (try simp only [Act.put, List.setIfInBounds_toArray, List.set_cons_zero, List.set_cons_succ])
          refine PlanO.take (v := ?v3) (by kernel_rfl) ?y3 ?r3
          case y3 => (intro wz hz; have k0 := Ext.at_ hz a0; go_simp; try with_reducible rfl)
          (try simp only [Act.put, List.setIfInBounds_toArray, List.set_cons_zero, List.set_cons_succ])
          refine PlanO.take (v := ?v4) (by kernel_rfl) ?y4 ?r4
          case y4 => (intro wz hz; go_simp; try with_reducible rfl)
          (try simp only [Act.put, List.setIfInBounds_toArray, List.set_cons_zero, List.set_cons_succ])
          refine PlanO.take (v := ?v5) (by kernel_rfl) ?y5 ?r5
          case y5 => (intro wz hz; go_simp; try with_reducible rfl)
          (try simp only [Act.put, List.setIfInBounds_toArray, List.set_cons_zero, List.set_cons_succ])
          refine PlanO.take (v := ?v6) (by kernel_rfl) ?y6 ?r6
          case y6 => (intro wz hz; go_simp; try with_reducible rfl)
          (try simp only [Act.put, List.setIfInBounds_toArray, List.set_cons_zero, List.set_cons_succ])
          refine PlanO.take (v := ?v7) (by kernel_rfl) ?y7 ?r7
          case y7 => (intro wz hz; have k1 := Ext.at_ hz a1; go_simp; try with_reducible rfl)
          (try simp only [Act.put, List.setIfInBounds_toArray, List.set_cons_zero, List.set_cons_succ])
          refine PlanO.take (v := ?v8) (by kernel_rfl) ?y8 ?r8
          case y8 => (intro wz hz; go_simp; try with_reducible rfl)
          (try simp only [Act.put, List.setIfInBounds_toArray, List.set_cons_zero, List.set_cons_succ])
          refine PlanO.take (v := ?v9) (by kernel_rfl) ?y9 ?r9
          case y9 => (intro wz hz; go_simp; try with_reducible rfl)
          (try simp only [Act.put, List.setIfInBounds_toArray, List.set_cons_zero, List.set_cons_succ])
          refine PlanO.take (v := ?v10) (by kernel_rfl) ?y10 ?r10
          case y10 => (intro wz hz; go_simp; try with_reducible rfl)
          (try simp only [Act.put, List.setIfInBounds_toArray, List.set_cons_zero, List.set_cons_succ])
          refine PlanO.take (v := ?v11) (by kernel_rfl) ?y11 ?r11
          case y11 => (intro wz hz; have k2 := Ext.at_ hz a2; go_simp; try with_reducible rfl)
          (try simp only [Act.put, List.setIfInBounds_toArray, List.set_cons_zero, List.set_cons_succ])
          refine PlanO.take (v := ?v12) (by kernel_rfl) ?y12 ?r12
          case y12 => (intro wz hz; go_simp; try with_reducible rfl)
          (try simp only [Act.put, List.setIfInBounds_toArray, List.set_cons_zero, List.set_cons_succ])
          refine PlanO.take (v := ?v13) (by kernel_rfl) ?y13 ?r13
          case y13 => (intro wz hz; have k3 := Ext.at_ hz a3; go_simp; try with_reducible rfl)
          (try simp only [Act.put, List.setIfInBounds_toArray, List.set_cons_zero, List.set_cons_succ])
          refine PlanO.take (v := ?v14) (by kernel_rfl) ?y14 ?r14
          case y14 => (intro wz hz; go_simp; try with_reducible rfl)
          (try simp only [Act.put, List.setIfInBounds_toArray, List.set_cons_zero, List.set_cons_succ])
          refine PlanO.done (NoPanic.normal ?_)
          clear a0 a1 a2 a3
          have b3 : w4.cell? ⟨w.heap.size, 3, none⟩ = some (.slice ka p.keep.length kc) := touch_cell HT4.out HOB1.out (blk_lt HX1.out) (blk_cell HX1.out)
          obtain ⟨wq, hwq⟩ : ∃ wq, wq = wr := ⟨_, rfl⟩
          subst hwq
          obtain ⟨F, hF⟩ : ∃ F, g.df = F := ⟨_, rfl⟩
          have HFE := Lib.hid hF
          rw [hF] at HOK HDFM
          clear hF
          by_cases hk0 : p.keep = []
          · have hkz : ¬ (0 : Int) < (p.keep.length : Int) := by rw [hk0]; simp
            have HL : Hid (p.left j F.many = 0) := Lib.hid (by unfold DP.left; rw [if_pos hk0])
            obtain ⟨L, hL⟩ : ∃ L, L = 0 := ⟨_, rfl⟩
            have HL0 : Hid (p.left j F.many = L) := Lib.hid (by rw [hL]; exact HL.out)
            have HFS0 := Lib.hid (FallL.start (o := o) HD4.out HGI.out HT4.out HG4.out)
            rw [HFE.out] at HFS0
            have hL0 : ((0 : Nat) : Int) = 0 := rfl
            clear hk0 hL0
            subst hL
            have HLL : (0 : Nat) ≤ 100000 := by omega
            go_wp2
            go_loopw [8, 9] (fun lv kv wr3 => ∃ (l k : Nat) (b : List UInt8), lv = .int .i64 l ∧ kv = .int .i64 k ∧ k ≤ F.loose.length ∧ l ≤ 100000 ∧ Hid (KS F 0 k l b) ∧ Hid (FallL o w1 wr3 q mi id g.fp F b)) (fun _ kv _ => F.loose.length - (intOf kv).toNat)
            case atStart => exact ⟨0, 0, F.safe, rfl, rfl, Nat.zero_le _, HLL, Lib.hid (KS.start F 0), HFS0⟩
            case round =>
              obtain ⟨l, k, b, rfl, rfl, hk, hl5, HKS, HLS⟩ := hrel
              obtain ⟨o3, v3, g3, gg, hD3, hg3, hfp3, hdf3, hT3, hG3⟩ := HLS.out
              have ga := hD3.each id gg hg3
              have hps : pwL gg.ps = F.loose := congrArg DF.loose hdf3
              have hsf : gg.safe = b := congrArg DF.safe hdf3
              have hpl : gg.ps.length = F.loose.length := by rw [← hps]; unfold pwL; rw [List.length_map]
              obtain ⟨pa, pc, hpv, hpc1, _⟩ := rd_of_own ga.row
              have s1 : wr.cell? ⟨g.fp, 1, none⟩ = some (.slice pa F.loose.length pc) := by rw [← hfp3, ← hpl, ← hpv]; exact blk_cell ga.blk
              have hpc2 : F.loose.length ≤ pc := by omega
              have sf1 : wr.frozen? ⟨g.fp, 1, none⟩ = false := by rw [← hfp3]; exact blk_free ga.blk
              have HD3 := Lib.hid hD3
              have HG3 := Lib.hid hg3
              have HFP3 := Lib.hid hfp3
              have HT3 := Lib.hid hT3
              have HGR3 := Lib.hid hG3
              have HGA3 := Lib.hid ga
              have HPS := Lib.hid hps
              have HSF := Lib.hid hsf
              have HPV := Lib.hid hpv
              have HPL := Lib.hid hpl
              have HDF3 := Lib.hid hdf3
              clear hD3 hg3 hfp3 hdf3 hT3 hG3 ga hps hsf hpv hpl hpc1
              by_cases hlt3 : k < F.loose.length
              · by_cases hl0 : 0 < l
                · obtain ⟨y, hy⟩ : ∃ y, gg.ps[k]? = some y := ⟨_, List.getElem?_eq_getElem (by rw [HPL.out]; exact hlt3)⟩
                  have hrr := rd_of_own HGA3.out.row
                  rw [HPV.out] at hrr
                  obtain ⟨rb, ro, hpa, d1, d2, hrb⟩ := rd_pw hrr hy
                  have hyr := HGA3.out.each y (List.mem_of_getElem? hy)
                  obtain ⟨ya, yc, hyv, hyc, _⟩ := hyr.form
                  rw [hyv] at d2 hyr
                  have hFk : F.loose[k]? = some (y.1, y.2.1) := by rw [← HPS.out]; unfold pwL; rw [List.getElem?_map, hy]; rfl
                  obtain ⟨yb, hyb⟩ : ∃ yb, y.2.1 = yb := ⟨_, rfl⟩
                  obtain ⟨yt, hyt⟩ : ∃ yt, y.1 = yt := ⟨_, rfl⟩
                  rw [hyb] at hyr hyc d2 hFk
                  rw [hyt] at d1 hFk
                  have hat := HKS.out.at_ hFk hl0 HOK.out.wok
                  have hnx := HKS.out.next hFk hl0 HOK.out.wok
                  obtain ⟨sa, sc, hsv, _, _⟩ := HGA3.out.safe.form
                  rw [HSF.out] at hsv
                  have s0 : wr.cell? ⟨g.fp, 0, none⟩ = some (.slice sa b.length sc) := by rw [← HFP3.out, ← hsv]; exact blk_cell HGA3.out.blk
                  have HRY := Lib.hid hyr
                  have HAT := Lib.hid hat
                  have HNX := Lib.hid hnx
                  have hgl : g.fp < wr.heap.size := by rw [← HFP3.out]; exact blk_lt HGA3.out.blk
                  have HRS := Lib.hid (show RdB wr (.slice sa b.length sc) b by rw [← hsv, ← HSF.out]; exact HGA3.out.safe)
                  subst hpa
                  have hbl : b.length < 100000 := by
                    have h1 := HKS.out.len
                    have h2 := many_take_le F.loose k
                    have h3 := HOK.out.size
                    omega
                  have hyl : yb.length < 100000 := by
                    have h2 := mem_many (List.mem_of_getElem? hFk)
                    have h3 := HOK.out.size
                    dsimp only at h2
                    omega
                  obtain ⟨c, hc⟩ : ∃ c, min l yb.length = c := ⟨_, rfl⟩
                  rw [hc] at HNX
                  have hmin : min (l : Int) (yb.length : Int) = (c : Int) := by omega
                  have hmax : max ((c : Nat) : Int) 0 = (c : Int) := by omega
                  have hcl : c ≤ yb.length := by omega
                  have hcy : c ≤ yc := by omega
                  have hsub : wrap64 ((l : Int) - (c : Int)) = ((l - c : Nat) : Int) := by rw [IntWalk.wrap64_in _ (by omega)]; omega
                  obtain ⟨pp, hpp⟩ : ∃ pp, pp = yb.take c := ⟨_, rfl⟩
                  have hppl : pp.length = c := by rw [hpp, List.length_take]; omega
                  obtain ⟨w19, hw19⟩ : ∃ w19, w19 = (wr.alloc (.cells #[.int .i64 (yt : Int), .slice ya c yc] 105)).drew := ⟨_, rfl⟩
                  have hb19 : Below wr.heap.size wr w19 := by rw [hw19]; exact ((Below.refl _ _).alloc (Nat.le_refl _) _).drew
                  have t0 : w19.cell? ⟨wr.heap.size, 0, none⟩ = some (.int .i64 (yt : Int)) := by rw [hw19]; exact blk_cell (heap_alloc_new wr _)
                  have t1 : w19.cell? ⟨wr.heap.size, 1, none⟩ = some (.slice ya c yc) := by rw [hw19]; exact blk_cell (heap_alloc_new wr _)
                  have s19 : w19.cell? ⟨g.fp, 0, none⟩ = some (.slice sa b.length sc) := (hb19.cell (p := ⟨g.fp, 0, none⟩) hgl).trans s0
                  have hf19 := (hb19.block gg.fp (blk_lt HGA3.out.blk)).trans HGA3.out.blk
                  have hrp := rd_prefix (HRY.out.below hb19 (Nat.le_refl _)) c hcl
                  rw [← hpp] at hrp HNX
                  have HDN := Lib.hid (ddone_any w19 sa sc b yt ya yc pp (HRS.out.below hb19 (Nat.le_refl _)) hrp HAT.out (by omega) (by omega))
                  rw [hppl] at HDN
                  have HW19 := Lib.hid hw19
                  have HB19 := Lib.hid hb19
                  have HF19 := Lib.hid hf19
                  have HT0 := Lib.hid t0
                  have HT1 := Lib.hid t1
                  have HS19 := Lib.hid s19
                  clear hrr hy hyv hyr hFk hyb hyt hat hnx hsv hc hpp hppl hw19 hb19 t0 t1 s19 hf19 hrp
                  go_wp2
                  refine wp_region_two (fun wz => wz.cell? ⟨g.fp, 0, none⟩ = some (.slice sa b.length sc) ∧ wz.cell? ⟨wr.heap.size, 0, none⟩ = some (.int .i64 (yt : Int)) ∧ wz.cell? ⟨wr.heap.size, 1, none⟩ = some (.slice ya c yc)) (fun _ => True) [(0, 0), (0, 1), (0, 2), (0, 3), (0, 4), (0, 5), (2, 6), (0, 7), (0, 8), (3, 9)] [9] (by kernel_rfl) (by kernel_rfl) (by kernel_rfl) (by kernel_rfl) (by kernel_rfl) (by rw [← HW19.out]; exact ⟨HS19.out, HT0.out, HT1.out⟩) trivial ?_
                  simp only [planT, List.drop_succ_cons, List.drop_zero]
                  rw [← HW19.out]
                  refine PlanT.take0 (v := ?vP0) (by kernel_rfl) ?yP0 ?rP0
                  case yP0 => (intro wz hz; obtain ⟨z1, z2, z3⟩ := hz; go_simp; try with_reducible rfl)
                  (try simp only [Act.put, List.setIfInBounds_toArray, List.set_cons_zero, List.set_cons_succ])
                  refine PlanT.take0 (v := ?vP1) (by kernel_rfl) ?yP1 ?rP1
                  case yP1 => (intro wz hz; obtain ⟨z1, z2, z3⟩ := hz; go_simp; try with_reducible rfl)
                  (try simp only [Act.put, List.setIfInBounds_toArray, List.set_cons_zero, List.set_cons_succ])
                  refine PlanT.take0 (v := ?vP2) (by kernel_rfl) ?yP2 ?rP2
                  case yP2 => (intro wz hz; obtain ⟨z1, z2, z3⟩ := hz; go_simp; try with_reducible rfl)
                  (try simp only [Act.put, List.setIfInBounds_toArray, List.set_cons_zero, List.set_cons_succ])
                  refine PlanT.take0 (v := ?vP3) (by kernel_rfl) ?yP3 ?rP3
                  case yP3 => (intro wz hz; obtain ⟨z1, z2, z3⟩ := hz; go_simp; try with_reducible rfl)
                  (try simp only [Act.put, List.setIfInBounds_toArray, List.set_cons_zero, List.set_cons_succ])
                  refine PlanT.take0 (v := ?vP4) (by kernel_rfl) ?yP4 ?rP4
                  case yP4 => (intro wz hz; obtain ⟨z1, z2, z3⟩ := hz; go_simp; try with_reducible rfl)
                  (try simp only [Act.put, List.setIfInBounds_toArray, List.set_cons_zero, List.set_cons_succ])
                  refine PlanT.take0 (v := ?vP5) (by kernel_rfl) ?yP5 ?rP5
                  case yP5 => (intro wz hz; obtain ⟨z1, z2, z3⟩ := hz; go_simp; try with_reducible rfl)
                  (try simp only [Act.put, List.setIfInBounds_toArray, List.set_cons_zero, List.set_cons_succ])
                  refine PlanT.exec2 (fun K hK => ⟨by kernel_rfl, ?_⟩)
                  go_simp
                  go_at_call 71
                  (with_reducible refine HDN.out.mono ?_)
                  rintro e w6 ⟨u, rfl, hu, hb6⟩
                  obtain ⟨ua, uc, rfl, _, _⟩ := hu.read.form
                  have hg6 := (hb6.block gg.fp (blk_lt HF19.out)).trans HF19.out
                  rw [HFP3.out] at hg6
                  have c6 : w6.cell? ⟨g.fp, 0, none⟩ = some gg.sv := blk_cell hg6
                  have f6 : w6.frozen? ⟨g.fp, 0, none⟩ = false := blk_free hg6
                  have k6 := (hb6.cell (p := ⟨g.fp, 0, none⟩) (by have := HB19.out.size; show g.fp < _; omega)).trans HS19.out
                  have l6 := (hb6.cell (p := ⟨wr.heap.size, 0, none⟩) (World.block_lt_of_cell? w19 _ HT0.out)).trans HT0.out
                  have m6 := (hb6.cell (p := ⟨wr.heap.size, 1, none⟩) (World.block_lt_of_cell? w19 _ HT1.out)).trans HT1.out
                  have HU6 := Lib.hid hu
                  have HB6 := Lib.hid hb6
                  have HC6 := Lib.hid (And.intro k6 (And.intro l6 m6))
                  clear hu hb6 hg6 k6 l6 m6
                  go_wp2_with fail
                  refine hK.out _ _ ⟨HC6.out.1, HC6.out.2.1, HC6.out.2.2⟩ trivial ?_
                  clear hK K
                  (try simp only [Act.put, List.setIfInBounds_toArray, List.set_cons_zero, List.set_cons_succ])
                  refine PlanT.take0 (v := ?vP7) (by kernel_rfl) ?yP7 ?rP7
                  case yP7 => (intro wz hz; obtain ⟨z1, z2, z3⟩ := hz; go_simp; try with_reducible rfl)
                  (try simp only [Act.put, List.setIfInBounds_toArray, List.set_cons_zero, List.set_cons_succ])
                  refine PlanT.take0 (v := ?vP8) (by kernel_rfl) ?yP8 ?rP8
                  case yP8 => (intro wz hz; obtain ⟨z1, z2, z3⟩ := hz; go_simp; try with_reducible rfl)
                  (try simp only [Act.put, List.setIfInBounds_toArray, List.set_cons_zero, List.set_cons_succ])
                  refine PlanT.exec3 (fun K hK => ⟨by kernel_rfl, ?_⟩)
                  go_simp
                  refine hK.out _ _ trivial ?_
                  clear hK K
                  (try simp only [Act.put, List.setIfInBounds_toArray, List.set_cons_zero, List.set_cons_succ])
                  refine PlanT.done (NoPanic.normal ?_)
                  obtain ⟨w20, hw20⟩ : ∃ w20, w20 = w6.setCell ⟨g.fp, 0, none⟩ (.slice ua (Go.Proofs.Ytfeogoihkpclcaa.wr b yt pp).length uc) := ⟨_, rfl⟩
                  rw [← hw20]
                  have hfl := FallL.next HLS.out (HB19.out.trans (HB6.out.mono HB19.out.size)) (own_base HU6.out fun k e => Nat.le_trans HB19.out.size (World.ownsRow.lt HU6.out k e).1)
                  rw [← hw20] at hfl
                  have HFL := Lib.hid hfl
                  clear hfl hw20 c6 f6
                  go_wp2
                  go_roundw
                  case rel =>
                    have hcl2 : c ≤ l := by omega
                    have hk1k := HOK.out.num
                    have hk1 : wrap64 ((k : Int) + 1) = ((k + 1 : Nat) : Int) := by rw [IntWalk.wrap64_in _ (by omega)]; omega
                    have hlc : (l : Int) - (c : Int) = ((l - c : Nat) : Int) := by omega
                    exact ⟨l - c, k + 1, Go.Proofs.Ytfeogoihkpclcaa.wr b yt pp, congrArg (Value.int .i64) hlc, congrArg (Value.int .i64) hk1, hlt3, by omega, HNX, HFL⟩
                  case measure =>
                    have hk1k := HOK.out.num
                    have hk1 : wrap64 ((k : Int) + 1) = ((k + 1 : Nat) : Int) := by rw [IntWalk.wrap64_in _ (by omega)]; omega
                    rw [hk1]
                    exact fall_meas hlt3
                · have hlz : l = 0 := by omega
                  subst hlz
                  have HB : Hid (kept F.loose 0 F.safe = b) := Lib.hid (HKS.out.stop (.inr rfl))
                  clear hl0
                  go_wp2
                  go_roundw
                  case rel =>
                    refine ⟨j + 1, by omega, by go_num, Lib.hid ?_⟩
                    have hz := HLS.out.done
                    have e1 : F.fallen (p.left j F.many) = ⟨b, []⟩ := by unfold DF.fallen; rw [HL0.out, HB.out]
                    have e2 : (m.files.getD x.2 DF.none_) = F := HDFM.out.symm
                    have e3 := HFS.out.1
                    rw [e2, e1, ← HID.out] at e3
                    rw [HMI.out] at hz
                    rw [e3]
                    exact hz
                  case measure => simp [intOf]; omega
              · have HB : Hid (kept F.loose 0 F.safe = b) := Lib.hid (HKS.out.stop (.inl (by omega)))
                go_wp2
                go_roundw
                case rel =>
                  refine ⟨j + 1, by omega, by go_num, Lib.hid ?_⟩
                  have hz := HLS.out.done
                  have e1 : F.fallen (p.left j F.many) = ⟨b, []⟩ := by unfold DF.fallen; rw [HL0.out, HB.out]
                  have e2 : (m.files.getD x.2 DF.none_) = F := HDFM.out.symm
                  have e3 := HFS.out.1
                  rw [e2, e1, ← HID.out] at e3
                  rw [HMI.out] at hz
                  rw [e3]
                  exact hz
                case measure => simp [intOf]; omega
          · obtain ⟨kb, ko, rfl, hkb, hkbo, hkc⟩ := HKV.out.resolve_left hk0
            have hkp : 0 < p.keep.length := by
              cases hp : p.keep with
              | nil => exact absurd hp hk0
              | cons _ _ => simp
            obtain ⟨ki, hki⟩ : ∃ ki, ki = j % p.keep.length := ⟨_, rfl⟩
            have hkl : ki < p.keep.length := by rw [hki]; exact Nat.mod_lt _ hkp
            have hm1 : (j : Int) % (p.keep.length : Int) = (ki : Int) := by rw [hki]; rfl
            have hm2 : (j : Int).tmod (p.keep.length : Int) = (ki : Int) := by rw [Int.tmod_eq_emod_of_nonneg (by omega)]; exact hm1
            have hkg : (0 : Int) < (p.keep.length : Int) := by omega
            have hkne : ((p.keep.length : Int) == 0) = false := by simp; omega
            obtain ⟨z, hz⟩ : ∃ z, z = p.keep.getD ki 0 := ⟨_, rfl⟩
            have hzm : z ∈ p.keep := by rw [hz, List.getD_eq_getElem?_getD, List.getElem?_eq_getElem hkl]; exact List.getElem_mem hkl
            have hkm : p.keep.length < 1000000 := HFA.out.kl
            have hkc1 : w1.cell? ⟨kb, ko + ki, none⟩ = some (.int .i64 z) := (HB1.out.cell (p := ⟨kb, ko + ki, none⟩) hkb).trans (by rw [hz]; exact hkc ki hkl)
            obtain ⟨w5, hw5⟩ : ∃ w5, w5 = w4.drew := ⟨_, rfl⟩
            have hT5 : Touch (DF_ o) w1 w5 := by rw [hw5]; exact Kept.drew HT4.out
            have hD5 : DocAt o2 v2 g2 w5 q mi := by rw [hw5]; exact HD4.out.below (Below.refl _ _).drew
            have hG5 : Grows (DF_ o) (DF_ o2) w1 w5 := by rw [hw5]; exact HG4.out
            have b5 : w5.cell? ⟨w.heap.size, 3, none⟩ = some (.slice (some ⟨kb, ko, none⟩) p.keep.length kc) := by rw [hw5]; exact b3
            have b6 : w5.cell? ⟨kb, ko + ki, none⟩ = some (.int .i64 z) := touch_cell hT5 hkbo (Nat.lt_of_lt_of_le hkb HB1.out.size) hkc1
            have hmn : F.many < 100000 := by have h1 := HOK.out.size; have h2 : F.many = manyL F.loose := rfl; omega
            have HMA := Lib.hid (dmany_at (hD5.each id g HGI.out) (by rw [HFE.out]; exact HOK.out))
            rw [HFE.out] at HMA
            have HRE := Lib.hid (rest_any w5 z F.many (by omega) (HFA.out.kn z hzm).2)
            obtain ⟨L, hL⟩ : ∃ L, rest z F.many = L := ⟨_, rfl⟩
            have HLL : L ≤ 100000 := by rw [← hL]; have := rest_le z F.many; omega
            rw [hL] at HRE
            have HL0 : Hid (p.left j F.many = L) := Lib.hid (by unfold DP.left; rw [if_neg hk0, ← hki, ← hz, hL])
            have HFS0 := Lib.hid (FallL.start (o := o) hD5 HGI.out hT5 hG5)
            rw [HFE.out] at HFS0
            have HW5 := Lib.hid hw5
            obtain ⟨M, hM⟩ : ∃ M, F.many = M := ⟨_, rfl⟩
            rw [hM] at HMA HRE
            have hkcap : p.keep.length ≤ kc := HKC.out
            clear hki hz hzm hkc hkc1 hw5 hT5 hD5 hG5 hL hmn hM
            go_wp2
            refine wp_region_two (fun wz => wz.cell? ⟨w.heap.size, 3, none⟩ = some (.slice (some ⟨kb, ko, none⟩) p.keep.length kc) ∧ wz.cell? ⟨kb, ko + ki, none⟩ = some (.int .i64 z)) (fun _ => True) [(0, 0), (0, 1), (0, 2), (0, 3), (0, 4), (0, 5), (0, 6), (0, 7), (0, 8), (0, 9), (2, 10), (2, 11), (0, 12)] [] (by kernel_rfl) (by kernel_rfl) (by kernel_rfl) (by kernel_rfl) (by kernel_rfl) (by rw [← HW5.out]; exact ⟨b5, b6⟩) trivial ?_
            simp only [planT, List.drop_succ_cons, List.drop_zero]
            rw [← HW5.out]
            refine PlanT.take0 (v := ?vR0) (by kernel_rfl) ?yR0 ?rR0
            case yR0 => (intro wz hz; obtain ⟨z1, z2⟩ := hz; go_simp; try with_reducible rfl)
            (try simp only [Act.put, List.setIfInBounds_toArray, List.set_cons_zero, List.set_cons_succ])
            refine PlanT.take0 (v := ?vR1) (by kernel_rfl) ?yR1 ?rR1
            case yR1 => (intro wz hz; obtain ⟨z1, z2⟩ := hz; go_simp; try with_reducible rfl)
            (try simp only [Act.put, List.setIfInBounds_toArray, List.set_cons_zero, List.set_cons_succ])
            refine PlanT.take0 (v := ?vR2) (by kernel_rfl) ?yR2 ?rR2
            case yR2 => (intro wz hz; obtain ⟨z1, z2⟩ := hz; go_simp; try with_reducible rfl)
            (try simp only [Act.put, List.setIfInBounds_toArray, List.set_cons_zero, List.set_cons_succ])
            refine PlanT.take0 (v := ?vR3) (by kernel_rfl) ?yR3 ?rR3
            case yR3 => (intro wz hz; obtain ⟨z1, z2⟩ := hz; go_simp; try with_reducible rfl)
            (try simp only [Act.put, List.setIfInBounds_toArray, List.set_cons_zero, List.set_cons_succ])
            refine PlanT.take0 (v := ?vR4) (by kernel_rfl) ?yR4 ?rR4
            case yR4 => (intro wz hz; obtain ⟨z1, z2⟩ := hz; go_simp; try with_reducible rfl)
            (try simp only [Act.put, List.setIfInBounds_toArray, List.set_cons_zero, List.set_cons_succ])
            refine PlanT.take0 (v := ?vR5) (by kernel_rfl) ?yR5 ?rR5
            case yR5 => (intro wz hz; obtain ⟨z1, z2⟩ := hz; go_simp; try with_reducible rfl)
            (try simp only [Act.put, List.setIfInBounds_toArray, List.set_cons_zero, List.set_cons_succ])
            refine PlanT.take0 (v := ?vR6) (by kernel_rfl) ?yR6 ?rR6
            case yR6 => (intro wz hz; obtain ⟨z1, z2⟩ := hz; go_simp; try with_reducible rfl)
            (try simp only [Act.put, List.setIfInBounds_toArray, List.set_cons_zero, List.set_cons_succ])
            refine PlanT.take0 (v := ?vR7) (by kernel_rfl) ?yR7 ?rR7
            case yR7 => (intro wz hz; obtain ⟨z1, z2⟩ := hz; go_simp; try with_reducible rfl)
            (try simp only [Act.put, List.setIfInBounds_toArray, List.set_cons_zero, List.set_cons_succ])
            refine PlanT.take0 (v := ?vR8) (by kernel_rfl) ?yR8 ?rR8
            case yR8 => (intro wz hz; obtain ⟨z1, z2⟩ := hz; go_simp; try with_reducible rfl)
            (try simp only [Act.put, List.setIfInBounds_toArray, List.set_cons_zero, List.set_cons_succ])
            refine PlanT.take0 (v := ?vR9) (by kernel_rfl) ?yR9 ?rR9
            case yR9 => (intro wz hz; obtain ⟨z1, z2⟩ := hz; go_simp; try with_reducible rfl)
            (try simp only [Act.put, List.setIfInBounds_toArray, List.set_cons_zero, List.set_cons_succ])
            refine PlanT.exec2 (fun K hK => ⟨by kernel_rfl, ?_⟩)
            go_simp
            go_at_call 45
            (with_reducible refine HMA.out.mono ?_)
            rintro e wx ⟨rfl, rfl⟩
            go_wp2_with fail
            refine hK.out _ _ ⟨b5, b6⟩ trivial ?_
            clear hK K
            (try simp only [Act.put, List.setIfInBounds_toArray, List.set_cons_zero, List.set_cons_succ])
            refine PlanT.exec2 (fun K hK => ⟨by kernel_rfl, ?_⟩)
            go_simp
            go_at_call 69
            (with_reducible refine HRE.out.mono ?_)
            rintro e wx ⟨rfl, rfl⟩
            go_wp2_with fail
            refine hK.out _ _ ⟨b5, b6⟩ trivial ?_
            clear hK K
            (try simp only [Act.put, List.setIfInBounds_toArray, List.set_cons_zero, List.set_cons_succ])
            refine PlanT.take0 (v := ?vR12) (by kernel_rfl) ?yR12 ?rR12
            case yR12 => (intro wz hz; obtain ⟨z1, z2⟩ := hz; go_simp; try with_reducible rfl)
            (try simp only [Act.put, List.setIfInBounds_toArray, List.set_cons_zero, List.set_cons_succ])
            refine PlanT.done (NoPanic.normal ?_)
            go_wp2
            go_loopw [8, 9] (fun lv kv wr3 => ∃ (l k : Nat) (b : List UInt8), lv = .int .i64 l ∧ kv = .int .i64 k ∧ k ≤ F.loose.length ∧ l ≤ 100000 ∧ Hid (KS F L k l b) ∧ Hid (FallL o w1 wr3 q mi id g.fp F b)) (fun _ kv _ => F.loose.length - (intOf kv).toNat)
            case atStart => exact ⟨L, 0, F.safe, rfl, rfl, Nat.zero_le _, HLL, Lib.hid (KS.start F L), HFS0⟩
            case round =>
              obtain ⟨l, k, b, rfl, rfl, hk, hl5, HKS, HLS⟩ := hrel
              obtain ⟨o3, v3, g3, gg, hD3, hg3, hfp3, hdf3, hT3, hG3⟩ := HLS.out
              have ga := hD3.each id gg hg3
              have hps : pwL gg.ps = F.loose := congrArg DF.loose hdf3
              have hsf : gg.safe = b := congrArg DF.safe hdf3
              have hpl : gg.ps.length = F.loose.length := by rw [← hps]; unfold pwL; rw [List.length_map]
              obtain ⟨pa, pc, hpv, hpc1, _⟩ := rd_of_own ga.row
              have s1 : wr.cell? ⟨g.fp, 1, none⟩ = some (.slice pa F.loose.length pc) := by rw [← hfp3, ← hpl, ← hpv]; exact blk_cell ga.blk
              have hpc2 : F.loose.length ≤ pc := by omega
              have sf1 : wr.frozen? ⟨g.fp, 1, none⟩ = false := by rw [← hfp3]; exact blk_free ga.blk
              have HD3 := Lib.hid hD3
              have HG3 := Lib.hid hg3
              have HFP3 := Lib.hid hfp3
              have HT3 := Lib.hid hT3
              have HGR3 := Lib.hid hG3
              have HGA3 := Lib.hid ga
              have HPS := Lib.hid hps
              have HSF := Lib.hid hsf
              have HPV := Lib.hid hpv
              have HPL := Lib.hid hpl
              have HDF3 := Lib.hid hdf3
              clear hD3 hg3 hfp3 hdf3 hT3 hG3 ga hps hsf hpv hpl hpc1
              by_cases hlt3 : k < F.loose.length
              · by_cases hl0 : 0 < l
                · obtain ⟨y, hy⟩ : ∃ y, gg.ps[k]? = some y := ⟨_, List.getElem?_eq_getElem (by rw [HPL.out]; exact hlt3)⟩
                  have hrr := rd_of_own HGA3.out.row
                  rw [HPV.out] at hrr
                  obtain ⟨rb, ro, hpa, d1, d2, hrb⟩ := rd_pw hrr hy
                  have hyr := HGA3.out.each y (List.mem_of_getElem? hy)
                  obtain ⟨ya, yc, hyv, hyc, _⟩ := hyr.form
                  rw [hyv] at d2 hyr
                  have hFk : F.loose[k]? = some (y.1, y.2.1) := by rw [← HPS.out]; unfold pwL; rw [List.getElem?_map, hy]; rfl
                  obtain ⟨yb, hyb⟩ : ∃ yb, y.2.1 = yb := ⟨_, rfl⟩
                  obtain ⟨yt, hyt⟩ : ∃ yt, y.1 = yt := ⟨_, rfl⟩
                  rw [hyb] at hyr hyc d2 hFk
                  rw [hyt] at d1 hFk
                  have hat := HKS.out.at_ hFk hl0 HOK.out.wok
                  have hnx := HKS.out.next hFk hl0 HOK.out.wok
                  obtain ⟨sa, sc, hsv, _, _⟩ := HGA3.out.safe.form
                  rw [HSF.out] at hsv
                  have s0 : wr.cell? ⟨g.fp, 0, none⟩ = some (.slice sa b.length sc) := by rw [← HFP3.out, ← hsv]; exact blk_cell HGA3.out.blk
                  have HRY := Lib.hid hyr
                  have HAT := Lib.hid hat
                  have HNX := Lib.hid hnx
                  have hgl : g.fp < wr.heap.size := by rw [← HFP3.out]; exact blk_lt HGA3.out.blk
                  have HRS := Lib.hid (show RdB wr (.slice sa b.length sc) b by rw [← hsv, ← HSF.out]; exact HGA3.out.safe)
                  subst hpa
                  have hbl : b.length < 100000 := by
                    have h1 := HKS.out.len
                    have h2 := many_take_le F.loose k
                    have h3 := HOK.out.size
                    omega
                  have hyl : yb.length < 100000 := by
                    have h2 := mem_many (List.mem_of_getElem? hFk)
                    have h3 := HOK.out.size
                    dsimp only at h2
                    omega
                  obtain ⟨c, hc⟩ : ∃ c, min l yb.length = c := ⟨_, rfl⟩
                  rw [hc] at HNX
                  have hmin : min (l : Int) (yb.length : Int) = (c : Int) := by omega
                  have hmax : max ((c : Nat) : Int) 0 = (c : Int) := by omega
                  have hcl : c ≤ yb.length := by omega
                  have hcy : c ≤ yc := by omega
                  have hsub : wrap64 ((l : Int) - (c : Int)) = ((l - c : Nat) : Int) := by rw [IntWalk.wrap64_in _ (by omega)]; omega
                  obtain ⟨pp, hpp⟩ : ∃ pp, pp = yb.take c := ⟨_, rfl⟩
                  have hppl : pp.length = c := by rw [hpp, List.length_take]; omega
                  obtain ⟨w19, hw19⟩ : ∃ w19, w19 = (wr.alloc (.cells #[.int .i64 (yt : Int), .slice ya c yc] 105)).drew := ⟨_, rfl⟩
                  have hb19 : Below wr.heap.size wr w19 := by rw [hw19]; exact ((Below.refl _ _).alloc (Nat.le_refl _) _).drew
                  have t0 : w19.cell? ⟨wr.heap.size, 0, none⟩ = some (.int .i64 (yt : Int)) := by rw [hw19]; exact blk_cell (heap_alloc_new wr _)
                  have t1 : w19.cell? ⟨wr.heap.size, 1, none⟩ = some (.slice ya c yc) := by rw [hw19]; exact blk_cell (heap_alloc_new wr _)
                  have s19 : w19.cell? ⟨g.fp, 0, none⟩ = some (.slice sa b.length sc) := (hb19.cell (p := ⟨g.fp, 0, none⟩) hgl).trans s0
                  have hf19 := (hb19.block gg.fp (blk_lt HGA3.out.blk)).trans HGA3.out.blk
                  have hrp := rd_prefix (HRY.out.below hb19 (Nat.le_refl _)) c hcl
                  rw [← hpp] at hrp HNX
                  have HDN := Lib.hid (ddone_any w19 sa sc b yt ya yc pp (HRS.out.below hb19 (Nat.le_refl _)) hrp HAT.out (by omega) (by omega))
                  rw [hppl] at HDN
                  have HW19 := Lib.hid hw19
                  have HB19 := Lib.hid hb19
                  have HF19 := Lib.hid hf19
                  have HT0 := Lib.hid t0
                  have HT1 := Lib.hid t1
                  have HS19 := Lib.hid s19
                  clear hrr hy hyv hyr hFk hyb hyt hat hnx hsv hc hpp hppl hw19 hb19 t0 t1 s19 hf19 hrp
                  go_wp2
                  refine wp_region_two (fun wz => wz.cell? ⟨g.fp, 0, none⟩ = some (.slice sa b.length sc) ∧ wz.cell? ⟨wr.heap.size, 0, none⟩ = some (.int .i64 (yt : Int)) ∧ wz.cell? ⟨wr.heap.size, 1, none⟩ = some (.slice ya c yc)) (fun _ => True) [(0, 0), (0, 1), (0, 2), (0, 3), (0, 4), (0, 5), (2, 6), (0, 7), (0, 8), (3, 9)] [9] (by kernel_rfl) (by kernel_rfl) (by kernel_rfl) (by kernel_rfl) (by kernel_rfl) (by rw [← HW19.out]; exact ⟨HS19.out, HT0.out, HT1.out⟩) trivial ?_
                  simp only [planT, List.drop_succ_cons, List.drop_zero]
                  rw [← HW19.out]
                  refine PlanT.take0 (v := ?vQ0) (by kernel_rfl) ?yQ0 ?rQ0
                  case yQ0 => (intro wz hz; obtain ⟨z1, z2, z3⟩ := hz; go_simp; try with_reducible rfl)
                  (try simp only [Act.put, List.setIfInBounds_toArray, List.set_cons_zero, List.set_cons_succ])
                  refine PlanT.take0 (v := ?vQ1) (by kernel_rfl) ?yQ1 ?rQ1
                  case yQ1 => (intro wz hz; obtain ⟨z1, z2, z3⟩ := hz; go_simp; try with_reducible rfl)
                  (try simp only [Act.put, List.setIfInBounds_toArray, List.set_cons_zero, List.set_cons_succ])
                  refine PlanT.take0 (v := ?vQ2) (by kernel_rfl) ?yQ2 ?rQ2
                  case yQ2 => (intro wz hz; obtain ⟨z1, z2, z3⟩ := hz; go_simp; try with_reducible rfl)
                  (try simp only [Act.put, List.setIfInBounds_toArray, List.set_cons_zero, List.set_cons_succ])
                  refine PlanT.take0 (v := ?vQ3) (by kernel_rfl) ?yQ3 ?rQ3
                  case yQ3 => (intro wz hz; obtain ⟨z1, z2, z3⟩ := hz; go_simp; try with_reducible rfl)
                  (try simp only [Act.put, List.setIfInBounds_toArray, List.set_cons_zero, List.set_cons_succ])
                  refine PlanT.take0 (v := ?vQ4) (by kernel_rfl) ?yQ4 ?rQ4
                  case yQ4 => (intro wz hz; obtain ⟨z1, z2, z3⟩ := hz; go_simp; try with_reducible rfl)
                  (try simp only [Act.put, List.setIfInBounds_toArray, List.set_cons_zero, List.set_cons_succ])
                  refine PlanT.take0 (v := ?vQ5) (by kernel_rfl) ?yQ5 ?rQ5
                  case yQ5 => (intro wz hz; obtain ⟨z1, z2, z3⟩ := hz; go_simp; try with_reducible rfl)
                  (try simp only [Act.put, List.setIfInBounds_toArray, List.set_cons_zero, List.set_cons_succ])
                  refine PlanT.exec2 (fun K hK => ⟨by kernel_rfl, ?_⟩)
                  go_simp
                  go_at_call 71
                  (with_reducible refine HDN.out.mono ?_)
                  rintro e w6 ⟨u, rfl, hu, hb6⟩
                  obtain ⟨ua, uc, rfl, _, _⟩ := hu.read.form
                  have hg6 := (hb6.block gg.fp (blk_lt HF19.out)).trans HF19.out
                  rw [HFP3.out] at hg6
                  have c6 : w6.cell? ⟨g.fp, 0, none⟩ = some gg.sv := blk_cell hg6
                  have f6 : w6.frozen? ⟨g.fp, 0, none⟩ = false := blk_free hg6
                  have k6 := (hb6.cell (p := ⟨g.fp, 0, none⟩) (by have := HB19.out.size; show g.fp < _; omega)).trans HS19.out
                  have l6 := (hb6.cell (p := ⟨wr.heap.size, 0, none⟩) (World.block_lt_of_cell? w19 _ HT0.out)).trans HT0.out
                  have m6 := (hb6.cell (p := ⟨wr.heap.size, 1, none⟩) (World.block_lt_of_cell? w19 _ HT1.out)).trans HT1.out
                  have HU6 := Lib.hid hu
                  have HB6 := Lib.hid hb6
                  have HC6 := Lib.hid (And.intro k6 (And.intro l6 m6))
                  clear hu hb6 hg6 k6 l6 m6
                  go_wp2_with fail
                  refine hK.out _ _ ⟨HC6.out.1, HC6.out.2.1, HC6.out.2.2⟩ trivial ?_
                  clear hK K
                  (try simp only [Act.put, List.setIfInBounds_toArray, List.set_cons_zero, List.set_cons_succ])
                  refine PlanT.take0 (v := ?vQ7) (by kernel_rfl) ?yQ7 ?rQ7
                  case yQ7 => (intro wz hz; obtain ⟨z1, z2, z3⟩ := hz; go_simp; try with_reducible rfl)
                  (try simp only [Act.put, List.setIfInBounds_toArray, List.set_cons_zero, List.set_cons_succ])
                  refine PlanT.take0 (v := ?vQ8) (by kernel_rfl) ?yQ8 ?rQ8
                  case yQ8 => (intro wz hz; obtain ⟨z1, z2, z3⟩ := hz; go_simp; try with_reducible rfl)
                  (try simp only [Act.put, List.setIfInBounds_toArray, List.set_cons_zero, List.set_cons_succ])
                  refine PlanT.exec3 (fun K hK => ⟨by kernel_rfl, ?_⟩)
                  go_simp
                  refine hK.out _ _ trivial ?_
                  clear hK K
                  (try simp only [Act.put, List.setIfInBounds_toArray, List.set_cons_zero, List.set_cons_succ])
                  refine PlanT.done (NoPanic.normal ?_)
                  obtain ⟨w20, hw20⟩ : ∃ w20, w20 = w6.setCell ⟨g.fp, 0, none⟩ (.slice ua (Go.Proofs.Ytfeogoihkpclcaa.wr b yt pp).length uc) := ⟨_, rfl⟩
                  rw [← hw20]
                  have hfl := FallL.next HLS.out (HB19.out.trans (HB6.out.mono HB19.out.size)) (own_base HU6.out fun k e => Nat.le_trans HB19.out.size (World.ownsRow.lt HU6.out k e).1)
                  rw [← hw20] at hfl
                  have HFL := Lib.hid hfl
                  clear hfl hw20 c6 f6
                  go_wp2
                  go_roundw
                  case rel =>
                    have hcl2 : c ≤ l := by omega
                    have hk1k := HOK.out.num
                    have hk1 : wrap64 ((k : Int) + 1) = ((k + 1 : Nat) : Int) := by rw [IntWalk.wrap64_in _ (by omega)]; omega
                    have hlc : (l : Int) - (c : Int) = ((l - c : Nat) : Int) := by omega
                    exact ⟨l - c, k + 1, Go.Proofs.Ytfeogoihkpclcaa.wr b yt pp, congrArg (Value.int .i64) hlc, congrArg (Value.int .i64) hk1, hlt3, by omega, HNX, HFL⟩
                  case measure =>
                    have hk1k := HOK.out.num
                    have hk1 : wrap64 ((k : Int) + 1) = ((k + 1 : Nat) : Int) := by rw [IntWalk.wrap64_in _ (by omega)]; omega
                    rw [hk1]
                    exact fall_meas hlt3
                · have hlz : l = 0 := by omega
                  subst hlz
                  have HB : Hid (kept F.loose L F.safe = b) := Lib.hid (HKS.out.stop (.inr rfl))
                  clear hl0
                  go_wp2
                  go_roundw
                  case rel =>
                    refine ⟨j + 1, by omega, by go_num, Lib.hid ?_⟩
                    have hz := HLS.out.done
                    have e1 : F.fallen (p.left j F.many) = ⟨b, []⟩ := by unfold DF.fallen; rw [HL0.out, HB.out]
                    have e2 : (m.files.getD x.2 DF.none_) = F := HDFM.out.symm
                    have e3 := HFS.out.1
                    rw [e2, e1, ← HID.out] at e3
                    rw [HMI.out] at hz
                    rw [e3]
                    exact hz
                  case measure => simp [intOf]; omega
              · have HB : Hid (kept F.loose L F.safe = b) := Lib.hid (HKS.out.stop (.inl (by omega)))
                go_wp2
                go_roundw
                case rel =>
                  refine ⟨j + 1, by omega, by go_num, Lib.hid ?_⟩
                  have hz := HLS.out.done
                  have e1 : F.fallen (p.left j F.many) = ⟨b, []⟩ := by unfold DF.fallen; rw [HL0.out, HB.out]
                  have e2 : (m.files.getD x.2 DF.none_) = F := HDFM.out.symm
                  have e3 := HFS.out.1
                  rw [e2, e1, ← HID.out] at e3
                  rw [HMI.out] at hz
                  rw [e3]
                  exact hz
                case measure => simp [intOf]; omega
        · have hjn : N.take j = N := List.take_of_length_le (by omega)
          obtain ⟨mi, hmi⟩ : ∃ mi : DM, mi = { m with old := N, files := fallFiles p N 0 m.files } := ⟨_, rfl⟩
          have hD := HD.out
          rw [hjn, ← hmi] at hD
          have hb3 : wr.heap[w.heap.size]? = some (.cells #[.int .i64 p.room, .int .i64 p.crash, .bool p.done, .slice ka p.keep.length kc, .int .i64 p.names] 24 (0, 0)) := touch_blk HTT.out HOB1.out HX1.out
          have hmo : mi.old = N := by rw [hmi]
          have hro : Rd wr 2 (.slice oa N.length oc) N.length (bCells N) := by
            have := hD.old
            rw [HOV.out, hmo] at this
            exact this
          have HRO := Lib.hid hro
          have HDI := Lib.hid hD
          have HMI := Lib.hid hmi
          have HMO := Lib.hid hmo
          have HQ := Lib.hid (show q < wr.heap.size from blk_lt hD.blk)
          have HBX := Lib.hid hb3
          have hal : Below wr.heap.size wr (wr.alloc (.cells #[] 87)) := (Below.refl _ _).alloc (Nat.le_refl _) _
          have HAL := Lib.hid hal
          have r2' : ∀ o, (wr.alloc o).cell? ⟨q, 2, none⟩ = some (.slice oa N.length oc) := fun o => (World.cell?_of_block (a := ⟨q, 2, none⟩) (Below.heap_alloc _ _ _ HQ.out)).trans r2
          have HJ := Lib.hid hj
          have HLT := Lib.hid hlt
          clear hjn hD hb3 hmo hro hmi hal
          go_wp2_with (at_builtin; refine wpList_append_rd rfl (.tmp 125) (.tmp 129) 53 rfl wr.heap.size 87 2 24 (.agg #[.string ⟨#[]⟩, .int .i64 0]) Try.underlying53 info_bind rfl (by decide) (.slice (some ⟨wr.heap.size, 0, none⟩) 0 0) (.slice oa N.length oc) 0 N.length [] (bCells N) rfl rfl (made_ownD wr _ _) (HRO.out.below HAL.out (Nat.le_refl _)) (b_one _) HAL.out.size (by omega) (by unfold maxLen; omega) ?kk)
          case kk =>
            intro u2 w2 hown hBk
            have hb2 := hBk wr.heap.size wr (Nat.le_refl _) HAL.out
            have hown2 : w2.ownsRow wr.heap.size 87 2 u2 N.length (bCells N) := by simpa using hown
            obtain ⟨ua, uc, rfl, _, _⟩ := rd_of_own hown2
            have hq2 : w2.heap[q]? = some (.cells (docCells v2 mi) 56 (0, 0)) := (hb2.block q HQ.out).trans HDI.out.blk
            have hx2 : w2.heap[w.heap.size]? = some (.cells #[.int .i64 p.room, .int .i64 p.crash, .bool p.done, .slice ka p.keep.length kc, .int .i64 p.names] 24 (0, 0)) := (hb2.block _ (blk_lt HBX.out)).trans HBX.out
            have hqx : q ≠ w.heap.size := by have := HH.out.lt q (by rw [HH.out.rol]; simp); omega
            have c1 : w2.cell? ⟨q, 1, none⟩ = some v2.nv := blk_cell hq2
            have f1 : w2.frozen? ⟨q, 1, none⟩ = false := blk_free hq2
            obtain ⟨w3, hw3⟩ : ∃ w3, w3 = w2.setCell ⟨q, 1, none⟩ (.slice ua N.length uc) := ⟨_, rfl⟩
            have hq3 : w3.heap[q]? = some (.cells (docCells { v2 with nv := .slice ua N.length uc } mi) 56 (0, 0)) := by rw [hw3]; exact (blk_set (i := 1) hq2 _).trans (by simp [docCells])
            have hx3 : w3.heap[w.heap.size]? = some (.cells #[.int .i64 p.room, .int .i64 p.crash, .bool p.done, .slice ka p.keep.length kc, .int .i64 p.names] 24 (0, 0)) := by rw [hw3]; exact (Below.heap_setCell _ _ _ _ (fun e => hqx e.symm)).trans hx2
            have HW3 := Lib.hid hw3
            have HQ3 := Lib.hid hq3
            have HX3 := Lib.hid hx3
            have HO2 := Lib.hid hown2
            have HB2 := Lib.hid hb2
            have HQ2 := Lib.hid hq2
            clear hown hBk hb2 hown2 hq2 hx2 hw3 hq3 hx3
            go_upto_region 22 with (fail)
            rw [← HW3.out]
            have c3 : w3.cell? ⟨q, 3, none⟩ = some v2.lv := blk_cell HQ3.out
            have f3 : w3.frozen? ⟨q, 3, none⟩ = false := blk_free HQ3.out
            obtain ⟨w4, hw4⟩ : ∃ w4, w4 = w3.setCell ⟨q, 3, none⟩ (.slice none 0 0) := ⟨_, rfl⟩
            have hq4 : w4.heap[q]? = some (.cells (docCells { v2 with nv := .slice ua N.length uc, lv := .slice none 0 0 } mi) 56 (0, 0)) := by rw [hw4]; exact (blk_set (i := 3) HQ3.out _).trans (by simp [docCells])
            have hx4 : w4.heap[w.heap.size]? = some (.cells #[.int .i64 p.room, .int .i64 p.crash, .bool p.done, .slice ka p.keep.length kc, .int .i64 p.names] 24 (0, 0)) := by rw [hw4]; exact (Below.heap_setCell _ _ _ _ (fun e => hqx e.symm)).trans HX3.out
            have HW4 := Lib.hid hw4
            have HQ4 := Lib.hid hq4
            have HX4 := Lib.hid hx4
            clear hw4 hq4 hx4 c1 f1
            go_upto_region 23 with (fail)
            rw [← HW4.out]
            have p0 : w4.cell? ⟨w.heap.size, 0, none⟩ = some (.int .i64 p.room) := blk_cell HX4.out
            have p1 : w4.cell? ⟨w.heap.size, 1, none⟩ = some (.int .i64 p.crash) := blk_cell HX4.out
            have p2 : w4.cell? ⟨w.heap.size, 2, none⟩ = some (.bool p.done) := blk_cell HX4.out
            have p3 : w4.cell? ⟨w.heap.size, 3, none⟩ = some (.slice ka p.keep.length kc) := blk_cell HX4.out
            have p4 : w4.cell? ⟨w.heap.size, 4, none⟩ = some (.int .i64 p.names) := blk_cell HX4.out
            have e4 : w4.cell? ⟨q, 4, none⟩ = some (.int .i64 mi.plan.room) := blk_cell HQ4.out
            have e5 : w4.cell? ⟨q, 5, none⟩ = some (.int .i64 mi.plan.crash) := blk_cell HQ4.out
            have e6 : w4.cell? ⟨q, 6, none⟩ = some (.bool mi.plan.done) := blk_cell HQ4.out
            obtain ⟨ka2, kn2, kc2, hkv2⟩ := HDI.out.keep
            have e7 : w4.cell? ⟨q, 7, none⟩ = some (.slice ka2 kn2 kc2) := (blk_cell HQ4.out).trans (by show some v2.kv = _; rw [hkv2])
            have e8 : w4.cell? ⟨q, 8, none⟩ = some (.int .i64 mi.plan.names) := blk_cell HQ4.out
            have f48 : ∀ i, w4.frozen? ⟨q, i, none⟩ = false := fun i => blk_free HQ4.out
            clear c3 f3 hkv2
            obtain ⟨w5, hw5⟩ : ∃ w5, w5 = ((((w4.setCell ⟨q, 4, none⟩ (.int .i64 p.room)).setCell ⟨q, 5, none⟩ (.int .i64 p.crash)).setCell ⟨q, 6, none⟩ (.bool p.done)).setCell ⟨q, 7, none⟩ (.slice ka p.keep.length kc)).setCell ⟨q, 8, none⟩ (.int .i64 p.names) := ⟨_, rfl⟩
            have hq5 : w5.heap[q]? = some (.cells (docCells { v2 with nv := .slice ua N.length uc, lv := .slice none 0 0, kv := .slice ka p.keep.length kc } { mi with plan := p }) 56 (0, 0)) := by
              rw [hw5]
              exact (blk_set (i := 8) (blk_set (i := 7) (blk_set (i := 6) (blk_set (i := 5) (blk_set (i := 4) HQ4.out _) _) _) _) _).trans (by simp [docCells])
            have hk5 : Kept (fun k => k ≠ q) w4 w5 := by
              rw [hw5]
              exact (((((Kept.refl _ w4).setCell (fun h => h rfl) _).setCell (fun h => h rfl) _).setCell (fun h => h rfl) _).setCell (fun h => h rfl) _).setCell (fun h => h rfl) _
            have HW5 := Lib.hid hw5
            have HQ5 := Lib.hid hq5
            have HK5 := Lib.hid hk5
            clear hw5 hq5 hk5
            go_upto_region 24 with (fail)
            rw [← HW5.out]
            clear p0 p1 p2 p3 p4 e4 e5 e6 e7 e8 f48
            have c9 : w5.cell? ⟨q, 9, none⟩ = some (.int .i64 mi.calls) := blk_cell HQ5.out
            have f9 : w5.frozen? ⟨q, 9, none⟩ = false := blk_free HQ5.out
            obtain ⟨w6, hw6⟩ : ∃ w6, w6 = w5.setCell ⟨q, 9, none⟩ (.int .i64 0) := ⟨_, rfl⟩
            have hq6 : w6.heap[q]? = some (.cells (docCells { v2 with nv := .slice ua N.length uc, lv := .slice none 0 0, kv := .slice ka p.keep.length kc } { mi with plan := p, calls := 0 }) 56 (0, 0)) := by rw [hw6]; exact (blk_set (i := 9) HQ5.out _).trans (by simp [docCells])
            have HW6 := Lib.hid hw6
            have HQ6 := Lib.hid hq6
            clear hw6 hq6
            go_upto_region 25 with (fail)
            rw [← HW6.out]
            have c10 : w6.cell? ⟨q, 10, none⟩ = some (.bool mi.down) := blk_cell HQ6.out
            have f10 : w6.frozen? ⟨q, 10, none⟩ = false := blk_free HQ6.out
            clear c9 f9
            go_wp2
            go_end0
            obtain ⟨w7, hw7⟩ : ∃ w7, w7 = w6.setCell ⟨q, 10, none⟩ (.bool false) := ⟨_, rfl⟩
            rw [← hw7]
            have hq7 : w7.heap[q]? = some (.cells (docCells { v2 with nv := .slice ua N.length uc, lv := .slice none 0 0, kv := .slice ka p.keep.length kc } { mi with plan := p, calls := 0, down := false }) 56 (0, 0)) := by rw [hw7]; exact (blk_set (i := 10) HQ6.out _).trans (by simp [docCells])
            have hk47 : Kept (fun k => k < w4.heap.size ∧ k ≠ q) w4 w7 := by
              rw [hw7, HW6.out]
              exact (((HK5.out.setCell (fun h => h rfl) _).setCell (fun h => h rfl) _).mono fun k h => h.2)
            have hk3 : Kept (fun k => k < wr.heap.size ∧ k ≠ q) wr w3 := by rw [HW3.out]; exact (Kept.of HB2.out fun _ h => h.1).setCell (fun h => h.2 rfl) _
            have hs3 : w3.heap.size = w2.heap.size := by rw [HW3.out]; simp [World.setCell]
            have hr3 : Rd w3 2 (.slice ua N.length uc) N.length (bCells N) := by
              rw [HW3.out]
              refine (rd_of_own HO2.out).kept (R := fun k => k ≠ q) ((Kept.refl _ w2).setCell (fun h => h rfl) _) fun k e ep => ?_
              have := (World.ownsRow.lt HO2.out k e).1
              have := HQ.out
              omega
            obtain ⟨hDo, hTo, hGo⟩ := HDI.out.set_now hk3 HQ3.out hr3 (fun k e => .inr ⟨(World.ownsRow.lt HO2.out k e).1, by rw [hs3]; exact (World.ownsRow.lt HO2.out k e).2⟩)
            have hk4 : Kept (fun k => k < w3.heap.size ∧ k ≠ q) w3 w4 := by rw [HW4.out]; exact (Kept.refl _ w3).setCell (fun h => h.2 rfl) _
            have hDn := hDo.no_loose hk4 HQ4.out
            have hDs := hDn.scal2 (m' := { mi with now := N, loose := [], plan := p, calls := 0, down := false }) hk47 ⟨_, _, _, rfl⟩ hq7 rfl rfl rfl rfl
            have hGo4 := hGo.trans (Grows.refl _ w3 w4) hTo.size hk4.size
            have ht := (hTo.trans (doc_touch hDo.rol hk4) hGo).trans (doc_touch hDn.rol hk47) hGo4
            have hgr : Grows (DF_ o2) (DF_ _) wr w7 := hGo.trans (Grows.refl _ _ _) hTo.size (Nat.le_trans hk4.size hk47.size)
            have hfin : DocTo o w1 w7 q { mi with now := N, loose := [], plan := p, calls := 0, down := false } := ⟨_, _, _, hDs, HTT.out.trans ht HGG.out, HGG.out.trans hgr HTT.out.size ht.size⟩
            have e1 : ({ mi with now := N, loose := [], plan := p, calls := 0, down := false } : DM) = m.fall p := by rw [HMI.out]; unfold DM.fall; rw [HNN.out]
            rw [e1] at hfin
            exact ⟨rfl, DocTo.trans (Touch.of_below HB1.out) (Grows.refl _ _ _) hfin⟩

end Go.Proofs.Ytfeogoihkpclcaa
