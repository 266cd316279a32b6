import Derived.Test.YtfeogoihkpclcaaMg12
import Derived.Test.YtfeogoihkpclcaaMg00
import Derived.Lib.SlBytesConst

/-
  A disk falls.
-/
namespace Go.Proofs.Ytfeogoihkpclcaa
open Go.RowKit

/-- The numbers of a plan. -/
def nthK (keep : List Int) (i : Nat) : Int := if keep = [] then 0 else keep.getD (i % keep.length) 0

def IntsAt (g : Gh) (w : World) (kv : Value) (keep : List Int) : Prop := (∃ a c, kv = .slice a 0 c ∧ keep = []) ∨ ∃ kb ko cap, kv = .slice (some ⟨kb, ko, none⟩) keep.length cap ∧ 0 < keep.length ∧ kb < w.heap.size ∧ ¬ g.F kb ∧ ∀ (i : Nat) (v : Int), keep[i]? = some v → w.cell? ⟨kb, ko + i, none⟩ = some (.int .i64 v)

/-- The files of the first 'k' names fall. -/
def fallF (keep : List Int) (l : DB) (fs : List PF) : Nat → List PF
  | 0 => fs
  | k + 1 => match l[k]? with
    | none => fallF keep l fs k
    | some x => (fallF keep l fs k).set x.2 (((fallF keep l fs k).getD x.2 PF.new).fallen (nthK keep k))

/-- The names as the first 'k' loose changes leave them. -/
def PD.redone (d : PD) (k : Nat) : PD := { d with names := (d.loose.take k).foldl ren d.safe }
def PD.fell (d : PD) (keep : List Int) (k : Nat) : PD := { d with files := fallF keep d.names d.files k }
def PD.begun (d : PD) (room crash : Int) (done : Bool) : PD := { d with room := room, crash := crash, done := done, calls := 0, down := false }

theorem redone_succ {d : PD} {k : Nat} {c : PC} (h : d.loose[k]? = some c) : d.redone (k + 1) = { d.redone k with names := ren (d.redone k).names c } := by
  obtain ⟨h1, h2⟩ := List.getElem?_eq_some_iff.1 h
  unfold PD.redone
  rw [List.take_succ_eq_append_getElem h1, List.foldl_append, h2]
  rfl
theorem fell_succ {d : PD} {keep : List Int} {k : Nat} {x : List UInt8 × Nat} (h : d.names[k]? = some x) : d.fell keep (k + 1) = { d.fell keep k with files := (d.fell keep k).files.set x.2 (((d.fell keep k).files.getD x.2 PF.new).fallen (nthK keep k)) } := by
  unfold PD.fell
  simp [fallF, h]

theorem out_step {g g' : Gh} {w w' : World} {k : Nat} (hk : k < w.heap.size) (hf : ¬ g.F k) (h : Step g g' w w') : w'.heap[k]? = w.heap[k]? ∧ ¬ g'.F k ∧ k < w'.heap.size :=
  ⟨h.touch.block k ⟨hk, hf⟩, fun e => by rcases h.new k e with h1 | h1; exact hf h1; omega, Nat.lt_of_lt_of_le hk h.touch.size⟩

theorem IntsAt.step {g g' : Gh} {w w' : World} {kv : Value} {keep : List Int} (hi : IntsAt g w kv keep) (h : Step g g' w w') : IntsAt g' w' kv keep := by
  rcases hi with hi | ⟨kb, ko, cap, h1, h2, h3, h4, h5⟩
  · exact .inl hi
  · obtain ⟨a1, a2, a3⟩ := out_step h3 h4 h
    exact .inr ⟨kb, ko, cap, h1, h2, a3, a2, fun i v e => (h.touch.cell (p := ⟨kb, ko + i, none⟩) ⟨h3, h4⟩).trans (h5 i v e)⟩

theorem begin_at {g : Gh} {w : World} {p : Nat} {d : PD} (h : DiskAt g w p d) (room crash names : Int) (done : Bool) (kv : Value) :
    Calls Try.prog 22 #[.pointer (some ⟨p, 0, none⟩), .agg #[.int .i64 room, .int .i64 crash, .bool done, kv, .int .i64 names]] w fun e w' => e = .returned (.tuple #[]) ∧ DiskAt g w' p (d.begun room crash done) ∧ Step g g w w' := by
  have hb := h.blk
  unfold dCells at hb
  refine (begin_any w p _ _ _ _ _ _ _ _ _ room crash names done kv hb).mono ?_
  rintro e w' ⟨rfl, h1, h2⟩
  exact ⟨rfl, h.scal h2 h1 rfl rfl rfl rfl, step_scal h h2⟩

/-- A name's file is found, and falls. -/
theorem find_fall {gk : Gh} {w3 : World} {p : Nat} {d : PD} (hd : DiskAt gk w3 p d) (hsm : Small d) (k : Nat) (xn : List UInt8 × Nat) (hx : d.names[k]? = some xn) (n : Int) (hn : (Lit.int .i64 n).wf = true) :
    ∃ fb : Nat, (Calls Try.prog 42 #[.pointer (some ⟨p, 0, none⟩), .string (strB xn.1)] w3 fun e w' => e = .returned (.pointer (some ⟨fb, xn.2 * 3, none⟩)) ∧ w3 = w') ∧
      Calls Try.prog 58 #[.pointer (some ⟨fb, xn.2 * 3, none⟩), .int .i64 n] w3 fun e w' => e = .returned (.tuple #[]) ∧ ∃ g', DiskAt g' w' p { d with files := d.files.set xn.2 ((d.files.getD xn.2 PF.new).fallen n) } ∧ Step gk g' w3 w' := by
  have hmem := List.mem_of_getElem? hx
  have hnm := hsm.nml xn hmem
  have hss : (strB xn.1).size ≤ maxLen := by rw [strB_size]; unfold maxLen; omega
  have hfnd := srt_find hd.nr.srt hx
  rcases find_at hd (strB xn.1) hss hsm.idn with ⟨hf, _⟩ | ⟨id, fb, cap, x, f, hf, hidl, hfv, hxg, hff, hofb, hfbl, hfa, e0, e1, e2, ef, hcall⟩
  · have : (strB xn.1).data.toList = xn.1 := rfl
    rw [this, hfnd] at hf; cases hf
  · have : (strB xn.1).data.toList = xn.1 := rfl
    rw [this, hfnd] at hf
    obtain rfl : xn.2 = id := by simpa using hf
    refine ⟨fb, hcall, ?_⟩
    have hq := ffall_at hd hsm xn.2 fb cap n hn x f hfv hxg
    have e : d.files.getD xn.2 PF.new = f := by rw [List.getD_eq_getElem?_getD, hff]; rfl
    rw [e]
    exact hq

set_option maxRecDepth 100000 in
set_option maxHeartbeats 4000000 in
set_option linter.unusedSimpArgs false in
theorem fall_at {g : Gh} {w : World} {p : Nat} {d : PD} (h : DiskAt g w p d) (room crash names : Int) (done : Bool) (kv : Value) (keep : List Int) (hnn : (Lit.int .i64 names).wf = true) (hkw : ∀ v ∈ keep, (Lit.int .i64 v).wf = true) (hkl : keep.length < 1000000) (hkv : IntsAt g w kv keep)
    (hsm : ∀ k, Small (d.redone k)) (hsm2 : ∀ k, Small ((d.redone (rest names d.loose.length)).fell keep k)) (hnd : ((d.redone (rest names d.loose.length)).names.map (·.2)).Nodup) :
    Calls Try.prog 20 #[.pointer (some ⟨p, 0, none⟩), .agg #[.int .i64 room, .int .i64 crash, .bool done, kv, .int .i64 names]] w fun e w' => e = .returned (.tuple #[]) ∧
      ∃ g', DiskAt g' w' p ((((d.redone (rest names d.loose.length)).fell keep (d.redone (rest names d.loose.length)).names.length).settled).begun room crash done) ∧ Step g g' w w' := by
  have hpl := blk_lt h.blk
  have hpw : w.heap.size ≠ p := by omega
  obtain ⟨w1, hw1⟩ : ∃ w1, w1 = w.alloc (.cells #[.int .i64 room, .int .i64 crash, .bool done, kv, .int .i64 names] 24) := ⟨_, rfl⟩
  have hb1 : Below w.heap.size w w1 := by subst hw1; exact (Below.refl _ _).alloc (Nat.le_refl _) _
  have hd1 := h.below hb1
  have hs1 : w1.heap.size = w.heap.size + 1 := by subst hw1; simp
  have hx1 : w1.heap[w.heap.size]? = some (.cells #[.int .i64 room, .int .i64 crash, .bool done, kv, .int .i64 names] 24 (0, 0)) := by subst hw1; exact heap_alloc_new w _
  have HD := Lib.hid h
  have HD1 := Lib.hid hd1
  have Hw1 := Lib.hid hw1
  have HB1 := Lib.hid hb1
  have HS1 := Lib.hid hs1
  have HX1 := Lib.hid hx1
  have HPW := Lib.hid hpw
  have HSM := Lib.hid hsm
  have HSM2 := Lib.hid hsm2
  have HND := Lib.hid hnd
  have HKV := Lib.hid hkv
  have HKW := Lib.hid hkw
  clear h hd1 hw1 hb1 hs1 hx1 hpw hsm hsm2 hnd hkv hkw
  go_enter Try.func20, Try.ntmps20
  have c7 : (w.alloc (.cells #[.int .i64 room, .int .i64 crash, .bool done, kv, .int .i64 names] 24)).cell? ⟨p, 7, none⟩ = some g.sv := by rw [← Hw1.out]; exact blk_cell HD1.out.blk
  go_wp2_with (go_at_call 25; rw [← Hw1.out]; refine (mclone_any w1 g.sv d.safe HD1.out.sr).mono ?_; rintro e w2 ⟨nv, rfl, hn2, hB2, hl2⟩; have hd2 := HD1.out.below hB2; have hx2 := (hB2.block _ (by have := HS1.out; omega)).trans HX1.out; have hs2 := hB2.size; have f6 : w2.frozen? ⟨p, 6, none⟩ = false := blk_free hd2.blk; have HN2 := Lib.hid hn2; have HB2 := Lib.hid hB2; have HL2 := Lib.hid hl2; have HD2 := Lib.hid hd2; have HX2 := Lib.hid hx2; have HS2 := Lib.hid hs2; have c6 : w2.cell? ⟨p, 6, none⟩ = some g.nv := blk_cell hd2.blk; clear hd2 hx2 hs2 hB2 hl2; (obtain ⟨mb, rfl⟩ : ∃ mb, nv = .map mb := by (rcases hn2 with ⟨rfl, _⟩ | ⟨b, rfl, _⟩; exact ⟨_, rfl⟩; exact ⟨_, rfl⟩)); clear hn2)
  obtain ⟨w3, hw3⟩ : ∃ w3, w3 = (w2.setCell ⟨p, 6, none⟩ (.map mb)).drew := ⟨_, rfl⟩
  have hb3 : w3.heap[p]? = some (.cells (dCells { g with nv := .map mb } d) 51 (0, 0)) := by subst hw3; exact (blk_set (i := 6) HD2.out.blk _).trans (by simp [dCells])
  have hk3 : Kept (fun k => k < w2.heap.size ∧ k ≠ p) w2 w3 := by subst hw3; exact ((Kept.refl _ w2).setCell (fun h => h.2 rfl) _).trans (Kept.of (Below.refl w2.heap.size _).drew (fun _ h => h.1))
  have hs1 := HS1.out
  have hs2 := HS2.out
  have hs3 : w3.heap.size = w2.heap.size := by subst hw3; simp
  have hx3 := (hk3.block w.heap.size ⟨by omega, HPW.out⟩).trans HX2.out
  obtain ⟨hd3, hst3⟩ := HD1.out.set_nv (.map mb) d.safe ((Kept.of HB2.out (R := fun k => k < w1.heap.size ∧ k ≠ p ∧ mapBlock g.nv ≠ some k) fun k hk => hk.1).trans (hk3.mono fun k hk => ⟨by omega, hk.2.1⟩)) hb3 (HN2.out.kept hk3 fun k e => by have := HL2.out k e; omega) (fun k e => .inr (by have := HL2.out k e; omega))
  obtain ⟨la, lcap, hlv, hlc1, hlc2⟩ := rd_of_own HD2.out.lr
  have c8 : w3.cell? ⟨p, 8, none⟩ = some g.lv := blk_cell hb3
  have b4 : w3.cell? ⟨w.heap.size, 4, none⟩ = some (.int .i64 names) := blk_cell hx3
  rw [hlv] at c8
  have hrl : rest names d.loose.length ≤ d.loose.length := by unfold rest; have := Nat.mod_lt (max 0 names).toNat (show 0 < d.loose.length + 1 by omega); omega
  have hrc : rest names d.loose.length ≤ lcap := by omega
  have HLV := Lib.hid hlv
  have HD3 := Lib.hid hd3
  have HST3 := Lib.hid hst3
  have HS3 := Lib.hid hs3
  have HX3 := Lib.hid hx3
  have Hw3 := Lib.hid hw3
  clear hw3 hb3 hk3 hs3 hx3 hd3 hst3 c7 c6 f6 hlv
  refine wp_region_two (fun wz => wz = w3) (fun _ => True) [(0, 0), (0, 1), (0, 2), (0, 3), (0, 4), (0, 5), (0, 6), (0, 7), (0, 8), (0, 9), (0, 10), (0, 14), (2, 11), (0, 12), (0, 13)] [] (by kernel_rfl) (by kernel_rfl) (by kernel_rfl) (by kernel_rfl) (by kernel_rfl) (by rw [← Hw3.out]) trivial ?_
  simp only [planT, List.drop_succ_cons, List.drop_zero]
  rw [← Hw3.out]
  refine PlanT.take0 (v := ?vb0) (by kernel_rfl) ?yb0 ?rb0
  case yb0 => (intro wz hz; cases hz; go_simp; try with_reducible rfl)
  (try simp only [Act.put, List.setIfInBounds_toArray, List.set_cons_zero, List.set_cons_succ])
  refine PlanT.take0 (v := ?vb1) (by kernel_rfl) ?yb1 ?rb1
  case yb1 => (intro wz hz; cases hz; go_simp; try with_reducible rfl)
  (try simp only [Act.put, List.setIfInBounds_toArray, List.set_cons_zero, List.set_cons_succ])
  refine PlanT.take0 (v := ?vb2) (by kernel_rfl) ?yb2 ?rb2
  case yb2 => (intro wz hz; cases hz; go_simp; try with_reducible rfl)
  (try simp only [Act.put, List.setIfInBounds_toArray, List.set_cons_zero, List.set_cons_succ])
  refine PlanT.take0 (v := ?vb3) (by kernel_rfl) ?yb3 ?rb3
  case yb3 => (intro wz hz; cases hz; go_simp; try with_reducible rfl)
  (try simp only [Act.put, List.setIfInBounds_toArray, List.set_cons_zero, List.set_cons_succ])
  refine PlanT.take0 (v := ?vb4) (by kernel_rfl) ?yb4 ?rb4
  case yb4 => (intro wz hz; cases hz; go_simp; try with_reducible rfl)
  (try simp only [Act.put, List.setIfInBounds_toArray, List.set_cons_zero, List.set_cons_succ])
  refine PlanT.take0 (v := ?vb5) (by kernel_rfl) ?yb5 ?rb5
  case yb5 => (intro wz hz; cases hz; go_simp; try with_reducible rfl)
  (try simp only [Act.put, List.setIfInBounds_toArray, List.set_cons_zero, List.set_cons_succ])
  refine PlanT.take0 (v := ?vb6) (by kernel_rfl) ?yb6 ?rb6
  case yb6 => (intro wz hz; cases hz; go_simp; try with_reducible rfl)
  (try simp only [Act.put, List.setIfInBounds_toArray, List.set_cons_zero, List.set_cons_succ])
  refine PlanT.take0 (v := ?vb7) (by kernel_rfl) ?yb7 ?rb7
  case yb7 => (intro wz hz; cases hz; go_simp; try with_reducible rfl)
  (try simp only [Act.put, List.setIfInBounds_toArray, List.set_cons_zero, List.set_cons_succ])
  refine PlanT.take0 (v := ?vb8) (by kernel_rfl) ?yb8 ?rb8
  case yb8 => (intro wz hz; cases hz; go_simp; try with_reducible rfl)
  (try simp only [Act.put, List.setIfInBounds_toArray, List.set_cons_zero, List.set_cons_succ])
  refine PlanT.take0 (v := ?vb9) (by kernel_rfl) ?yb9 ?rb9
  case yb9 => (intro wz hz; cases hz; go_simp; try with_reducible rfl)
  (try simp only [Act.put, List.setIfInBounds_toArray, List.set_cons_zero, List.set_cons_succ])
  refine PlanT.take0 (v := ?vb10) (by kernel_rfl) ?yb10 ?rb10
  case yb10 => (intro wz hz; cases hz; go_simp; try with_reducible rfl)
  (try simp only [Act.put, List.setIfInBounds_toArray, List.set_cons_zero, List.set_cons_succ])
  refine PlanT.take0 (v := ?vb14) (by kernel_rfl) ?yb14 ?rb14
  case yb14 => (intro wz hz; cases hz; go_simp; try with_reducible rfl)
  (try simp only [Act.put, List.setIfInBounds_toArray, List.set_cons_zero, List.set_cons_succ])
  refine PlanT.exec2 (fun K hK => ⟨by kernel_rfl, ?_⟩)
  go_simp
  refine (part_any w3 names d.loose.length hnn (by have := (HSM.out 0).loose; show d.loose.length < _; have e : (d.redone 0).loose = d.loose := rfl; rw [e] at this; omega)).mono ?_
  rintro e w4 ⟨rfl, rfl⟩
  refine hK.out _ _ rfl trivial ?_
  clear hK K
  (try simp only [Act.put, List.setIfInBounds_toArray, List.set_cons_zero, List.set_cons_succ])
  refine PlanT.take0 (v := ?vb12) (by kernel_rfl) ?yb12 ?rb12
  case yb12 => (intro wz hz; cases hz; go_simp; try with_reducible rfl)
  (try simp only [Act.put, List.setIfInBounds_toArray, List.set_cons_zero, List.set_cons_succ])
  refine PlanT.take0 (v := ?vb13) (by kernel_rfl) ?yb13 ?rb13
  case yb13 => (intro wz hz; cases hz; go_simp; try with_reducible rfl)
  (try simp only [Act.put, List.setIfInBounds_toArray, List.set_cons_zero, List.set_cons_succ])
  refine PlanT.done (NoPanic.normal ?_)
  have hll : d.loose.length < 10000 := (HSM.out 0).loose
  go_wp2
  go_loopw [33] (fun i wr => ∃ (k : Nat) (gk : Gh), k ≤ rest names d.loose.length ∧ i = .int .i64 k ∧ DiskAt gk wr p (d.redone k) ∧ Step g gk w1 wr ∧ gk.lv = g.lv) (fun i _ => rest names d.loose.length - (intOf i).toNat)
  case atStart =>
    exact ⟨0, _, Nat.zero_le _, rfl, HD3.out, HST3.out, rfl⟩
  case round =>
    obtain ⟨k, gk, hk, rfl, hdk, hstk, hlk⟩ := hrel
    have HDK := Lib.hid hdk
    have HSTK := Lib.hid hstk
    have HLK := Lib.hid hlk
    clear hdk hstk hlk
    by_cases hlt : k < rest names d.loose.length
    · obtain ⟨c, hc⟩ : ∃ c, d.loose[k]? = some c := ⟨_, List.getElem?_eq_getElem (by omega)⟩
      have hlr : wr.ownsRow 0 67 4 (.slice la d.loose.length lcap) d.loose.length (chCells d.loose) := by have := HDK.out.lr; rw [HLK.out, HLV.out] at this; exact this
      obtain ⟨lb, cap', cur, hv, _, _, hg, hcc, _⟩ := own_form hlr (by omega)
      cases hv
      have q := fun j hj => flat_at (fun c : PC => [Value.int .i64 (c.kind : Int), .string (strB c.src), .string (strB c.dst), .int .i64 (c.file : Int)]) 4 (fun _ => rfl) d.loose k j hj
      rw [hc] at q
      have e0 : wr.cell? ⟨lb, k * 4, none⟩ = some (.int .i64 (c.kind : Int)) := hcc _ _ (q 0 (by omega))
      have e1 : wr.cell? ⟨lb, k * 4 + 1, none⟩ = some (.string (strB c.src)) := hcc _ _ (q 1 (by omega))
      have e2 : wr.cell? ⟨lb, k * 4 + 2, none⟩ = some (.string (strB c.dst)) := hcc _ _ (q 2 (by omega))
      have e3 : wr.cell? ⟨lb, k * 4 + 3, none⟩ = some (.int .i64 (c.file : Int)) := hcc _ _ (q 3 (by omega))
      have HC := Lib.hid (redone_succ hc)
      have HR := Lib.hid (fun (w4 : World) (hb : Below wr.heap.size wr w4) => rename_at (HDK.out.below hb) c ((HSM.out k).ch c (List.mem_of_getElem? hc)) (HSM.out k).nm)
      clear q hcc hg hlr hc
      go_wp2_with (go_at_call 57; (with_reducible refine (HR.out _ (by first | exact (Below.refl _ _).alloc (Nat.le_refl _) _ | exact ((Below.refl _ _).alloc (Nat.le_refl _) _).drew)).mono ?_); rintro e w5 ⟨rfl, g5, hd5, hst5, _, _, hl5⟩; have hst5 := (Step.below (g := gk) (by first | exact (Below.refl _ _).alloc (Nat.le_refl _) _ | exact ((Below.refl _ _).alloc (Nat.le_refl _) _).drew)).trans hst5; have HD5 := Lib.hid hd5; have HST5 := Lib.hid hst5; have HL5 := Lib.hid hl5; clear hd5 hst5 hl5)
      go_roundw
      case rel => exact ⟨k + 1, g5, by omega, by go_num, by rw [HC.out]; exact HD5.out, HSTK.out.trans HST5.out, HL5.out.trans HLK.out⟩
      case measure => simp [intOf]; omega
    · have hkn : k = rest names d.loose.length := by omega
      subst hkn
      obtain ⟨wa, hwa⟩ : ∃ wa, wa = wr := ⟨_, rfl⟩
      subst hwa
      obtain ⟨d1, hd1⟩ : ∃ d1, d1 = d.redone (rest names d.loose.length) := ⟨_, rfl⟩
      have hda : DiskAt gk wa p d1 := by rw [hd1]; exact HDK.out
      have hsm0 : Small d1 := by rw [hd1]; exact HSM.out _
      have hsm2 : ∀ k, Small (d1.fell keep k) := by rw [hd1]; exact HSM2.out
      have hnd1 : (d1.names.map (·.2)).Nodup := by rw [hd1]; exact HND.out
      have HE1 := Lib.hid hd1
      clear hd1
      have c6 : wa.cell? ⟨p, 6, none⟩ = some gk.nv := blk_cell hda.blk
      have HR := Lib.hid (rising_any wa p gk.nv d1.names c6 hda.nr (by have := hsm0.names; omega))
      have hbx := out_step (k := w.heap.size) (by have := HS1.out; omega) (fun e => e (out_of HD.out (Nat.le_refl _))) HSTK.out
      have hkv := (HKV.out.step (Step.below HB1.out)).step HSTK.out
      have HBX := Lib.hid hbx
      have HKV1 := Lib.hid hkv
      have HDA := Lib.hid hda
      have HSM0 := Lib.hid hsm0
      have HSM3 := Lib.hid hsm2
      have HND1 := Lib.hid hnd1
      clear hda hsm0 hsm2 hnd1 c6 hbx hkv HSM HSM2 HND HDK
      have hdl := HSM0.out.names
      go_wp2_with (go_at_call 41; (with_reducible refine HR.out.mono ?_); rintro e w6 ⟨nv, rfl, hnr, hB6⟩; obtain ⟨na, ncap, hnv, _, _⟩ := rd_of_own hnr; subst hnv; have HNR := Lib.hid hnr; have HB6 := Lib.hid hB6; clear hnr hB6)
      go_loopw [44] (fun i wq => ∃ (k : Nat) (gq : Gh), k ≤ d1.names.length ∧ i = .int .i64 k ∧ DiskAt gq wq p (d1.fell keep k) ∧ Step gk gq w6 wq) (fun i _ => d1.names.length - (intOf i).toNat)
      case atStart => exact ⟨0, gk, Nat.zero_le _, rfl, HDA.out.below HB6.out, Step.refl _ _⟩
      case round =>
        obtain ⟨k, gq, hk, rfl, hdk, hstk⟩ := hrel
        have hbq := out_step HBX.out.2.2 HBX.out.2.1 ((Step.below HB6.out).trans hstk)
        have hxq := (hbq.1.trans HBX.out.1).trans HX1.out
        have hkq := (HKV1.out.step (Step.below HB6.out)).step hstk
        have hs6 := HB6.out.size
        have HDQ := Lib.hid hdk
        have HSTQ := Lib.hid hstk
        have b0 : wr.cell? ⟨w.heap.size, 0, none⟩ = some (.int .i64 room) := blk_cell hxq
        have b1 : wr.cell? ⟨w.heap.size, 1, none⟩ = some (.int .i64 crash) := blk_cell hxq
        have b2 : wr.cell? ⟨w.heap.size, 2, none⟩ = some (.bool done) := blk_cell hxq
        have b3 : wr.cell? ⟨w.heap.size, 3, none⟩ = some kv := blk_cell hxq
        have b4 : wr.cell? ⟨w.heap.size, 4, none⟩ = some (.int .i64 names) := blk_cell hxq
        have HXQ := Lib.hid hxq
        have HBQ := Lib.hid hbq
        clear hbq hxq hdk hstk
        by_cases hlt2 : k < d1.names.length
        · obtain ⟨xn, hxn⟩ : ∃ xn, d1.names[k]? = some xn := ⟨_, List.getElem?_eq_getElem hlt2⟩
          obtain ⟨nb, ncap2, ncur, hnv2, _, _, hnb, hncell, _⟩ := own_form HNR.out (by omega)
          cases hnv2
          have hnbl := blk_lt hnb
          have hnbF : ¬ gk.F nb := fun e => e (out_of HDA.out (World.ownsRow.lt HNR.out nb rfl).1)
          have ecell : wr.cell? ⟨nb, k, none⟩ = some (.string (strB xn.1)) := by
            refine (HSTQ.out.touch.cell (p := ⟨nb, k, none⟩) ⟨hnbl, hnbF⟩).trans (hncell k _ ?_)
            unfold nmCells; rw [List.getElem?_map, hxn]; rfl
          have hfs := fell_succ (keep := keep) hxn
          have HXN := Lib.hid hxn
          clear hnb hncell hxn hnbF
          rcases hkq with ⟨ka, kac, rfl, rfl⟩ | ⟨kb, ko, kcap, rfl, hk0, hkb, hkf, hkc⟩
          · obtain ⟨fb, hfi, hfa⟩ := find_fall HDQ.out (HSM3.out k) k xn HXN.out 0 (by decide)
            have HFI := Lib.hid hfi
            have HFA := Lib.hid hfa
            have HFS := Lib.hid hfs
            clear hfi hfa hfs
            have hq := eqf_nil
            go_wp2_with (first | (go_at_call 42; (with_reducible refine HFI.out.mono ?_); rintro e w7 ⟨rfl, rfl⟩) | (go_at_call 58; (with_reducible refine HFA.out.mono ?_); rintro e w7 ⟨rfl, g7, hd7, hst7⟩; have HD7 := Lib.hid hd7; have HST7 := Lib.hid hst7; clear hd7 hst7))
            go_roundw
            case rel => exact ⟨k + 1, g7, by omega, by go_num, by rw [HFS.out]; exact HD7.out, HSTQ.out.trans HST7.out⟩
            case measure => simp [intOf]; omega
          · have hk0i : (0 : Int) < (keep.length : Int) := by omega
            have hkne : ¬ keep = [] := by intro e; rw [e] at hk0; simp at hk0
            obtain ⟨m, hm⟩ : ∃ m, m = k % keep.length := ⟨_, rfl⟩
            have htm : (k : Int).tmod (keep.length : Int) = (m : Int) := by rw [hm]; rfl
            have hmod : m < keep.length := by rw [hm]; exact Nat.mod_lt _ hk0
            obtain ⟨n, hn⟩ : ∃ n, keep[m]? = some n := ⟨_, List.getElem?_eq_getElem hmod⟩
            have hkn : nthK keep k = n := by
              unfold nthK
              rw [if_neg hkne, ← hm, List.getD_eq_getElem?_getD, hn]
              rfl
            rw [hkn] at hfs
            have hwn := HKW.out n (List.mem_of_getElem? hn)
            clear hm
            obtain ⟨wd, hwd⟩ : ∃ wd, wd = wr.drew := ⟨_, rfl⟩
            have ed : wd.cell? ⟨kb, ko + m, none⟩ = some (.int .i64 n) := by subst hwd; exact hkc _ _ hn
            have b3d : wd.cell? ⟨w.heap.size, 3, none⟩ = some (.slice (some ⟨kb, ko, none⟩) keep.length kcap) := by subst hwd; exact b3
            obtain ⟨fb, hfi, hfa⟩ := find_fall (w3 := wd) (by subst hwd; exact HDQ.out.drew) (HSM3.out k) k xn HXN.out n hwn
            have HFI := Lib.hid hfi
            have HFA := Lib.hid hfa
            have HFS := Lib.hid hfs
            have HWD := Lib.hid hwd
            have hq := eqf_nil
            clear hfi hfa hfs hkc hn hwd hkf
            go_wp2
            refine wp_region_two (fun wz => wz = wd) (fun _ => True) [(0, 0), (0, 1), (0, 2), (0, 3), (0, 4), (0, 5), (0, 6), (0, 7), (0, 8), (0, 9)] [] (by kernel_rfl) (by kernel_rfl) (by kernel_rfl) (by kernel_rfl) (by kernel_rfl) (by rw [← HWD.out]) trivial ?_
            simp only [planT, List.drop_succ_cons, List.drop_zero]
            rw [← HWD.out]
            refine PlanT.take0 (v := ?vc0) (by kernel_rfl) ?yc0 ?rc0
            case yc0 => (intro wz hz; cases hz; go_simp; try with_reducible rfl)
            (try simp only [Act.put, List.setIfInBounds_toArray, List.set_cons_zero, List.set_cons_succ])
            refine PlanT.take0 (v := ?vc1) (by kernel_rfl) ?yc1 ?rc1
            case yc1 => (intro wz hz; cases hz; go_simp; try with_reducible rfl)
            (try simp only [Act.put, List.setIfInBounds_toArray, List.set_cons_zero, List.set_cons_succ])
            refine PlanT.take0 (v := ?vc2) (by kernel_rfl) ?yc2 ?rc2
            case yc2 => (intro wz hz; cases hz; go_simp; try with_reducible rfl)
            (try simp only [Act.put, List.setIfInBounds_toArray, List.set_cons_zero, List.set_cons_succ])
            refine PlanT.take0 (v := ?vc3) (by kernel_rfl) ?yc3 ?rc3
            case yc3 => (intro wz hz; cases hz; go_simp; try with_reducible rfl)
            (try simp only [Act.put, List.setIfInBounds_toArray, List.set_cons_zero, List.set_cons_succ])
            refine PlanT.take0 (v := ?vc4) (by kernel_rfl) ?yc4 ?rc4
            case yc4 => (intro wz hz; cases hz; go_simp; try with_reducible rfl)
            (try simp only [Act.put, List.setIfInBounds_toArray, List.set_cons_zero, List.set_cons_succ])
            refine PlanT.take0 (v := ?vc5) (by kernel_rfl) ?yc5 ?rc5
            case yc5 => (intro wz hz; cases hz; go_simp; try with_reducible rfl)
            (try simp only [Act.put, List.setIfInBounds_toArray, List.set_cons_zero, List.set_cons_succ])
            refine PlanT.take0 (v := .int .i64 (m : Int)) (by kernel_rfl) ?yc6 ?rc6
            case yc6 => (intro wz hz; cases hz; go_simp; try simp only [if_neg hkne, htm])
            (try simp only [Act.put, List.setIfInBounds_toArray, List.set_cons_zero, List.set_cons_succ])
            refine PlanT.take0 (v := ?vc7) (by kernel_rfl) ?yc7 ?rc7
            case yc7 => (intro wz hz; cases hz; go_simp; try with_reducible rfl)
            (try simp only [Act.put, List.setIfInBounds_toArray, List.set_cons_zero, List.set_cons_succ])
            refine PlanT.take0 (v := ?vc8) (by kernel_rfl) ?yc8 ?rc8
            case yc8 => (intro wz hz; cases hz; go_simp; try with_reducible rfl)
            (try simp only [Act.put, List.setIfInBounds_toArray, List.set_cons_zero, List.set_cons_succ])
            refine PlanT.take0 (v := ?vc9) (by kernel_rfl) ?yc9 ?rc9
            case yc9 => (intro wz hz; cases hz; go_simp; try with_reducible rfl)
            (try simp only [Act.put, List.setIfInBounds_toArray, List.set_cons_zero, List.set_cons_succ])
            refine PlanT.done (NoPanic.normal ?_)
            go_wp2_with (first | (go_at_call 42; (with_reducible refine HFI.out.mono ?_); rintro e w7 ⟨rfl, rfl⟩) | (go_at_call 58; (with_reducible refine HFA.out.mono ?_); rintro e w7 ⟨rfl, g7, hd7, hst7⟩; have HD7 := Lib.hid hd7; have HST7 := Lib.hid hst7; clear hd7 hst7))
            go_roundw
            case rel => exact ⟨k + 1, g7, by omega, by go_num, by rw [HFS.out]; exact HD7.out, (HSTQ.out.trans (Step.below (by rw [HWD.out]; exact (Below.refl _ _).drew))).trans HST7.out⟩
            case measure => simp [intOf]; omega
        · have hkn : k = d1.names.length := by omega
          subst hkn
          have hset := settle_at HDQ.out (HSM3.out _) (show ((d1.fell keep d1.names.length).names.map (·.2)).Nodup from HND1.out)
          have HSET := Lib.hid hset
          obtain ⟨kva, kvn, kvc, rfl⟩ : ∃ a n c, kv = .slice a n c := by
            rcases hkq with ⟨_, _, e, _⟩ | ⟨_, _, _, e, _⟩
            · exact ⟨_, _, _, e⟩
            · exact ⟨_, _, _, e⟩
          clear hset hkq b0 b1 b2 b3 b4
          go_wp2_with (first | (go_at_call 59; (with_reducible refine HSET.out.mono ?_); rintro e w7 ⟨rfl, g7, hd7, hst7⟩; have hx7 := (out_step HBQ.out.2.2 HBQ.out.2.1 hst7).1.trans HXQ.out; have b0 := blk_cell (i := 0) hx7; have b1 := blk_cell (i := 1) hx7; have b2 := blk_cell (i := 2) hx7; have b3 := blk_cell (i := 3) hx7; have b4 := blk_cell (i := 4) hx7; simp only [List.getElem?_toArray, List.getElem?_cons_zero, List.getElem?_cons_succ] at b0 b1 b2 b3 b4; have HD7 := Lib.hid hd7; have HST7 := Lib.hid hst7; clear hd7 hst7 hx7) | (go_at_call 22; (with_reducible refine (begin_at (g := g7) (d := (d1.fell keep d1.names.length).settled) (by first | exact HD7.out | exact HD7.out.drew) _ _ _ _ _).mono ?_); rintro e w8 ⟨rfl, hd8, hst8⟩))
          go_end0
          refine ⟨rfl, g7, by rw [← HE1.out]; exact hd8, ?_⟩
          exact ((Step.below HB1.out).trans (HSTK.out.trans (Step.below HB6.out))).trans ((HSTQ.out.trans HST7.out).trans hst8)
end Go.Proofs.Ytfeogoihkpclcaa

/-
  The example that the statements of layer 4 begin with.
-/
namespace Go.Proofs.Ytfeogoihkpclcaa
open Go.RowKit

def k0 : PD := PD.new 100 0 false
def k1 : PD := ⟨100, 0, false, 1, false, [PF.new], [([97], 0)], [], [⟨0, [], [97], 0⟩]⟩
def k2 : PD := ⟨100, 0, false, 2, false, [⟨[], [120, 121], [(0, [120, 121])]⟩], [([97], 0)], [], [⟨0, [], [97], 0⟩]⟩
def k3 : PD := ⟨100, 0, false, 3, false, [⟨[120, 121], [120, 121], []⟩], [([97], 0)], [], [⟨0, [], [97], 0⟩]⟩
def k4 : PD := ⟨100, 0, false, 0, false, [], [], [], []⟩

theorem k0_make : k0.make [97] = (0, k1) := by kernel_rfl
theorem k1_write : k1.write [97] 0 [120, 121] = (0, k2) := by kernel_rfl
theorem k2_safe : k2.makeSafe [97] = (0, k3) := by kernel_rfl
theorem k3_redone : k3.redone (rest 0 k3.loose.length) = { k3 with names := [] } := by kernel_rfl
theorem k3_fall : ((((k3.redone (rest 0 k3.loose.length)).fell [] (k3.redone (rest 0 k3.loose.length)).names.length).settled).begun 100 0 false) = k4 := by kernel_rfl
theorem k3_list : k3.list.length = 1 := by kernel_rfl
theorem k4_list : k4.list.length = 0 := by kernel_rfl

theorem fallF_nil (keep : List Int) (fs : List PF) (k : Nat) : fallF keep [] fs k = fs := by
  induction k with
  | zero => rfl
  | succ k ih => simpa [fallF] using ih

theorem k_fl {safe now : List UInt8} (h1 : safe.length < 1000) (h2 : now.length < 1000) : ∀ f ∈ [(⟨safe, now, []⟩ : PF)], f.safe.length < 2000000 ∧ f.now.length < 2000000 ∧ f.loose.length < 10000 ∧ manyL f.loose < 900000000 ∧ WOk f.safe f.loose ∧ ∀ left, (kept f.loose left f.safe).length < 2000000 := by
  intro f hf
  rw [List.mem_singleton] at hf
  subst hf
  exact ⟨by show safe.length < _; omega, by show now.length < _; omega, by show 0 < 10000; omega, by show 0 < 900000000; omega, trivial, fun left => by simp only [kept]; omega⟩
theorem k_ch : ∀ c ∈ [(⟨0, [], [97], 0⟩ : PC)], ChOk c := by
  intro c hc
  rw [List.mem_singleton] at hc
  subst hc
  exact ⟨by decide, by decide, by decide, by decide⟩

theorem k0_small : Small k0 := ⟨by decide, by decide, by decide, by decide, by decide, by simp [k0, PD.new], by simp [k0, PD.new], by simp [k0, PD.new], by simp [k0, PD.new], by simp [k0, PD.new], by simp [k0, PD.new]⟩
theorem k1_small : Small k1 := ⟨by decide, by decide, by decide, by decide, by decide, by simp [k1], by simp [k1], k_ch, k_fl (by decide) (by decide), by simp [k1], by simp [k1]⟩
theorem k2_small : Small k2 := by
  refine ⟨by decide, by decide, by decide, by decide, by decide, by simp [k2], by simp [k2], k_ch, ?_, by simp [k2], by simp [k2]⟩
  intro f hf
  have hf : f = ⟨[], [120, 121], [(0, [120, 121])]⟩ := List.mem_singleton.1 hf
  subst hf
  refine ⟨by decide, by decide, by decide, by decide, ⟨Nat.zero_le _, trivial⟩, fun left => ?_⟩
  simp only [kept]
  split
  · simp
  · simp [wr]; omega
theorem k3_small (l : DB) (h1 : l.length < 10000) (h2 : ∀ x ∈ l, x.2 < 1) (h3 : ∀ x ∈ l, x.1.length < 1000) : Small { k3 with names := l } :=
  ⟨by simp [k3], by simp [k3], h1, by simp [k3], by simp [k3], by simpa [k3] using h2, by simp [k3], k_ch, k_fl (by decide) (by decide), h3, by simp [k3]⟩
theorem k3_redones (k : Nat) : Small (k3.redone k) := by
  cases k with
  | zero => exact k3_small [] (by decide) (by simp) (by simp)
  | succ k =>
    have e : k3.redone (k + 1) = { k3 with names := [([97], 0)] } := by
      have h1 : k3.loose.take (k + 1) = k3.loose := by simp [k3]
      have h2 : k3.loose.foldl ren k3.safe = [([97], 0)] := by kernel_rfl
      unfold PD.redone
      rw [h1, h2]
    rw [e]
    exact k3_small _ (by decide) (by simp) (by simp)
theorem k3_fells (k : Nat) : Small ((k3.redone (rest 0 k3.loose.length)).fell [] k) := by
  rw [k3_redone]
  unfold PD.fell
  rw [fallF_nil]
  exact k3_small [] (by decide) (by simp) (by simp)

theorem k4_small : Small k4 := ⟨by decide, by decide, by decide, by decide, by decide, by simp [k4], by simp [k4], by simp [k4], by simp [k4], by simp [k4], by simp [k4]⟩

/-- The example's disk, from call to call. -/
theorem rd_xy (w : World) : RdB (w.alloc (.cells #[.int .u8 120, .int .u8 121] 5 (2, 3))) (.slice (some ⟨w.heap.size, 0, none⟩) 2 2) [120, 121] :=
  ⟨_, 2, rfl, Nat.le_refl _, by unfold maxLen; omega, rfl, .inr ⟨w.heap.size, 0, rfl, by simp, fun j u hj => by rw [Nat.zero_add, World.cell?_alloc_mark]; simpa [bv] using hj⟩⟩

theorem run_make {g : Gh} {w : World} {p : Nat} (h : DiskAt g w p k0) : Calls Try.prog 17 #[.pointer (some ⟨p, 0, none⟩), .string ⟨#[97]⟩] w fun e w' => e = .returned (.int .i64 0) ∧ ∃ g', DiskAt g' w' p k1 ∧ Step g g' w w' := by
  have hm := make_at h k0_small (by decide) ⟨#[97]⟩ (by decide)
  rw [show (⟨#[97]⟩ : ByteArray).data.toList = [97] from rfl, k0_make] at hm
  exact hm
theorem run_write {g : Gh} {w : World} {p : Nat} (h : DiskAt g w p k1) : Calls Try.prog 18 #[.pointer (some ⟨p, 0, none⟩), .string ⟨#[97]⟩, .int .i64 0, .slice (some ⟨w.heap.size, 0, none⟩) 2 2] (w.alloc (.cells #[.int .u8 120, .int .u8 121] 5 (2, 3))) fun e w' => e = .returned (.int .i64 0) ∧ ∃ g', DiskAt g' w' p k2 ∧ Step g g' w w' := by
  have hb : Below w.heap.size w (w.alloc (.cells #[.int .u8 120, .int .u8 121] 5 (2, 3))) := (Below.refl _ _).alloc (Nat.le_refl _) _
  have hm := write_at (h.below hb) k1_small (by decide) ⟨#[97]⟩ (by decide) 0 _ [120, 121] (rd_xy w) (by decide) (fun _ k e => by cases e; exact out_of h (Nat.le_refl _))
  rw [show (⟨#[97]⟩ : ByteArray).data.toList = [97] from rfl, k1_write] at hm
  refine hm.mono ?_
  rintro e w' ⟨rfl, g', h1, h2⟩
  exact ⟨rfl, g', h1, (Step.below hb).trans h2⟩
theorem run_safe {g : Gh} {w : World} {p : Nat} (h : DiskAt g w p k2) : Calls Try.prog 19 #[.pointer (some ⟨p, 0, none⟩), .string ⟨#[97]⟩] w fun e w' => e = .returned (.int .i64 0) ∧ ∃ g', DiskAt g' w' p k3 ∧ Step g g' w w' := by
  have hm := safe_at h k2_small (by decide) ⟨#[97]⟩ (by decide)
  rw [show (⟨#[97]⟩ : ByteArray).data.toList = [97] from rfl, k2_safe] at hm
  exact hm
theorem run_files {g : Gh} {w : World} {p : Nat} {d : PD} (h : DiskAt g w p d) (hs : Small d) (n : Nat) (hn : d.list.length = n) : Calls Try.prog 11 #[.pointer (some ⟨p, 0, none⟩)] w fun e w' => ∃ va cap, e = .returned (.slice va n cap) ∧ DiskAt g w' p d ∧ Step g g w w' := by
  refine (files_at h hs).mono ?_
  rintro e w' ⟨v, rfl, h1, h2⟩
  rw [hn] at h1
  obtain ⟨va, cap, rfl, _, _⟩ := rd_of_own h1
  exact ⟨va, cap, rfl, h.below h2, Step.below h2⟩
theorem run_fall {g : Gh} {w : World} {p : Nat} (h : DiskAt g w p k3) : Calls Try.prog 20 #[.pointer (some ⟨p, 0, none⟩), .agg #[.int .i64 100, .int .i64 0, .bool false, .slice none 0 0, .int .i64 0]] w fun e w' => e = .returned (.tuple #[]) ∧ ∃ g', DiskAt g' w' p k4 ∧ Step g g' w w' := by
  have hm := fall_at h 100 0 0 false (.slice none 0 0) [] (by decide) (by simp) (by decide) (.inl ⟨_, _, rfl, rfl⟩) k3_redones k3_fells (by rw [k3_redone]; exact List.nodup_nil)
  rw [k3_fall] at hm
  exact hm

set_option maxRecDepth 100000 in
set_option maxHeartbeats 4000000 in
set_option linter.unusedSimpArgs false in
theorem awake4_any (w : World) : Calls Try.prog 5 #[] w fun e w' => e = .returned (.bool true) ∧ Below w.heap.size w w' := by
  have HN := Lib.hid (new_any w 100 0 0 false (.slice none 0 0))
  go_enter Try.func5, Try.ntmps5
  have hcv := fun (w : World) (C : Array Value) (n c : Nat) => Lib.run_convert_bytes_const (P := Try.prog) w 32 5 C n c Try.underlying32 Try.underlying5
  go_wp2_with (first | (go_at_call 6; (with_reducible refine HN.out.mono ?_); rintro e w1 ⟨p, rfl, hp, hd1, hb1⟩; have HD1 := Lib.hid hd1; have HB1 := Lib.hid hb1; clear hd1 hb1) | (go_at_call 17; (with_reducible refine (run_make (g := Gh.new p) HD1.out).mono ?_); rintro e w2 ⟨rfl, g2, hd2, hst2⟩; have HD2 := Lib.hid hd2; have HST2 := Lib.hid hst2; clear hd2 hst2) | (go_at_call 18; (with_reducible refine (run_write HD2.out).mono ?_); rintro e w3 ⟨rfl, g3, hd3, hst3⟩; have HD3 := Lib.hid hd3; have HST3 := Lib.hid hst3; clear hd3 hst3) | (go_at_call 19; (with_reducible refine (run_safe HD3.out).mono ?_); rintro e w4 ⟨rfl, g4, hd4, hst4⟩; have HD4 := Lib.hid hd4; have HST4 := Lib.hid hst4; clear hd4 hst4) | (go_at_call 11; (with_reducible refine (run_files HD4.out (k3_small _ (by decide) (by simp [k3]) (by simp [k3])) 1 k3_list).mono ?_); rintro e w5 ⟨va, vc, rfl, hd5, hst5⟩; have HD5 := Lib.hid hd5; have HST5 := Lib.hid hst5; clear hd5 hst5) | (go_at_call 20; (with_reducible refine (run_fall HD5.out).mono ?_); rintro e w6 ⟨rfl, g6, hd6, hst6⟩; have HD6 := Lib.hid hd6; have HST6 := Lib.hid hst6; clear hd6 hst6) | (go_at_call 21; (with_reducible refine (num1_any _ 0).mono ?_); rintro e w8 ⟨rfl, rfl⟩) | (go_at_call 11; (with_reducible refine (run_files HD6.out k4_small 0 k4_list).mono ?_); rintro e w7 ⟨va2, vc2, rfl, hd7, hst7⟩; have HD7 := Lib.hid hd7; have HST7 := Lib.hid hst7; clear hd7 hst7))
  go_ret
  refine ⟨rfl, ?_⟩
  have hst := ((((HST2.out.trans HST3.out).trans HST4.out).trans HST5.out).trans HST6.out).trans HST7.out
  refine HB1.out.trans (Kept.below hst.touch fun k hk => ⟨?_, ?_⟩)
  · have := HB1.out.size; omega
  · intro e
    apply e
    show (if k = p then Role.disk else .out) = .out
    rw [if_neg (by omega)]
end Go.Proofs.Ytfeogoihkpclcaa

/-
  The walk of the statement DiskNil.
-/
namespace Go.Proofs.Ytfeogoihkpclcaa
open Go.RowKit

set_option maxRecDepth 100000 in
set_option linter.unusedSimpArgs false in
theorem make_nil (w : World) (s : ByteArray) : Calls Try.prog 17 #[.pointer none, .string s] w fun e w' => e = .returned (.int .i64 2) ∧ Below w.heap.size w w' := by
  go_enter Try.func17, Try.ntmps17
  go_wp2_with (go_at_call 46; refine (shut_nil _).mono ?_; rintro e w5 ⟨rfl, rfl⟩)
  go_ret
  exact ⟨rfl, by first | exact Below.refl _ _ | exact (Below.refl _ _).alloc (Nat.le_refl _) _ | exact ((Below.refl _ _).alloc (Nat.le_refl _) _).alloc (by simp) _ | exact (((Below.refl _ _).alloc (Nat.le_refl _) _).alloc (by simp) _).alloc (by simp; omega) _⟩

set_option maxRecDepth 100000 in
set_option linter.unusedSimpArgs false in
theorem write_nil (w : World) (s : ByteArray) (a : Int) (va : Option Addr) (vn vc : Nat) : Calls Try.prog 18 #[.pointer none, .string s, .int .i64 a, .slice va vn vc] w fun e w' => e = .returned (.int .i64 2) ∧ Below w.heap.size w w' := by
  go_enter Try.func18, Try.ntmps18
  go_wp2_with (go_at_call 46; refine (shut_nil _).mono ?_; rintro e w5 ⟨rfl, rfl⟩)
  go_ret
  exact ⟨rfl, by first | exact Below.refl _ _ | exact (Below.refl _ _).alloc (Nat.le_refl _) _ | exact ((Below.refl _ _).alloc (Nat.le_refl _) _).alloc (by simp) _ | exact (((Below.refl _ _).alloc (Nat.le_refl _) _).alloc (by simp) _).alloc (by simp; omega) _⟩

set_option maxRecDepth 100000 in
set_option linter.unusedSimpArgs false in
theorem safe_nil (w : World) (s : ByteArray) : Calls Try.prog 19 #[.pointer none, .string s] w fun e w' => e = .returned (.int .i64 2) ∧ Below w.heap.size w w' := by
  go_enter Try.func19, Try.ntmps19
  go_wp2_with (go_at_call 46; refine (shut_nil _).mono ?_; rintro e w5 ⟨rfl, rfl⟩)
  go_ret
  exact ⟨rfl, by first | exact Below.refl _ _ | exact (Below.refl _ _).alloc (Nat.le_refl _) _ | exact ((Below.refl _ _).alloc (Nat.le_refl _) _).alloc (by simp) _ | exact (((Below.refl _ _).alloc (Nat.le_refl _) _).alloc (by simp) _).alloc (by simp; omega) _⟩

set_option maxRecDepth 100000 in
set_option linter.unusedSimpArgs false in
theorem move_nil (w : World) (s s2 : ByteArray) : Calls Try.prog 30 #[.pointer none, .string s, .string s2] w fun e w' => e = .returned (.int .i64 2) ∧ Below w.heap.size w w' := by
  go_enter Try.func30, Try.ntmps30
  go_wp2_with (go_at_call 46; refine (shut_nil _).mono ?_; rintro e w5 ⟨rfl, rfl⟩)
  go_ret
  exact ⟨rfl, by first | exact Below.refl _ _ | exact (Below.refl _ _).alloc (Nat.le_refl _) _ | exact ((Below.refl _ _).alloc (Nat.le_refl _) _).alloc (by simp) _ | exact (((Below.refl _ _).alloc (Nat.le_refl _) _).alloc (by simp) _).alloc (by simp; omega) _⟩

set_option maxRecDepth 100000 in
set_option linter.unusedSimpArgs false in
theorem gone_nil (w : World) (s : ByteArray) : Calls Try.prog 32 #[.pointer none, .string s] w fun e w' => e = .returned (.int .i64 2) ∧ Below w.heap.size w w' := by
  go_enter Try.func32, Try.ntmps32
  go_wp2_with (go_at_call 46; refine (shut_nil _).mono ?_; rintro e w5 ⟨rfl, rfl⟩)
  go_ret
  exact ⟨rfl, by first | exact Below.refl _ _ | exact (Below.refl _ _).alloc (Nat.le_refl _) _ | exact ((Below.refl _ _).alloc (Nat.le_refl _) _).alloc (by simp) _ | exact (((Below.refl _ _).alloc (Nat.le_refl _) _).alloc (by simp) _).alloc (by simp; omega) _⟩

set_option maxRecDepth 100000 in
set_option linter.unusedSimpArgs false in
theorem names_nil (w : World)  : Calls Try.prog 34 #[.pointer none] w fun e w' => e = .returned (.int .i64 2) ∧ Below w.heap.size w w' := by
  go_enter Try.func34, Try.ntmps34
  go_wp2_with (go_at_call 46; refine (shut_nil _).mono ?_; rintro e w5 ⟨rfl, rfl⟩)
  go_ret
  exact ⟨rfl, by first | exact Below.refl _ _ | exact (Below.refl _ _).alloc (Nat.le_refl _) _ | exact ((Below.refl _ _).alloc (Nat.le_refl _) _).alloc (by simp) _ | exact (((Below.refl _ _).alloc (Nat.le_refl _) _).alloc (by simp) _).alloc (by simp; omega) _⟩

set_option maxRecDepth 100000 in
set_option linter.unusedSimpArgs false in
theorem read_nil (w : World) (s : ByteArray) (a n : Int) : Calls Try.prog 36 #[.pointer none, .string s, .int .i64 a, .int .i64 n] w fun e w' => e = .returned (.tuple #[.slice none 0 0, .int .i64 2]) ∧ Below w.heap.size w w' := by
  go_enter Try.func36, Try.ntmps36
  go_wp2_with (go_at_call 46; refine (shut_nil _).mono ?_; rintro e w5 ⟨rfl, rfl⟩)
  go_ret2
  exact ⟨rfl, by first | exact Below.refl _ _ | exact (Below.refl _ _).alloc (Nat.le_refl _) _ | exact ((Below.refl _ _).alloc (Nat.le_refl _) _).alloc (by simp) _ | exact (((Below.refl _ _).alloc (Nat.le_refl _) _).alloc (by simp) _).alloc (by simp; omega) _⟩

set_option maxRecDepth 100000 in
set_option linter.unusedSimpArgs false in
theorem size_nil (w : World) (s : ByteArray) : Calls Try.prog 38 #[.pointer none, .string s] w fun e w' => e = .returned (.tuple #[.int .i64 0, .bool false]) ∧ Below w.heap.size w w' := by
  go_enter Try.func38, Try.ntmps38
  go_wp2_with (go_at_call 46; refine (shut_nil _).mono ?_; rintro e w5 ⟨rfl, rfl⟩)
  go_ret2
  exact ⟨rfl, by first | exact Below.refl _ _ | exact (Below.refl _ _).alloc (Nat.le_refl _) _ | exact ((Below.refl _ _).alloc (Nat.le_refl _) _).alloc (by simp) _ | exact (((Below.refl _ _).alloc (Nat.le_refl _) _).alloc (by simp) _).alloc (by simp; omega) _⟩

set_option maxRecDepth 100000 in
set_option linter.unusedSimpArgs false in
theorem files_nil (w : World)  : Calls Try.prog 11 #[.pointer none] w fun e w' => e = .returned (.slice none 0 0) ∧ Below w.heap.size w w' := by
  go_enter Try.func11, Try.ntmps11
  go_wp2_with (go_at_call 46; refine (shut_nil _).mono ?_; rintro e w5 ⟨rfl, rfl⟩)
  go_ret
  exact ⟨rfl, by first | exact Below.refl _ _ | exact (Below.refl _ _).alloc (Nat.le_refl _) _ | exact ((Below.refl _ _).alloc (Nat.le_refl _) _).alloc (by simp) _ | exact (((Below.refl _ _).alloc (Nat.le_refl _) _).alloc (by simp) _).alloc (by simp; omega) _⟩

set_option maxRecDepth 100000 in
set_option linter.unusedSimpArgs false in
theorem copy_nil (w : World)  : Calls Try.prog 8 #[.pointer none] w fun e w' => e = .returned (.pointer none) ∧ Below w.heap.size w w' := by
  go_enter Try.func8, Try.ntmps8
  go_wp2_with (go_at_call 46; refine (shut_nil _).mono ?_; rintro e w5 ⟨rfl, rfl⟩)
  go_ret
  exact ⟨rfl, by first | exact Below.refl _ _ | exact (Below.refl _ _).alloc (Nat.le_refl _) _ | exact ((Below.refl _ _).alloc (Nat.le_refl _) _).alloc (by simp) _ | exact (((Below.refl _ _).alloc (Nat.le_refl _) _).alloc (by simp) _).alloc (by simp; omega) _⟩

set_option maxRecDepth 100000 in
set_option linter.unusedSimpArgs false in
theorem fall_nil (w : World) (room crash names : Int) (done : Bool) : Calls Try.prog 20 #[.pointer none, .agg #[.int .i64 room, .int .i64 crash, .bool done, .slice none 0 0, .int .i64 names]] w fun e w' => e = .returned (.tuple #[]) ∧ Below w.heap.size w w' := by
  go_enter Try.func20, Try.ntmps20
  go_wp2_with (go_at_call 46; refine (shut_nil _).mono ?_; rintro e w5 ⟨rfl, rfl⟩)
  refine bodyPost_ret (results_none rfl _ _ _) rfl ?_
  exact ⟨rfl, by first | exact Below.refl _ _ | exact (Below.refl _ _).alloc (Nat.le_refl _) _ | exact ((Below.refl _ _).alloc (Nat.le_refl _) _).alloc (by simp) _ | exact (((Below.refl _ _).alloc (Nat.le_refl _) _).alloc (by simp) _).alloc (by simp; omega) _⟩

end Go.Proofs.Ytfeogoihkpclcaa
