/-
  Blocks: one entry of a block's bytes, as the program reads it.
-/
import Derived.Test.YtdcjfgbngmdkfaaBlkEntBy
import Derived.Test.YtdcjfgbngmdkfaaKeyGet
import Derived.Test.YtdcjfgbngmdkfaaOwnEnt
import Derived.Test.YtdcjfgbngmdkfaaTwo
namespace Go.Proofs.Ytdcjfgbngmdkfaa
open Go.RowKit

/-- What the bytes from a place on tell of the next entry: of which the rest is a key that may be. -/
def readP (c last : List UInt8) (p : Nat) : Option (Ent × Nat) :=
  match getAt c (p : Int) with
  | none => none
  | some (s, a) => if last.length < s then none else match keyAt c (a : Int) with
    | none => none
    | some ((u, q, k), d) => match textAt c (d : Int) with
      | none => none
      | some (v, g) => some (⟨strB (last.take s ++ u), q, k, strB v⟩, g)

theorem step_read {c last : List UInt8} {p g : Nat} {e : Ent} (h : stepP c last p = some (e, g)) (hm : e.may = true) : readP c last p = some (e, g) := by
  unfold stepP at h
  cases h1 : getAt c (p : Int) with
  | none => rw [h1] at h; cases h
  | some x =>
    obtain ⟨s, a⟩ := x
    rw [h1] at h; simp only at h
    cases h2 : textAt c (a : Int) with
    | none => rw [h2] at h; cases h
    | some x =>
      obtain ⟨u, d⟩ := x
      rw [h2] at h; simp only at h
      cases h3 : getAt c (d : Int) with
      | none => rw [h3] at h; cases h
      | some x =>
        obtain ⟨n, f⟩ := x
        rw [h3] at h; simp only at h
        cases h4 : textAt c (f : Int) with
        | none => rw [h4] at h; cases h
        | some x =>
          obtain ⟨v, g'⟩ := x
          rw [h4] at h; simp only at h
          split at h
          · cases h
          · rename_i hs
            simp only [Option.some.injEq, Prod.mk.injEq] at h
            obtain ⟨rfl, rfl⟩ := h
            obtain ⟨m1, m2, m3, m4, _⟩ := may_facts hm
            simp only at m1 m2 m3 m4
            have hul : u.length ≤ 64 := by
              have hh : (last.take s ++ u).length ≤ 64 := m1
              rw [List.length_append] at hh
              omega
            have hk := keyAt_some h2 h3 (mayB_mk hul (by omega) (by omega) (by omega))
            unfold readP
            rw [h1]; simp only
            rw [if_neg hs, hk]; simp only
            rw [h4]; simp only
            have e1 : (n : Int) / 2 = ((n / 2 : Nat) : Int) := by omega
            have e2 : (n : Int) % 2 + 1 = ((1 + n % 2 : Nat) : Int) := by omega
            rw [e1, e2]

theorem read_step {c last : List UInt8} {p g : Nat} {e : Ent} (h : readP c last p = some (e, g)) : stepP c last p = some (e, g) := by
  unfold readP at h
  cases h1 : getAt c (p : Int) with
  | none => rw [h1] at h; cases h
  | some x =>
    obtain ⟨s, a⟩ := x
    rw [h1] at h; simp only at h
    split at h
    · cases h
    · rename_i hs
      cases h2 : keyAt c (a : Int) with
      | none => rw [h2] at h; cases h
      | some x =>
        obtain ⟨⟨u, q, k⟩, d⟩ := x
        rw [h2] at h; simp only at h
        cases h4 : textAt c (d : Int) with
        | none => rw [h4] at h; cases h
        | some x =>
          obtain ⟨v, g'⟩ := x
          rw [h4] at h; simp only at h
          simp only [Option.some.injEq, Prod.mk.injEq] at h
          obtain ⟨rfl, rfl⟩ := h
          unfold keyAt at h2
          cases h5 : textAt c (a : Int) with
          | none => rw [h5] at h2; cases h2
          | some x =>
            obtain ⟨u', d'⟩ := x
            rw [h5] at h2; simp only at h2
            cases h6 : getAt c (d' : Int) with
            | none => rw [h6] at h2; cases h2
            | some x =>
              obtain ⟨n, f⟩ := x
              rw [h6] at h2; simp only at h2
              cases hm : mayB u' ((n : Int) / 2) ((n : Int) % 2 + 1) with
              | false => rw [hm] at h2; cases h2
              | true =>
                rw [hm] at h2
                simp only [cond_true, Option.some.injEq, Prod.mk.injEq] at h2
                obtain ⟨⟨rfl, rfl, rfl⟩, rfl⟩ := h2
                rw [step_by h1 h5 h6 h4, if_neg hs]
                have e1 : (n : Int) / 2 = ((n / 2 : Nat) : Int) := by omega
                have e2 : (n : Int) % 2 + 1 = ((1 + n % 2 : Nat) : Int) := by omega
                rw [e1, e2]

/-- What a key at a place is, as letters. -/
theorem ansK_form (c : List UInt8) (at_ : Int) : ∃ (u : List UInt8) (q k : Int) (d : Nat) (ok : Bool), ansK (keyAt c at_) = .tuple #[.agg #[.string (strB u), .int .i64 q, .int .i64 k], .int .i64 (d : Int), .bool ok] ∧ (ok = true → keyAt c at_ = some ((u, q, k), d) ∧ at_ < (d : Int)) ∧ (ok = false → keyAt c at_ = none) ∧ u.length ≤ 64 ∧ d ≤ c.length ∧ 0 ≤ q ∧ q ≤ 9007199254740992 ∧ 0 ≤ k ∧ k ≤ 2 := by
  cases h : keyAt c at_ with
  | none => exact ⟨[], 0, 0, 0, false, rfl, (fun e => by cases e), (fun _ => rfl), by simp, Nat.zero_le _, by omega, by omega, by omega, by omega⟩
  | some x =>
    obtain ⟨⟨u, q, k⟩, d⟩ := x
    unfold keyAt at h
    cases h5 : textAt c at_ with
    | none => rw [h5] at h; cases h
    | some x =>
      obtain ⟨u', d'⟩ := x
      rw [h5] at h; simp only at h
      cases h6 : getAt c (d' : Int) with
      | none => rw [h6] at h; cases h
      | some x =>
        obtain ⟨n, f⟩ := x
        rw [h6] at h; simp only at h
        cases hm : mayB u' ((n : Int) / 2) ((n : Int) % 2 + 1) with
        | false => rw [hm] at h; cases h
        | true =>
          rw [hm] at h
          simp only [cond_true, Option.some.injEq, Prod.mk.injEq] at h
          obtain ⟨⟨rfl, rfl, rfl⟩, rfl⟩ := h
          obtain ⟨m1, m2, m3, m4⟩ := mayB_true hm
          obtain ⟨p, hp, g1, g2, g0, _, g4⟩ := getAt_some h6
          have := (textAt_bound h5).2.2
          exact ⟨u', _, _, f, true, rfl, fun _ => ⟨rfl, by omega⟩, (fun e => by cases e), m1, by omega, m2, m3, by omega, by omega⟩

/-- What a call tells that reads an entry. -/
def ansR : Option (Ent × Nat) → Value
  | none => .tuple #[.agg #[.string ⟨#[]⟩, .int .i64 0, .int .i64 0, .string ⟨#[]⟩], .int .i64 0, .bool false]
  | some (e, g) => .tuple #[entV e, .int .i64 (g : Int), .bool true]

theorem results_row_tmp2 {P : Program} {fn : Func} {p u u' : Tmp} {ty : TypeId} (h : fn.results = #[.cell p ty, .tmp u, .tmp u']) (tmps : Array Value) (w : World) (g : Nat) (t : TypeId) (cs : Array Value) (fr : Nat × Nat) (d : TypeDesc)
    (hp : tmps.getD p undef = .pointer (some ⟨g, 0, none⟩)) (hg : w.heap[g]? = some (.cells cs t fr))
    (hu : P.underlying ty = some d) (hd : (match d with | .struct _ | .array _ _ => true | _ => false) = true) (hi : (P.info? ty).map (·.size) = some cs.size) :
    (results fn tmps).run P w = .ok (.tuple #[.agg cs, tmps.getD u undef, tmps.getD u' undef]) w := by
  have h1 : (results fn tmps).run P w = ((asAddr (tmps.getD p undef)).run P w).andThen fun a w₁ => ((loadVar ty a).run P w₁).andThen fun v w₂ => .ok (.tuple #[v, tmps.getD u undef, tmps.getD u' undef]) w₂ := by
    simp only [results, h]
    simp [Sem.run_bind, Result.andThen]
  rw [h1, hp]
  simp [asAddr, run_loadVar_row w g t ty cs fr d hg hu hd hi]

theorem read_yes {c last : List UInt8} {p s a d g : Nat} {u v : List UInt8} {q k : Int} (h1 : getAt c (p : Int) = some (s, a)) (hs : ¬ last.length < s) (h2 : keyAt c (a : Int) = some ((u, q, k), d)) (h3 : textAt c (d : Int) = some (v, g)) :
    readP c last p = some (⟨strB (last.take s ++ u), q, k, strB v⟩, g) := by
  unfold readP
  rw [h1]; simp only
  rw [if_neg hs, h2]; simp only
  rw [h3]
theorem read_no1 {c last : List UInt8} {p : Nat} (h1 : getAt c (p : Int) = none) : readP c last p = none := by unfold readP; rw [h1]
theorem read_no2 {c last : List UInt8} {p s a : Nat} (h1 : getAt c (p : Int) = some (s, a)) (hs : last.length < s) : readP c last p = none := by unfold readP; rw [h1]; simp only; rw [if_pos hs]
theorem read_no3 {c last : List UInt8} {p s a : Nat} (h1 : getAt c (p : Int) = some (s, a)) (hs : ¬ last.length < s) (h2 : keyAt c (a : Int) = none) : readP c last p = none := by unfold readP; rw [h1]; simp only; rw [if_neg hs, h2]
theorem read_no4 {c last : List UInt8} {p s a d : Nat} {x : List UInt8 × Int × Int} (h1 : getAt c (p : Int) = some (s, a)) (hs : ¬ last.length < s) (h2 : keyAt c (a : Int) = some (x, d)) (h3 : textAt c (d : Int) = none) : readP c last p = none := by
  obtain ⟨u, q, k⟩ := x
  unfold readP; rw [h1]; simp only; rw [if_neg hs, h2]; simp only; rw [h3]
theorem cut_take (L : ByteArray) (s : Nat) (u : List UInt8) : L.extract 0 s ++ strB u = strB (L.data.toList.take s ++ u) := by
  apply ByteArray.ext
  apply Array.ext'
  simp [ByteArray.data_extract, List.extract_eq_take_drop]

set_option maxRecDepth 100000 in
set_option maxHeartbeats 400000 in
theorem read_any (v : Value) (c : List UInt8) (L : ByteArray) (p : Nat) (w : World) (hv : RdB w v c) (hL : L.size ≤ 100000000) :
    Calls Try.prog 36 #[v, .int .i64 (p : Int), .string L] w fun e w' => e = .returned (ansR (readP c L.data.toList p)) ∧ Below w.heap.size w w' := by
  have HV := Lib.hid hv
  clear hv
  obtain ⟨s, a, p1, e1, t1, n1, bs, ba⟩ := ans3_form c (p : Int)
  obtain ⟨u, q, k, d, p2, e2, t2, n2, bu, bd, bq1, bq2, bk1, bk2⟩ := ansK_form c (a : Int)
  obtain ⟨vs, g, p3, e3, t3, n3, bvs, bg⟩ := ansT_form c (d : Int)
  have HG1 : Hid (∀ wz, RdB wz v c → Calls Try.prog 49 #[v, .int .i64 (p : Int)] wz fun e w' => e = .returned (.tuple #[.int .i64 (s : Int), .int .i64 (a : Int), .bool p1]) ∧ wz = w') := Lib.hid fun wz h => by rw [← e1]; exact get_any _ c p wz h
  have HG2 : Hid (∀ wz, RdB wz v c → Calls Try.prog 50 #[v, .int .i64 (a : Int)] wz fun e w' => e = .returned (.tuple #[.agg #[.string (strB u), .int .i64 q, .int .i64 k], .int .i64 (d : Int), .bool p2]) ∧ Below wz.heap.size wz w') := Lib.hid fun wz h => by rw [← e2]; exact kget_any _ c a wz h
  have HG3 : Hid (∀ wz, RdB wz v c → Calls Try.prog 51 #[v, .int .i64 (d : Int)] wz fun e w' => e = .returned (.tuple #[.string (strB vs), .int .i64 (g : Int), .bool p3]) ∧ wz = w') := Lib.hid fun wz h => by rw [← e3]; exact getText_any _ c d wz h
  have T1 := Lib.hid t1
  have T2 := Lib.hid t2
  have T3 := Lib.hid t3
  have N1 := Lib.hid n1
  have N2 := Lib.hid n2
  have N3 := Lib.hid n3
  have SL := size_list L
  clear e1 e2 e3 t1 t2 t3 n1 n2 n3
  go_enter Try.func36, Try.ntmps36
  have hq0 := heap_alloc_new w (.cells #[.string ⟨#[]⟩, .int .i64 0, .int .i64 0, .string ⟨#[]⟩] 36)
  cases p1 with
  | false =>
    have HR := Lib.hid (read_no1 (last := L.data.toList) (N1.out rfl))
    have s0 := blk_cell (i := 0) hq0; have t0 := blk_free (i := 0) hq0; have s1 := blk_cell (i := 1) hq0; have t1 := blk_free (i := 1) hq0; have s2 := blk_cell (i := 2) hq0; have t2 := blk_free (i := 2) hq0; have s3 := blk_cell (i := 3) hq0; have t3 := blk_free (i := 3) hq0; 
    clear hq0
    go_wp2_with (first | (go_at_call 49; (refine (HG1.out _ (HV.out.below ((Below.refl _ _).alloc (Nat.le_refl _) _) (Nat.le_refl _))).mono ?_); rintro e w9 ⟨rfl, rfl⟩) | (go_at_call 50; (refine (HG2.out _ (HV.out.below ((Below.refl _ _).alloc (Nat.le_refl _) _) (Nat.le_refl _))).mono ?_); rintro e u2 ⟨rfl, hb2⟩; have HB2 : Hid (Below w.heap.size w u2) := Lib.hid (((Below.refl _ _).alloc (Nat.le_refl _) _).trans (hb2.mono (by simp))); have HQ0 : Hid (u2.heap[w.heap.size]? = some (.cells #[.string ⟨#[]⟩, .int .i64 0, .int .i64 0, .string ⟨#[]⟩] 36 (0, 0))) := Lib.hid ((hb2.block _ (by simp)).trans (heap_alloc_new w _)); clear hb2) | (go_at_call 51; (refine (HG3.out _ (HV.out.below (HB2.out.alloc HB2.out.size _) (Nat.le_refl _))).mono ?_); rintro e w9 ⟨rfl, rfl⟩))
    refine bodyPost_ret (results_row_tmp2 rfl _ _ w.heap.size 36 #[.string ⟨#[]⟩, .int .i64 0, .int .i64 0, .string ⟨#[]⟩] (0, 0) _ rfl ?hgE Try.underlying36 rfl (by kernel_rfl)) rfl ?_
    case hgE => exact heap_alloc_new w _
    exact ⟨by rw [HR.out]; rfl, (Below.refl _ _).alloc (Nat.le_refl _) _⟩
  | true =>
    have M1 := Lib.hid (T1.out rfl).1
    by_cases hs : L.size < s
    · have k3 : decide ((L.size : Int) < (s : Int)) = true := by simp; omega
      have HR := Lib.hid (read_no2 (last := L.data.toList) M1.out (by omega))
      clear T1 N1
      have s0 := blk_cell (i := 0) hq0; have t0 := blk_free (i := 0) hq0; have s1 := blk_cell (i := 1) hq0; have t1 := blk_free (i := 1) hq0; have s2 := blk_cell (i := 2) hq0; have t2 := blk_free (i := 2) hq0; have s3 := blk_cell (i := 3) hq0; have t3 := blk_free (i := 3) hq0; 
      clear hq0
      go_wp2_with (first | (go_at_call 49; (refine (HG1.out _ (HV.out.below ((Below.refl _ _).alloc (Nat.le_refl _) _) (Nat.le_refl _))).mono ?_); rintro e w9 ⟨rfl, rfl⟩) | (go_at_call 50; (refine (HG2.out _ (HV.out.below ((Below.refl _ _).alloc (Nat.le_refl _) _) (Nat.le_refl _))).mono ?_); rintro e u2 ⟨rfl, hb2⟩; have HB2 : Hid (Below w.heap.size w u2) := Lib.hid (((Below.refl _ _).alloc (Nat.le_refl _) _).trans (hb2.mono (by simp))); have HQ0 : Hid (u2.heap[w.heap.size]? = some (.cells #[.string ⟨#[]⟩, .int .i64 0, .int .i64 0, .string ⟨#[]⟩] 36 (0, 0))) := Lib.hid ((hb2.block _ (by simp)).trans (heap_alloc_new w _)); clear hb2) | (go_at_call 51; (refine (HG3.out _ (HV.out.below (HB2.out.alloc HB2.out.size _) (Nat.le_refl _))).mono ?_); rintro e w9 ⟨rfl, rfl⟩))
      refine bodyPost_ret (results_row_tmp2 rfl _ _ w.heap.size 36 #[.string ⟨#[]⟩, .int .i64 0, .int .i64 0, .string ⟨#[]⟩] (0, 0) _ rfl ?hgE Try.underlying36 rfl (by kernel_rfl)) rfl ?_
      case hgE => exact heap_alloc_new w _
      exact ⟨by rw [HR.out]; rfl, (Below.refl _ _).alloc (Nat.le_refl _) _⟩
    · have k3 : decide ((L.size : Int) < (s : Int)) = false := by simp; omega
      have HNS := Lib.hid (show ¬ L.data.toList.length < s by omega)
      clear T1 N1 hq0
      cases p2 with
      | false =>
        have HR := Lib.hid (read_no3 M1.out HNS.out (N2.out rfl))
        go_wp2_with (first | (go_at_call 49; (refine (HG1.out _ (HV.out.below ((Below.refl _ _).alloc (Nat.le_refl _) _) (Nat.le_refl _))).mono ?_); rintro e w9 ⟨rfl, rfl⟩) | (go_at_call 50; (refine (HG2.out _ (HV.out.below ((Below.refl _ _).alloc (Nat.le_refl _) _) (Nat.le_refl _))).mono ?_); rintro e u2 ⟨rfl, hb2⟩; have HB2 : Hid (Below w.heap.size w u2) := Lib.hid (((Below.refl _ _).alloc (Nat.le_refl _) _).trans (hb2.mono (by simp))); have HQ0 : Hid (u2.heap[w.heap.size]? = some (.cells #[.string ⟨#[]⟩, .int .i64 0, .int .i64 0, .string ⟨#[]⟩] 36 (0, 0))) := Lib.hid ((hb2.block _ (by simp)).trans (heap_alloc_new w _)); clear hb2; have hq1 : (u2.alloc (.cells #[.string (strB u), .int .i64 q, .int .i64 k] 25)).heap[w.heap.size]? = some (.cells #[.string ⟨#[]⟩, .int .i64 0, .int .i64 0, .string ⟨#[]⟩] 36 (0, 0)) := (Below.block ((Below.refl _ _).alloc (Nat.le_refl _) _) _ (blk_lt HQ0.out)).trans HQ0.out; have HQ1 := Lib.hid hq1; have s0 := blk_cell (i := 0) hq1; have t0 := blk_free (i := 0) hq1; have s1 := blk_cell (i := 1) hq1; have t1 := blk_free (i := 1) hq1; have s2 := blk_cell (i := 2) hq1; have t2 := blk_free (i := 2) hq1; have s3 := blk_cell (i := 3) hq1; have t3 := blk_free (i := 3) hq1; clear hq1) | (go_at_call 51; (refine (HG3.out _ (HV.out.below (HB2.out.alloc HB2.out.size _) (Nat.le_refl _))).mono ?_); rintro e w9 ⟨rfl, rfl⟩))
        refine bodyPost_ret (results_row_tmp2 rfl _ _ w.heap.size 36 #[.string ⟨#[]⟩, .int .i64 0, .int .i64 0, .string ⟨#[]⟩] (0, 0) _ rfl ?hgE Try.underlying36 rfl (by kernel_rfl)) rfl ?_
        case hgE => exact (set4 HQ1.out rfl rfl rfl rfl).1
        exact ⟨by rw [HR.out]; rfl, (set4 HQ1.out rfl rfl rfl rfl).2 _ (Nat.le_refl _) _ (HB2.out.alloc HB2.out.size _)⟩
      | true =>
        have M2 := Lib.hid (T2.out rfl).1
        clear T2 N2
        cases p3 with
        | false =>
          have HR := Lib.hid (read_no4 M1.out HNS.out M2.out (N3.out rfl))
          go_wp2_with (first | (go_at_call 49; (refine (HG1.out _ (HV.out.below ((Below.refl _ _).alloc (Nat.le_refl _) _) (Nat.le_refl _))).mono ?_); rintro e w9 ⟨rfl, rfl⟩) | (go_at_call 50; (refine (HG2.out _ (HV.out.below ((Below.refl _ _).alloc (Nat.le_refl _) _) (Nat.le_refl _))).mono ?_); rintro e u2 ⟨rfl, hb2⟩; have HB2 : Hid (Below w.heap.size w u2) := Lib.hid (((Below.refl _ _).alloc (Nat.le_refl _) _).trans (hb2.mono (by simp))); have HQ0 : Hid (u2.heap[w.heap.size]? = some (.cells #[.string ⟨#[]⟩, .int .i64 0, .int .i64 0, .string ⟨#[]⟩] 36 (0, 0))) := Lib.hid ((hb2.block _ (by simp)).trans (heap_alloc_new w _)); clear hb2; have hq1 : (u2.alloc (.cells #[.string (strB u), .int .i64 q, .int .i64 k] 25)).heap[w.heap.size]? = some (.cells #[.string ⟨#[]⟩, .int .i64 0, .int .i64 0, .string ⟨#[]⟩] 36 (0, 0)) := (Below.block ((Below.refl _ _).alloc (Nat.le_refl _) _) _ (blk_lt HQ0.out)).trans HQ0.out; have HQ1 := Lib.hid hq1; have s0 := blk_cell (i := 0) hq1; have t0 := blk_free (i := 0) hq1; have s1 := blk_cell (i := 1) hq1; have t1 := blk_free (i := 1) hq1; have s2 := blk_cell (i := 2) hq1; have t2 := blk_free (i := 2) hq1; have s3 := blk_cell (i := 3) hq1; have t3 := blk_free (i := 3) hq1; clear hq1) | (go_at_call 51; (refine (HG3.out _ (HV.out.below (HB2.out.alloc HB2.out.size _) (Nat.le_refl _))).mono ?_); rintro e w9 ⟨rfl, rfl⟩))
          refine bodyPost_ret (results_row_tmp2 rfl _ _ w.heap.size 36 #[.string ⟨#[]⟩, .int .i64 0, .int .i64 0, .string ⟨#[]⟩] (0, 0) _ rfl ?hgE Try.underlying36 rfl (by kernel_rfl)) rfl ?_
          case hgE => exact (set4 HQ1.out rfl rfl rfl rfl).1
          exact ⟨by rw [HR.out]; rfl, (set4 HQ1.out rfl rfl rfl rfl).2 _ (Nat.le_refl _) _ (HB2.out.alloc HB2.out.size _)⟩
        | true =>
          have HR := Lib.hid (read_yes M1.out HNS.out M2.out (T3.out rfl).1)
          have HCT := Lib.hid (cut_take L s u)
          have HSZ : min s L.size + u.length ≤ 9223372036854775807 := by omega
          clear T3 N3 M1 M2
          go_upto_region 10 with (first | (go_at_call 49; (refine (HG1.out _ (HV.out.below ((Below.refl _ _).alloc (Nat.le_refl _) _) (Nat.le_refl _))).mono ?_); rintro e w9 ⟨rfl, rfl⟩) | (go_at_call 50; (refine (HG2.out _ (HV.out.below ((Below.refl _ _).alloc (Nat.le_refl _) _) (Nat.le_refl _))).mono ?_); rintro e u2 ⟨rfl, hb2⟩; have HB2 : Hid (Below w.heap.size w u2) := Lib.hid (((Below.refl _ _).alloc (Nat.le_refl _) _).trans (hb2.mono (by simp))); have HQ0 : Hid (u2.heap[w.heap.size]? = some (.cells #[.string ⟨#[]⟩, .int .i64 0, .int .i64 0, .string ⟨#[]⟩] 36 (0, 0))) := Lib.hid ((hb2.block _ (by simp)).trans (heap_alloc_new w _)); clear hb2; have hq1 : (u2.alloc (.cells #[.string (strB u), .int .i64 q, .int .i64 k] 25)).heap[w.heap.size]? = some (.cells #[.string ⟨#[]⟩, .int .i64 0, .int .i64 0, .string ⟨#[]⟩] 36 (0, 0)) := (Below.block ((Below.refl _ _).alloc (Nat.le_refl _) _) _ (blk_lt HQ0.out)).trans HQ0.out; have HQ1 := Lib.hid hq1; have s0 := blk_cell (i := 0) hq1; have t0 := blk_free (i := 0) hq1; have s1 := blk_cell (i := 1) hq1; have t1 := blk_free (i := 1) hq1; have s2 := blk_cell (i := 2) hq1; have t2 := blk_free (i := 2) hq1; have s3 := blk_cell (i := 3) hq1; have t3 := blk_free (i := 3) hq1; clear hq1) | (go_at_call 51; (refine (HG3.out _ (HV.out.below (HB2.out.alloc HB2.out.size _) (Nat.le_refl _))).mono ?_); rintro e w9 ⟨rfl, rfl⟩))
          obtain ⟨w4, hw4⟩ : ∃ w4, w4 = (u2.alloc (.cells #[.string (strB u), .int .i64 q, .int .i64 k] 25)).drew := ⟨_, rfl⟩
          have Hw4 := Lib.hid hw4
          have hr4 : w4.heap[u2.heap.size]? = some (.cells #[.string (strB u), .int .i64 q, .int .i64 k] 25 (0, 0)) := by rw [hw4]; exact heap_alloc_new u2 _
          have hr0 : w4.heap[w.heap.size]? = some (.cells #[.string ⟨#[]⟩, .int .i64 0, .int .i64 0, .string ⟨#[]⟩] 36 (0, 0)) := by rw [hw4]; exact HQ1.out
          have HB4 : Hid (Below w.heap.size w w4) := Lib.hid (by rw [hw4]; exact (HB2.out.alloc HB2.out.size _).drew)
          have q0 := blk_cell (i := 0) hr4
          have f0 := blk_free (i := 0) hr4
          replace q0 : w4.cell? ⟨u2.heap.size, 0, none⟩ = some (.string (strB u)) := q0
          have HLT : Hid (w.heap.size < u2.heap.size) := Lib.hid (blk_lt HQ0.out)
          have HR0 := Lib.hid hr0
          have HR4 := Lib.hid hr4
          clear hw4 hr4 hr0 s0 s1 s2 s3 t0 t1 t2 t3 HQ0 HQ1
          refine wp_region_two (fun wz => wz = w4) (fun _ => True) [(0, 0), (0, 1), (0, 2), (0, 3), (0, 4), (0, 5), (0, 6), (3, 7)] [7] (by kernel_rfl) (by kernel_rfl) (by kernel_rfl) (by kernel_rfl) (by kernel_rfl) Hw4.out.symm trivial ?_
          simp only [planT, List.drop_succ_cons, List.drop_zero]
          rw [← Hw4.out]
          refine PlanT.take0 (v := ?v0) (by kernel_rfl) ?y0 ?r0
          case y0 => (intro wz hz; subst hz; go_simp; try with_reducible rfl)
          (try simp only [Act.put, List.setIfInBounds_toArray, List.set_cons_zero, List.set_cons_succ])
          refine PlanT.take0 (v := ?v1) (by kernel_rfl) ?y1 ?r1
          case y1 => (intro wz hz; subst hz; go_simp; try with_reducible rfl)
          (try simp only [Act.put, List.setIfInBounds_toArray, List.set_cons_zero, List.set_cons_succ])
          refine PlanT.take0 (v := .string (L.extract 0 s)) (by kernel_rfl) ?y2 ?r2
          case y2 => (intro wz hz; subst hz; go_simp; try with_reducible rfl)
          (try simp only [Act.put, List.setIfInBounds_toArray, List.set_cons_zero, List.set_cons_succ])
          refine PlanT.take0 (v := ?v3) (by kernel_rfl) ?y3 ?r3
          case y3 => (intro wz hz; subst hz; go_simp; try with_reducible rfl)
          (try simp only [Act.put, List.setIfInBounds_toArray, List.set_cons_zero, List.set_cons_succ])
          refine PlanT.take0 (v := ?v4) (by kernel_rfl) ?y4 ?r4
          case y4 => (intro wz hz; subst hz; go_simp; try with_reducible rfl)
          (try simp only [Act.put, List.setIfInBounds_toArray, List.set_cons_zero, List.set_cons_succ])
          refine PlanT.take0 (v := .string (L.extract 0 s ++ strB u)) (by kernel_rfl) ?y5 ?r5
          case y5 => (intro wz hz; subst hz; go_simp; try with_reducible rfl)
          (try simp only [Act.put, List.setIfInBounds_toArray, List.set_cons_zero, List.set_cons_succ])
          refine PlanT.take0 (v := ?v6) (by kernel_rfl) ?y6 ?r6
          case y6 => (intro wz hz; subst hz; go_simp; try with_reducible rfl)
          (try simp only [Act.put, List.setIfInBounds_toArray, List.set_cons_zero, List.set_cons_succ])
          refine PlanT.exec3 (fun K hK => ⟨by kernel_rfl, ?_⟩)
          go_simp
          refine hK.out _ _ trivial ?_
          clear hK K
          (try simp only [Act.put, List.setIfInBounds_toArray, List.set_cons_zero, List.set_cons_succ])
          refine PlanT.done (NoPanic.normal ?_)
          obtain ⟨w5, hw5⟩ : ∃ w5, w5 = w4.setCell ⟨u2.heap.size, 0, none⟩ (.string (L.extract 0 s ++ strB u)) := ⟨_, rfl⟩
          rw [← hw5]
          have hr5 : w5.heap[u2.heap.size]? = some (.cells #[.string (L.extract 0 s ++ strB u), .int .i64 q, .int .i64 k] 25 (0, 0)) := by rw [hw5]; exact blk_set (i := 0) HR4.out _
          have hb5 : Below u2.heap.size w4 w5 := by rw [hw5]; exact Below.setCell (Below.refl _ _) (show u2.heap.size ≤ (⟨u2.heap.size, 0, none⟩ : Addr).block from Nat.le_refl _) _
          have hr6 := (hb5.block _ HLT.out).trans HR0.out
          have HR6 := Lib.hid hr6
          have HB5 := Lib.hid (HB4.out.trans (hb5.mono (Nat.le_of_lt HLT.out)))
          have y0 := blk_cell (i := 0) hr5
          have y1 := blk_cell (i := 1) hr5
          have y2 := blk_cell (i := 2) hr5
          replace y0 : w5.cell? ⟨u2.heap.size, 0, none⟩ = some (.string (L.extract 0 s ++ strB u)) := y0
          replace y1 : w5.cell? ⟨u2.heap.size, 1, none⟩ = some (.int .i64 q) := y1
          replace y2 : w5.cell? ⟨u2.heap.size, 2, none⟩ = some (.int .i64 k) := y2
          have s0 := blk_cell (i := 0) hr6; have t0 := blk_free (i := 0) hr6; have s1 := blk_cell (i := 1) hr6; have t1 := blk_free (i := 1) hr6; have s2 := blk_cell (i := 2) hr6; have t2 := blk_free (i := 2) hr6; have s3 := blk_cell (i := 3) hr6; have t3 := blk_free (i := 3) hr6; 
          clear hw5 hr5 hb5 hr6 q0 f0 HR4 HR0
          go_wp2
          refine bodyPost_ret (results_row_tmp2 rfl _ _ w.heap.size 36 #[.string (L.extract 0 s ++ strB u), .int .i64 q, .int .i64 k, .string (strB vs)] (0, 0) _ rfl ?hgE Try.underlying36 rfl (by kernel_rfl)) rfl ?_
          case hgE => exact (set4 HR6.out rfl rfl rfl rfl).1
          exact ⟨by rw [HR.out, ← HCT.out]; rfl, (set4 HR6.out rfl rfl rfl rfl).2 _ (Nat.le_refl _) _ HB5.out⟩
end Go.Proofs.Ytdcjfgbngmdkfaa
