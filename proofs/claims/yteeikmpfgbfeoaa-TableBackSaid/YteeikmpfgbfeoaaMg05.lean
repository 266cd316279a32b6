import Derived.Test.YteeikmpfgbfeoaaMg04
import Derived.Test.YteeikmpfgbfeoaaMg02
import Derived.Test.YteeikmpfgbfeoaaMg01
import Derived.Test.YteeikmpfgbfeoaaMg03
import Derived.Test.YteeikmpfgbfeoaaKeyMay
import Derived.Test.YteeikmpfgbfeoaaMg00
import Derived.Test.YteeikmpfgbfeoaaTwo

/-
  Chapter 12, the statements' own: entries in order, made by numbers.
-/
namespace Go.Proofs.Yteeikmpfgbfeoaa
open Go.RowKit

/-- The entry of a number. -/
def keyN (sp n : Nat) : ByteArray := ⟨#[107, 101, 121]⟩ ++ strB (digL (n % (3 + sp % 40)))
def entN (sp n i : Nat) : Ent := if n % 7 = 0 then ⟨keyN sp n, 1 + (i : Int), 2, ⟨#[]⟩⟩ else ⟨keyN sp n, 1 + (i : Int), 1, strB (digL n)⟩
def entsN (ns : List UInt8) (sp : Nat) : List Ent := (List.range ns.length).map fun i => entN sp (ns.getD i 0).toNat i
def mkB (ns : List UInt8) (sp : Nat) : List Ent := build (entsN ns sp)

theorem keyN_len (sp n : Nat) : (keyN sp n).data.toList.length ≤ 64 := by
  unfold keyN
  have h := digL_len (n % (3 + sp % 40))
  have h2 : n % (3 + sp % 40) < 3 + sp % 40 := Nat.mod_lt _ (by omega)
  have : ((⟨#[107, 101, 121]⟩ : ByteArray) ++ strB (digL (n % (3 + sp % 40)))).data.toList.length = 3 + (digL (n % (3 + sp % 40))).length := by simp; omega
  rw [this]
  omega
theorem entN_may (sp n i : Nat) (hn : n ≤ 255) (hi : i ≤ 1000) : (entN sp n i).may = true := by
  have hk := keyN_len sp n
  have hd := digL_len n
  unfold entN
  split
  · unfold Ent.may mayE
    rw [mayB_mk hk (by simp only; omega) (by simp only; omega) (.inr rfl)]
    rfl
  · unfold Ent.may mayE
    rw [mayB_mk hk (by simp only; omega) (by simp only; omega) (.inl rfl)]
    have : (strB (digL n)).data.toList.length ≤ 512 := by
      show (digL n).length ≤ 512
      omega
    simpa using this
theorem entsN_len (ns : List UInt8) (sp : Nat) : (entsN ns sp).length = ns.length := by unfold entsN; simp
theorem entsN_at (ns : List UInt8) (sp : Nat) {k : Nat} (hk : k < ns.length) : (entsN ns sp).getD k Ent.none_ = entN sp (ns.getD k 0).toNat k := by
  unfold entsN
  simp [List.getD, hk]
theorem entsN_may {ns : List UInt8} {sp : Nat} (hl : ns.length ≤ 1000) : ∀ e ∈ entsN ns sp, e.may = true := by
  intro e he
  unfold entsN at he
  obtain ⟨i, hi, rfl⟩ := List.mem_map.1 he
  have := List.mem_range.1 hi
  exact entN_may _ _ _ (by have := (ns.getD i 0).toNat_lt; omega) (by omega)

theorem addL_ge (e : Ent) (l : List Ent) : l.length ≤ (addL e l).length := by
  unfold addL
  cases addB e l
  · exact Nat.le_refl _
  · show l.length ≤ (insE e l).length
    rw [ins_len]
    omega
theorem build_ne {e : Ent} {r : List Ent} (he : e.may = true) : build (e :: r) ≠ [] := by
  have h1 : addL e [] = [e] := by
    unfold addL addB
    rw [he]
    rfl
  have key : ∀ (ys acc : List Ent), acc.length ≤ (ys.foldl (fun acc e => addL e acc) acc).length := by
    intro ys
    induction ys with
    | nil => intro acc; exact Nat.le_refl _
    | cons y r ih => intro acc; exact Nat.le_trans (addL_ge y acc) (ih _)
  have := key r (addL e [])
  rw [h1] at this
  intro h
  unfold build at h
  rw [List.foldl_cons, h1] at h
  rw [h] at this
  simp at this
theorem build_may {xs : List Ent} : ∀ e ∈ build xs, e.may = true := by
  have key : ∀ (ys acc : List Ent), (∀ e ∈ acc, e.may = true) → ∀ e ∈ ys.foldl (fun acc e => addL e acc) acc, e.may = true := by
    intro ys
    induction ys with
    | nil => intro acc h; exact h
    | cons y r ih => intro acc h; exact ih _ (addL_may h)
  exact key xs [] (fun e h => by cases h)

theorem mkB_up (ns : List UInt8) (sp : Nat) : Up (mkB ns sp) := build_up _
theorem mkB_may (ns : List UInt8) (sp : Nat) : ∀ e ∈ mkB ns sp, e.may = true := build_may
theorem mkB_len (ns : List UInt8) (sp : Nat) : (mkB ns sp).length ≤ ns.length := by
  have := build_len (entsN ns sp)
  rw [entsN_len] at this
  exact this
theorem mkB_ne {ns : List UInt8} (sp : Nat) (h : ns ≠ []) (hl : ns.length ≤ 1000) : mkB ns sp ≠ [] := by
  have hl2 := entsN_len ns sp
  have hm := entsN_may (ns := ns) (sp := sp) hl
  have hpos := List.length_pos_iff.2 h
  unfold mkB
  cases hx : entsN ns sp with
  | nil => rw [hx] at hl2; simp at hl2; omega
  | cons e r => exact build_ne (hm e (by rw [hx]; simp))

/-- The document's memory 'q' keeps the entries 'L', in memory of the call's own. -/
structure RM (W w : World) (q : Nat) (L : List Ent) : Prop where
  bel : Below W.heap.size W w
  obj : ∃ G, Ro G w q L ∧ ∀ k, G k → W.heap.size ≤ k
theorem RM.below {W w w' : World} {q : Nat} {L : List Ent} (h : RM W w q L) (hb : Below w.heap.size w w') : RM W w' q L := by
  obtain ⟨G, h1, h2⟩ := h.obj
  exact ⟨h.bel.trans (hb.mono h.bel.size), G, h1.below hb, h2⟩
theorem RM.start (W : World) : RM W (W.alloc (.cells #[.slice none 0 0] 55)) W.heap.size [] := by
  refine ⟨(Below.refl _ _).alloc (Nat.le_refl _) _, fun k => k = W.heap.size, ⟨.slice none 0 0, heap_alloc_new W _, World.ownsRow_nil _ _ _ _, (fun h => by cases h), fun k => ⟨fun h => .inl h, fun h => h.elim id fun h => by cases h⟩, fun e he => by cases he⟩, fun k hk => by omega⟩
theorem rm_add {W w : World} {q : Nat} {L : List Ent} (h : RM W w q L) (e : Ent) (he : e.fits) (hlen : L.length < 100000) :
    Calls Try.prog 19 #[.pointer (some ⟨q, 0, none⟩), .agg #[.string e.u, .int .i64 e.s, .int .i64 e.k, .string e.v]] w fun r w' => r = .returned (.bool (addB e L)) ∧ RM W w' q (addL e L) := by
  obtain ⟨G, h2, h5⟩ := h.obj
  refine (radd_any h2 e he hlen).mono ?_
  rintro r w' ⟨rfl, G', hm, ht, hg⟩
  have hs := h.bel.size
  refine ⟨rfl, h.bel.trans (ht.below h5 hs), G', hm, fun k hG' => ?_⟩
  rcases hg k hG' with h | h
  · exact h5 k h
  · omega
theorem RM.own {W w : World} {q : Nat} {L : List Ent} (h : RM W w q L) : ∃ v, w.heap[q]? = some (.cells #[v] 55 (0, 0)) ∧ OwnE w W.heap.size v L := by
  obtain ⟨G, ⟨v, h1, h2, _, h4, _⟩, h5⟩ := h.obj
  exact ⟨v, h1, own_base h2 fun k hk => h5 k ((h4 k).2 (.inr hk))⟩

/-- What Make tells. -/
def RetMk (w : World) (L : List Ent) (e : Ending) (w' : World) : Prop := ∃ x, e = .returned x ∧ OwnE w' w.heap.size x L ∧ Below w.heap.size w w'

set_option maxRecDepth 100000 in
set_option maxHeartbeats 1000000 in
theorem make12_any (v : Value) (ns : List UInt8) (sp : Nat) (hsp : sp ≤ 255) (w : World) (hv : RdB w v ns) (hl : ns.length ≤ 1000) : Calls Try.prog 8 #[v, .int .u8 (sp : Int)] w (RetMk w (mkB ns sp)) := by
  have HV := Lib.hid hv
  obtain ⟨va, vc, rfl, hc1, hc2⟩ := hv.form
  unfold maxLen at hc2
  clear hv
  obtain ⟨s4, hs4⟩ : ∃ s4, sp % 40 = s4 := ⟨_, rfl⟩
  have a1 : (sp : Int).tmod 40 = (s4 : Int) := by rw [Int.tmod_eq_emod_of_nonneg (by omega)]; omega
  have a2 : (sp : Int) % 40 = (s4 : Int) := by omega
  have a3 : s4 < 40 := by omega
  have HS4 := Lib.hid hs4
  have HL := Lib.hid (entsN_len ns sp)
  have HAT := Lib.hid (fun k (hk : k < ns.length) => entsN_at ns sp hk)
  have HBT := Lib.hid (fun k (hk : k < (entsN ns sp).length) => build_take hk)
  have HBL := Lib.hid (fun k => build_len ((entsN ns sp).take k))
  clear hs4
  go_enter Try.func8, Try.ntmps8
  go_wp2
  go_loopw [6] (fun i wr => ∃ k : Nat, k ≤ ns.length ∧ i = .int .i64 (k : Int) ∧ Hid (RM w wr w.heap.size (build ((entsN ns sp).take k)))) (fun i _ => ns.length - (intOf i).toNat)
  case atStart => exact ⟨0, Nat.zero_le _, rfl, Lib.hid (RM.start w)⟩
  case round =>
    obtain ⟨k, hk, rfl, HR⟩ := hrel
    by_cases hlt : k < ns.length
    · obtain ⟨b, off, cap', hvv, _, _, hbw, hcell⟩ := HV.out.cells (by intro h; subst h; simp at hlt)
      cases hvv
      have z0 := (HR.out.bel.cell (p := ⟨b, off + k, none⟩) hbw).trans (hcell k hlt)
      have HN : Hid (build ((entsN ns sp).take (k + 1)) = addL (entN sp (ns.getD k 0).toNat k) (build ((entsN ns sp).take k))) := Lib.hid (by rw [HBT.out k (by rw [HL.out]; exact hlt), HAT.out k hlt])
      have HF := Lib.hid (Ent.may_fits (entN_may sp (ns.getD k 0).toNat k (by have := (ns.getD k 0).toNat_lt; omega) (by omega)))
      have hnb := byte_le (ns.getD k 0)
      unfold bv at z0
      have HBK := Lib.hid (HBL.out k)
      generalize (ns.getD k 0).toNat = n at *
      generalize build ((entsN ns sp).take k) = Lk at *
      obtain ⟨m, hm⟩ : ∃ m, n % (3 + s4) = m := ⟨_, rfl⟩
      have b1 : (n : Int).tmod (3 + (s4 : Int)) = (m : Int) := by rw [Int.tmod_eq_emod_of_nonneg (by omega), ← hm]; simp
      have b2 : (n : Int) % (3 + (s4 : Int)) = (m : Int) := by rw [← hm]; simp
      have b3 : ¬ (3 : Int) + (s4 : Int) = 0 := by omega
      have HD1 := Lib.hid (rdigits_any m (by have := Nat.mod_lt n (show 0 < 3 + s4 by omega); omega))
      have HD2 := Lib.hid (rdigits_any n (by omega))
      obtain ⟨r7, hr7⟩ : ∃ r7, n % 7 = r7 := ⟨_, rfl⟩
      have d1 : (n : Int).tmod 7 = (r7 : Int) := by rw [Int.tmod_eq_emod_of_nonneg (by omega)]; omega
      have d2 : (n : Int) % 7 = (r7 : Int) := by omega
      have hdl := digL_len m
      have hml := Nat.mod_lt n (show 0 < 3 + s4 by omega)
      have hlim : ¬ 9223372036854775807 < 3 + (digL m).length := by omega
      clear hcell hbw hdl hml
      by_cases hz : r7 = 0
      · have hzb : ((r7 : Int) == 0) = true := by rw [hz]; rfl
        have HE := Lib.hid (show entN sp n k = ⟨⟨#[107, 101, 121]⟩ ++ strB (digL m), 1 + (k : Int), 2, ⟨#[]⟩⟩ by unfold entN keyN; rw [if_pos (hr7.trans hz), HS4.out, hm])
        rw [HE.out] at HN HF
        have HA : Hid (∀ wz, Below wr.heap.size wr wz → Calls Try.prog 19 #[.pointer (some ⟨w.heap.size, 0, none⟩), .agg #[.string (⟨#[107, 101, 121]⟩ ++ strB (digL m)), .int .i64 (1 + (k : Int)), .int .i64 2, .string ⟨#[]⟩]] wz fun r w' => r = .returned (.bool (addB ⟨⟨#[107, 101, 121]⟩ ++ strB (digL m), 1 + (k : Int), 2, ⟨#[]⟩⟩ Lk)) ∧ RM w w' w.heap.size (addL ⟨⟨#[107, 101, 121]⟩ ++ strB (digL m), 1 + (k : Int), 2, ⟨#[]⟩⟩ Lk)) := Lib.hid fun wz hz => rm_add (HR.out.below hz) ⟨⟨#[107, 101, 121]⟩ ++ strB (digL m), 1 + (k : Int), 2, ⟨#[]⟩⟩ HF.out (by have := HBK.out; rw [List.length_take] at this; omega)
        clear hm hr7 hz
        go_wp2_with (first | (go_at_call 11; first | ((with_reducible refine (HD1.out _).mono ?_); rintro e w1 ⟨rfl, hb1⟩) | ((with_reducible refine (HD2.out _).mono ?_); rintro e w2 ⟨rfl, hb2⟩)) | (go_at_call 19; (refine (HA.out _ (belowT (belowT hb1 hb2) ((Below.refl _ _).alloc (Nat.le_refl _) _))).mono ?_); rintro e w3 ⟨rfl, hr3⟩))
        exact ⟨⟨k + 1, hlt, by go_num, Lib.hid (by rw [HN.out]; exact hr3)⟩, by simp [intOf]; omega⟩
      · have hzb : ((r7 : Int) == 0) = false := by have : (r7 : Int) ≠ 0 := (by omega); simpa using this
        have HE := Lib.hid (show entN sp n k = ⟨⟨#[107, 101, 121]⟩ ++ strB (digL m), 1 + (k : Int), 1, (strB (digL n))⟩ by unfold entN keyN; rw [if_neg (fun h => hz (hr7.symm.trans h)), HS4.out, hm])
        rw [HE.out] at HN HF
        have HA : Hid (∀ wz, Below wr.heap.size wr wz → Calls Try.prog 19 #[.pointer (some ⟨w.heap.size, 0, none⟩), .agg #[.string (⟨#[107, 101, 121]⟩ ++ strB (digL m)), .int .i64 (1 + (k : Int)), .int .i64 1, .string (strB (digL n))]] wz fun r w' => r = .returned (.bool (addB ⟨⟨#[107, 101, 121]⟩ ++ strB (digL m), 1 + (k : Int), 1, (strB (digL n))⟩ Lk)) ∧ RM w w' w.heap.size (addL ⟨⟨#[107, 101, 121]⟩ ++ strB (digL m), 1 + (k : Int), 1, (strB (digL n))⟩ Lk)) := Lib.hid fun wz hz => rm_add (HR.out.below hz) ⟨⟨#[107, 101, 121]⟩ ++ strB (digL m), 1 + (k : Int), 1, (strB (digL n))⟩ HF.out (by have := HBK.out; rw [List.length_take] at this; omega)
        clear hm hr7 hz
        go_wp2_with (first | (go_at_call 11; first | ((with_reducible refine (HD1.out _).mono ?_); rintro e w1 ⟨rfl, hb1⟩) | ((with_reducible refine (HD2.out _).mono ?_); rintro e w2 ⟨rfl, hb2⟩)) | (go_at_call 19; (refine (HA.out _ (belowT (belowT hb1 hb2) ((Below.refl _ _).alloc (Nat.le_refl _) _))).mono ?_); rintro e w3 ⟨rfl, hr3⟩))
        exact ⟨⟨k + 1, hlt, by go_num, Lib.hid (by rw [HN.out]; exact hr3)⟩, by simp [intOf]; omega⟩
    · have hke : k = ns.length := by omega
      have HRE := Lib.hid (show RM w wr w.heap.size (mkB ns sp) by
        have h := HR.out
        rw [hke, ← HL.out, List.take_length] at h
        exact h)
      obtain ⟨x, hx1, hx2⟩ := HRE.out.own
      have HX := Lib.hid hx2
      have x0 := blk_cell (i := 0) hx1
      replace x0 : wr.cell? ⟨w.heap.size, 0, none⟩ = some x := x0
      clear hke hx1 hx2
      go_wp2
      go_ret
      exact ⟨_, rfl, HX.out, HRE.out.bel⟩
end Go.Proofs.Yteeikmpfgbfeoaa

/-
  Entries made by numbers are small; a row of bytes.
-/
namespace Go.Proofs.Yteeikmpfgbfeoaa
open Go.RowKit

/-- A row of bytes that was just laid. -/
theorem rdB_row (w : World) (l : List UInt8) (hl : l.length ≤ 1000) : RdB (w.alloc (.cells (l.map bv).toArray 5)) (.slice (some ⟨w.heap.size, 0, none⟩) l.length l.length) l := by
  refine ⟨_, l.length, rfl, Nat.le_refl _, by unfold maxLen; omega, by simp, .inr ⟨w.heap.size, 0, rfl, by simp, fun j u hj => ?_⟩⟩
  rw [Nat.zero_add, cell_of_row _ w.heap.size j _ 5 (0, 0) (heap_alloc_new w _)]
  simpa using hj

theorem may_small {es : List Ent} (h : ∀ e ∈ es, e.may = true) (hl : es.length ≤ 1000) : SmallE es :=
  ⟨hl, fun e he => by have := may_kind (h e he); omega⟩
theorem mk_fits (ns : List UInt8) (sp : Nat) : ∀ e ∈ mkB ns sp, e.fits := fun e he => Ent.may_fits (mkB_may ns sp e he)

end Go.Proofs.Yteeikmpfgbfeoaa

/-
  Chapter 13, what is asked of package table: as contracts, which the walks take and the program's own texts give; tables are small.
-/
namespace Go.Proofs.Yteeikmpfgbfeoaa
open Go.RowKit

theorem blk_small {es : List Ent} (h : putErr es = 0) : (blockL es).length + 8 ≤ 720 * es.length := by
  obtain ⟨h1, h2, _⟩ := putErr_ok h
  have h3 := bodyN_len (fun k hk => rising_may h1 hk) es.length (Nat.le_refl _)
  have h4 := List.length_pos_iff.2 h2
  rw [blockL_len]
  omega
theorem tab_small {es : List Ent} {per : Nat} (hr : risingB es = true) (h1 : 1 ≤ per) (h2 : per ≤ 64) : ∀ k, k ≤ nBlk es per → (tabB es per k).length ≤ 720 * min (k * per) es.length
  | 0, _ => by simp [tabB]
  | k + 1, hk => by
    have h3 := tab_small hr h1 h2 k (by omega)
    have h4 := (nBlk_lt h1 k).1 hk
    have h5 := blk_small (part_err hr h1 h2 h4)
    rw [part_len] at h5
    unfold tabB blkF
    rw [List.length_append, frRaw_length, show (k + 1) * per = k * per + per from Nat.succ_mul k per]
    have e1 : min (k * per + per) es.length = min (k * per) es.length + min per (es.length - k * per) := by omega
    rw [e1]
    omega
theorem nBlk_le {es : List Ent} {per : Nat} (h1 : 1 ≤ per) (h2 : es ≠ []) : nBlk es per ≤ es.length := by
  have hp := List.length_pos_iff.2 h2
  rcases Nat.lt_or_ge es.length (nBlk es per) with h | h
  · have := (nBlk_lt h1 es.length).1 h
    have h3 : es.length * 1 ≤ es.length * per := Nat.mul_le_mul_left _ h1
    omega
  · exact h
theorem table_small {es : List Ent} {per : Nat} {f : List UInt8} (hm : MayT es) (h1 : 1 ≤ per) (h2 : per ≤ 64) (hf : f.length ≤ 100000) : 17 ≤ (tableL es per f).length ∧ (tableL es per f).length ≤ 1000000 := by
  have h3 := tab_small hm.1 h1 h2 (nBlk es per) (Nat.le_refl _)
  have h4 := nBlk_le h1 hm.2.1
  have h5 := idxB_len (es := es) (per := per) (fun k hk => part_err hm.1 h1 h2 ((nBlk_lt h1 k).1 hk)) (by have := hm.2.2; omega) (nBlk es per) (Nat.le_refl _)
  have h6 := hm.2.2
  unfold tableL
  simp only [List.length_append, frRaw_length, fixL_length, List.length_cons, List.length_nil]
  omega
theorem getT_put {es : List Ent} {per : Nat} {f : List UInt8} (hm : MayT es) (h1 : 1 ≤ per) (h2 : per ≤ 64) (hf : f.length ≤ 100000) : getT (tableL es per f) = some (es, f) :=
  getT_some (table_small hm h1 h2 hf).2 ⟨per, h1, h2, hm, by omega, rfl⟩
theorem findT_put {es : List Ent} {per : Nat} {f : List UInt8} (hm : MayT es) (h1 : 1 ≤ per) (h2 : per ≤ 64) (hf : f.length ≤ 100000) (u : ByteArray) (s : Int) : findT (tableL es per f) u s = some (if mayL f (hashL u.data.toList) then newest es u s else none) := by
  unfold findT
  rw [getT_put hm h1 h2 hf]
theorem putT_ok {es : List Ent} {per : Int} (h : putTErr es per = 0) : MayT es ∧ 1 ≤ per.toNat ∧ per.toNat ≤ 64 := by
  unfold putTErr at h
  split at h
  · omega
  · rename_i h1
    split at h
    · omega
    · rename_i h2
      refine ⟨⟨?_, fun e => h1 (.inr (.inr (.inr e))), by omega⟩, by omega, by omega⟩
      cases hr : risingB es with
      | true => rfl
      | false => exact absurd (.inr (.inr (.inl hr))) h1
theorem putT_may {es : List Ent} {per : Int} (hm : MayT es) (h1 : 1 ≤ per) (h2 : per ≤ 64) : putTErr es per = 0 := by
  unfold putTErr
  rw [if_neg, if_neg (by have := hm.2.2; omega)]
  rintro (h | h | h | h)
  · omega
  · omega
  · rw [hm.1] at h; cases h
  · exact hm.2.1 h
theorem mayT_mk {ns : List UInt8} (sp : Nat) (h : ns ≠ []) (hl : ns.length ≤ 256) : MayT (mkB ns sp) :=
  ⟨rising_up (mkB_up ns sp) (mkB_may ns sp), mkB_ne sp h (by omega), Nat.le_trans (mkB_len ns sp) hl⟩
theorem users_few (es : List Ent) : (usersL es).length ≤ es.length := usersN_len es es.length

/-- A table's entries: none, where the bytes are no table. -/
noncomputable def entsT (b : List UInt8) : List Ent := match getT b with
  | none => []
  | some (es, _) => es
noncomputable def errT (b : List UInt8) : Int := if (getT b).isSome then 0 else 5
theorem entsT_fits (b : List UInt8) : (∀ e ∈ entsT b, e.fits) ∧ (entsT b).length ≤ 256 := by
  unfold entsT
  cases h : getT b with
  | none => exact ⟨fun e he => (by cases he), by simp⟩
  | some x =>
    obtain ⟨per, _, _, hm, _⟩ := getT_is (es := x.1) (f := x.2) h
    exact ⟨fun e he => Ent.may_fits (rising_all hm.1 e he), hm.2.2⟩

def RetAllT (w : World) (b : List UInt8) (e : Ending) (w' : World) : Prop := ∃ x, e = .returned (.tuple #[x, .int .i64 (errT b)]) ∧ OwnE w' w.heap.size x (entsT b) ∧ Below w.heap.size w w'
def PutTC : Prop := ∀ (v : Value) (es : List Ent) (per : Int) (b : Nat) (w : World) (_ : RdE w v es) (_ : SmallE es) (_ : (Lit.int .i64 per).wf = true) (_ : (Lit.float .f64 b).wf = true), Calls Try.prog 13 #[v, .int .i64 per, .float .f64 b] w (RetPutT w es per b)
def AllTC : Prop := ∀ (v : Value) (b : List UInt8) (w : World) (_ : RdB w v b) (_ : b.length ≤ 1000000), Calls Try.prog 14 #[v] w (RetAllT w b)
def FindTC : Prop := ∀ (v : Value) (b : List UInt8) (u : ByteArray) (s : Int) (w : World) (_ : RdB w v b) (_ : b.length ≤ 1000000) (_ : u.size ≤ 1000) (_ : (Lit.int .i64 s).wf = true),
    Calls Try.prog 15 #[v, .string u, .int .i64 s] w fun e w' => e = .returned (ansF (findT b u s)) ∧ Below w.heap.size w w'
def EndsTC : Prop := ∀ (v : Value) (es : List Ent) (w : World) (_ : RdE w v es) (_ : SmallE es),
    Calls Try.prog 18 #[v] w fun e w' => e = .returned (.tuple #[.string (es.getD 0 Ent.none_).u, .string (es.getD (es.length - 1) Ent.none_).u]) ∧ Below w.heap.size w w'

theorem RetParts.all {w w' : World} {b : List UInt8} {e : Ending} (h : RetParts w b e w') : ∃ x y, e = .returned (.tuple #[x, y, .int .i64 (errT b)]) ∧ OwnE w' w.heap.size x (entsT b) ∧ Below w.heap.size w w' := by
  unfold RetParts at h
  unfold errT entsT
  cases hg : getT b with
  | none =>
    rw [hg] at h
    obtain ⟨rfl, hb⟩ := h
    exact ⟨_, _, rfl, OwnE.nil _ _, hb⟩
  | some z =>
    rw [hg] at h
    obtain ⟨x, y, rfl, hx, _, hb⟩ := h
    exact ⟨x, y, rfl, hx, hb⟩
end Go.Proofs.Yteeikmpfgbfeoaa

/-
  What key.Get and the document's GetKey do, for all that they are given.
-/
namespace Go.Proofs.Yteeikmpfgbfeoaa
open Go.RowKit

/-- The key whose bytes stand at a place, and the place behind it. -/
def keyAt (l : List UInt8) (at_ : Int) : Option ((List UInt8 × Int × Int) × Nat) :=
  match textAt l at_ with
  | none => none
  | some (s, p) =>
    match getAt l p with
    | none => none
    | some (n, q) => bif mayB s ((n : Int) / 2) ((n : Int) % 2 + 1) then some ((s, (n : Int) / 2, (n : Int) % 2 + 1), q) else none

/-- What a call answers of it. -/
def ansK : Option ((List UInt8 × Int × Int) × Nat) → Value
  | none => .tuple #[.agg #[.string ⟨#[]⟩, .int .i64 0, .int .i64 0], .int .i64 0, .bool false]
  | some ((s, x, y), k) => .tuple #[.agg #[.string (strB s), .int .i64 x, .int .i64 y], .int .i64 k, .bool true]

theorem textAt_size {l : List UInt8} {at_ : Int} {s : List UInt8} {p : Nat} (h : textAt l at_ = some (s, p)) : s.length ≤ l.length := by
  unfold textAt at h
  cases hg : getAt l at_ with
  | none => rw [hg] at h; cases h
  | some x =>
    rw [hg] at h
    simp only [Option.bind_some] at h
    split at h
    · cases h; simp; omega
    · cases h

theorem keyAt_none {l : List UInt8} {at_ : Int} (h : textAt l at_ = none) : keyAt l at_ = none := by unfold keyAt; rw [h]
theorem keyAt_none2 {l : List UInt8} {at_ : Int} {s : List UInt8} {p : Nat} (h : textAt l at_ = some (s, p)) (h2 : getAt l p = none) : keyAt l at_ = none := by unfold keyAt; rw [h]; simp only; rw [h2]
theorem keyAt_no {l : List UInt8} {at_ : Int} {s : List UInt8} {p n q : Nat} (h : textAt l at_ = some (s, p)) (h2 : getAt l p = some (n, q)) (h3 : mayB s ((n : Int) / 2) ((n : Int) % 2 + 1) = false) : keyAt l at_ = none := by
  unfold keyAt; rw [h]; simp only; rw [h2]; simp only; rw [h3]; rfl
theorem keyAt_some {l : List UInt8} {at_ : Int} {s : List UInt8} {p n q : Nat} (h : textAt l at_ = some (s, p)) (h2 : getAt l p = some (n, q)) (h3 : mayB s ((n : Int) / 2) ((n : Int) % 2 + 1) = true) :
    keyAt l at_ = some ((s, (n : Int) / 2, (n : Int) % 2 + 1), q) := by
  unfold keyAt; rw [h]; simp only; rw [h2]; simp only; rw [h3]; rfl

theorem ansG_form (o : Option (Nat × Nat)) : ∃ (x y : Int) (z : Bool), ans3 o = .tuple #[.int .i64 x, .int .i64 y, .bool z] := by
  cases o with
  | none => exact ⟨0, 0, false, rfl⟩
  | some x => exact ⟨_, _, true, rfl⟩

set_option maxRecDepth 100000 in
set_option maxHeartbeats 2000000 in
theorem kget_any (v : Value) (l : List UInt8) (at_ : Int) (w : World) (hv : RdB w v l) :
    Calls Try.prog 85 #[v, .int .i64 at_] w fun e w' => e = .returned (ansK (keyAt l at_)) ∧ Below w.heap.size w w' := by
  obtain ⟨a, cap, rfl, hc1, hc2⟩ := hv.form
  unfold maxLen at hc2
  cases ht : textAt l at_ with
  | none =>
    have hgt : ∀ w1, RdB w1 (.slice a l.length cap) l → Calls Try.prog 86 #[.slice a l.length cap, .int .i64 at_] w1 (fun e w' => e = .returned (.tuple #[.string ⟨#[]⟩, .int .i64 0, .bool false]) ∧ w1 = w') := by
      intro w1 h1
      have := getText_any _ l at_ w1 h1
      rw [ht] at this
      exact this
    have HT := Lib.hid hgt
    have HR := Lib.hid (keyAt_none ht)
    clear hgt ht
    go_enter Try.func85, Try.ntmps85
    go_wp2_with (go_at_call 86; refine (HT.out _ (hv.below ((Below.refl w.heap.size w).alloc (Nat.le_refl _) _) (Nat.le_refl _))).mono ?_; rintro e w' ⟨rfl, rfl⟩)
    refine bodyPost_ret (v := .tuple #[.agg #[.string ⟨#[]⟩, .int .i64 0, .int .i64 0], .int .i64 0, .bool false]) (by simp [results, Try.results85, go_sem]) rfl ⟨by rw [HR.out]; rfl, ?_⟩
    exact (Below.refl _ _).alloc (Nat.le_refl _) _
  | some x =>
    obtain ⟨s, p⟩ := x
    have hsz := textAt_size ht
    have hgt : ∀ w1, RdB w1 (.slice a l.length cap) l → Calls Try.prog 86 #[.slice a l.length cap, .int .i64 at_] w1 (fun e w' => e = .returned (.tuple #[.string (strB s), .int .i64 p, .bool true]) ∧ w1 = w') := by
      intro w1 h1
      have := getText_any _ l at_ w1 h1
      rw [ht] at this
      exact this
    have HT := Lib.hid hgt
    clear hgt
    cases hg : getAt l p with
    | none =>
      have hgg : ∀ w1, RdB w1 (.slice a l.length cap) l → Calls Try.prog 84 #[.slice a l.length cap, .int .i64 p] w1 (fun e w' => e = .returned (.tuple #[.int .i64 0, .int .i64 0, .bool false]) ∧ w1 = w') := by
        intro w1 h1
        have := get_any _ l p w1 h1
        rw [hg] at this
        exact this
      have HG := Lib.hid hgg
      have HR := Lib.hid (keyAt_none2 ht hg)
      clear hgg ht hg
      go_enter Try.func85, Try.ntmps85
      go_wp2_with (first | (go_at_call 86; refine (HT.out _ (hv.below ((Below.refl w.heap.size w).alloc (Nat.le_refl _) _) (Nat.le_refl _))).mono ?_; rintro e w' ⟨rfl, rfl⟩) | (go_at_call 84; refine (HG.out _ (hv.below ((Below.refl w.heap.size w).alloc (Nat.le_refl _) _) (Nat.le_refl _))).mono ?_; rintro e w' ⟨rfl, rfl⟩))
      refine bodyPost_ret (v := .tuple #[.agg #[.string ⟨#[]⟩, .int .i64 0, .int .i64 0], .int .i64 0, .bool false]) (by simp [results, Try.results85, go_sem]) rfl ⟨by rw [HR.out]; rfl, ?_⟩
      exact (Below.refl _ _).alloc (Nat.le_refl _) _
    | some y =>
      obtain ⟨n, q⟩ := y
      have hn9 : (n : Int) ≤ 9223372036854775807 := (getAt_some hg).choose_spec.2.2.2.1
      have hgg : ∀ w1, RdB w1 (.slice a l.length cap) l → Calls Try.prog 84 #[.slice a l.length cap, .int .i64 p] w1 (fun e w' => e = .returned (.tuple #[.int .i64 n, .int .i64 q, .bool true]) ∧ w1 = w') := by
        intro w1 h1
        have := get_any _ l p w1 h1
        rw [hg] at this
        exact this
      have HG := Lib.hid hgg
      have hmay : ∀ w1, Calls Try.prog 57 #[.agg #[.string (strB s), .int .i64 ((n : Int) / 2), .int .i64 ((n : Int) % 2 + 1)]] w1 fun e w' => e = .returned (.bool (mayB s ((n : Int) / 2) ((n : Int) % 2 + 1))) ∧ Below w1.heap.size w1 w' :=
        may_any (strB s) _ _ (by rw [strB_size]; unfold maxLen; omega)
      clear hgg
      cases hm : mayB s ((n : Int) / 2) ((n : Int) % 2 + 1) with
      | false =>
        rw [hm] at hmay
        have HM := Lib.hid hmay
        have HR := Lib.hid (keyAt_no ht hg hm)
        clear hmay hm ht hg
        go_enter Try.func85, Try.ntmps85
        go_wp2_with (first | (go_at_call 86; refine (HT.out _ (hv.below ((Below.refl w.heap.size w).alloc (Nat.le_refl _) _) (Nat.le_refl _))).mono ?_; rintro e w' ⟨rfl, rfl⟩) | (go_at_call 84; refine (HG.out _ (hv.below ((Below.refl w.heap.size w).alloc (Nat.le_refl _) _) (Nat.le_refl _))).mono ?_; rintro e w' ⟨rfl, rfl⟩) | (go_at_call 57; refine (HM.out _).mono ?_; rintro e w1 ⟨rfl, hb⟩; obtain ⟨hc, hf⟩ := bcell hb; have hz := hb.size; simp at hz))
        refine bodyPost_ret (v := .tuple #[.agg #[.string ⟨#[]⟩, .int .i64 0, .int .i64 0], .int .i64 0, .bool false]) (by simp [results, Try.results85, go_sem, hc]) rfl ⟨by rw [HR.out]; rfl, ?_⟩
        exact (((((Below.refl w.heap.size w).alloc (Nat.le_refl _) _).trans (hb.mono (by simp))).setCell (by simp) _).setCell (by simp) _).setCell (by simp) _
      | true =>
        rw [hm] at hmay
        have HM := Lib.hid hmay
        have HR := Lib.hid (keyAt_some ht hg hm)
        clear hmay hm ht hg
        go_enter Try.func85, Try.ntmps85
        go_wp2_with (first | (go_at_call 86; refine (HT.out _ (hv.below ((Below.refl w.heap.size w).alloc (Nat.le_refl _) _) (Nat.le_refl _))).mono ?_; rintro e w' ⟨rfl, rfl⟩) | (go_at_call 84; refine (HG.out _ (hv.below ((Below.refl w.heap.size w).alloc (Nat.le_refl _) _) (Nat.le_refl _))).mono ?_; rintro e w' ⟨rfl, rfl⟩) | (go_at_call 57; refine (HM.out _).mono ?_; rintro e w1 ⟨rfl, hb⟩; obtain ⟨hc, hf⟩ := bcell hb; have hz := hb.size; simp at hz))
        refine bodyPost_ret (v := .tuple #[.agg #[.string (strB s), .int .i64 ((n : Int) / 2), .int .i64 ((n : Int) % 2 + 1)], .int .i64 q, .bool true]) (by simp [results, Try.results85, go_sem, hc]) rfl ⟨by rw [HR.out]; rfl, ?_⟩
        exact (((((Below.refl w.heap.size w).alloc (Nat.le_refl _) _).trans (hb.mono (by simp))).setCell (by simp) _).setCell (by simp) _).setCell (by simp) _

end Go.Proofs.Yteeikmpfgbfeoaa

/-
  Blocks: one entry of a block's bytes, as the program reads it.
-/
namespace Go.Proofs.Yteeikmpfgbfeoaa
open Go.RowKit

/-- What the bytes from a place on tell of the next entry: of which the rest is a key that may be. -/
def readP (c last : List UInt8) (p : Nat) : Option (Ent × Nat) :=
  match getAt c (p : Int) with
  | none => none
  | some (s, a) => if last.length < s then none else match keyAt c (a : Int) with
    | none => none
    | some ((u, q, k), d) => match textAt c (d : Int) with
      | none => none
      | some (v, g) => some (⟨strB (last.take s ++ u), q, k, strB v⟩, g)

theorem step_read {c last : List UInt8} {p g : Nat} {e : Ent} (h : stepP c last p = some (e, g)) (hm : e.may = true) : readP c last p = some (e, g) := by
  unfold stepP at h
  cases h1 : getAt c (p : Int) with
  | none => rw [h1] at h; cases h
  | some x =>
    obtain ⟨s, a⟩ := x
    rw [h1] at h; simp only at h
    cases h2 : textAt c (a : Int) with
    | none => rw [h2] at h; cases h
    | some x =>
      obtain ⟨u, d⟩ := x
      rw [h2] at h; simp only at h
      cases h3 : getAt c (d : Int) with
      | none => rw [h3] at h; cases h
      | some x =>
        obtain ⟨n, f⟩ := x
        rw [h3] at h; simp only at h
        cases h4 : textAt c (f : Int) with
        | none => rw [h4] at h; cases h
        | some x =>
          obtain ⟨v, g'⟩ := x
          rw [h4] at h; simp only at h
          split at h
          · cases h
          · rename_i hs
            simp only [Option.some.injEq, Prod.mk.injEq] at h
            obtain ⟨rfl, rfl⟩ := h
            obtain ⟨m1, m2, m3, m4, _⟩ := may_facts hm
            simp only at m1 m2 m3 m4
            have hul : u.length ≤ 64 := by
              have hh : (last.take s ++ u).length ≤ 64 := m1
              rw [List.length_append] at hh
              omega
            have hk := keyAt_some h2 h3 (mayB_mk hul (by omega) (by omega) (by omega))
            unfold readP
            rw [h1]; simp only
            rw [if_neg hs, hk]; simp only
            rw [h4]; simp only
            have e1 : (n : Int) / 2 = ((n / 2 : Nat) : Int) := by omega
            have e2 : (n : Int) % 2 + 1 = ((1 + n % 2 : Nat) : Int) := by omega
            rw [e1, e2]

theorem read_step {c last : List UInt8} {p g : Nat} {e : Ent} (h : readP c last p = some (e, g)) : stepP c last p = some (e, g) := by
  unfold readP at h
  cases h1 : getAt c (p : Int) with
  | none => rw [h1] at h; cases h
  | some x =>
    obtain ⟨s, a⟩ := x
    rw [h1] at h; simp only at h
    split at h
    · cases h
    · rename_i hs
      cases h2 : keyAt c (a : Int) with
      | none => rw [h2] at h; cases h
      | some x =>
        obtain ⟨⟨u, q, k⟩, d⟩ := x
        rw [h2] at h; simp only at h
        cases h4 : textAt c (d : Int) with
        | none => rw [h4] at h; cases h
        | some x =>
          obtain ⟨v, g'⟩ := x
          rw [h4] at h; simp only at h
          simp only [Option.some.injEq, Prod.mk.injEq] at h
          obtain ⟨rfl, rfl⟩ := h
          unfold keyAt at h2
          cases h5 : textAt c (a : Int) with
          | none => rw [h5] at h2; cases h2
          | some x =>
            obtain ⟨u', d'⟩ := x
            rw [h5] at h2; simp only at h2
            cases h6 : getAt c (d' : Int) with
            | none => rw [h6] at h2; cases h2
            | some x =>
              obtain ⟨n, f⟩ := x
              rw [h6] at h2; simp only at h2
              cases hm : mayB u' ((n : Int) / 2) ((n : Int) % 2 + 1) with
              | false => rw [hm] at h2; cases h2
              | true =>
                rw [hm] at h2
                simp only [cond_true, Option.some.injEq, Prod.mk.injEq] at h2
                obtain ⟨⟨rfl, rfl, rfl⟩, rfl⟩ := h2
                rw [step_by h1 h5 h6 h4, if_neg hs]
                have e1 : (n : Int) / 2 = ((n / 2 : Nat) : Int) := by omega
                have e2 : (n : Int) % 2 + 1 = ((1 + n % 2 : Nat) : Int) := by omega
                rw [e1, e2]

/-- What a key at a place is, as letters. -/
theorem ansK_form (c : List UInt8) (at_ : Int) : ∃ (u : List UInt8) (q k : Int) (d : Nat) (ok : Bool), ansK (keyAt c at_) = .tuple #[.agg #[.string (strB u), .int .i64 q, .int .i64 k], .int .i64 (d : Int), .bool ok] ∧ (ok = true → keyAt c at_ = some ((u, q, k), d) ∧ at_ < (d : Int)) ∧ (ok = false → keyAt c at_ = none) ∧ u.length ≤ 64 ∧ d ≤ c.length ∧ 0 ≤ q ∧ q ≤ 9007199254740992 ∧ 0 ≤ k ∧ k ≤ 2 := by
  cases h : keyAt c at_ with
  | none => exact ⟨[], 0, 0, 0, false, rfl, (fun e => by cases e), (fun _ => rfl), by simp, Nat.zero_le _, by omega, by omega, by omega, by omega⟩
  | some x =>
    obtain ⟨⟨u, q, k⟩, d⟩ := x
    unfold keyAt at h
    cases h5 : textAt c at_ with
    | none => rw [h5] at h; cases h
    | some x =>
      obtain ⟨u', d'⟩ := x
      rw [h5] at h; simp only at h
      cases h6 : getAt c (d' : Int) with
      | none => rw [h6] at h; cases h
      | some x =>
        obtain ⟨n, f⟩ := x
        rw [h6] at h; simp only at h
        cases hm : mayB u' ((n : Int) / 2) ((n : Int) % 2 + 1) with
        | false => rw [hm] at h; cases h
        | true =>
          rw [hm] at h
          simp only [cond_true, Option.some.injEq, Prod.mk.injEq] at h
          obtain ⟨⟨rfl, rfl, rfl⟩, rfl⟩ := h
          obtain ⟨m1, m2, m3, m4⟩ := mayB_true hm
          obtain ⟨p, hp, g1, g2, g0, _, g4⟩ := getAt_some h6
          have := (textAt_bound h5).2.2
          exact ⟨u', _, _, f, true, rfl, fun _ => ⟨rfl, by omega⟩, (fun e => by cases e), m1, by omega, m2, m3, by omega, by omega⟩

/-- What a call tells that reads an entry. -/
def ansR : Option (Ent × Nat) → Value
  | none => .tuple #[.agg #[.string ⟨#[]⟩, .int .i64 0, .int .i64 0, .string ⟨#[]⟩], .int .i64 0, .bool false]
  | some (e, g) => .tuple #[entV e, .int .i64 (g : Int), .bool true]

theorem read_yes {c last : List UInt8} {p s a d g : Nat} {u v : List UInt8} {q k : Int} (h1 : getAt c (p : Int) = some (s, a)) (hs : ¬ last.length < s) (h2 : keyAt c (a : Int) = some ((u, q, k), d)) (h3 : textAt c (d : Int) = some (v, g)) :
    readP c last p = some (⟨strB (last.take s ++ u), q, k, strB v⟩, g) := by
  unfold readP
  rw [h1]; simp only
  rw [if_neg hs, h2]; simp only
  rw [h3]
theorem read_no1 {c last : List UInt8} {p : Nat} (h1 : getAt c (p : Int) = none) : readP c last p = none := by unfold readP; rw [h1]
theorem read_no2 {c last : List UInt8} {p s a : Nat} (h1 : getAt c (p : Int) = some (s, a)) (hs : last.length < s) : readP c last p = none := by unfold readP; rw [h1]; simp only; rw [if_pos hs]
theorem read_no3 {c last : List UInt8} {p s a : Nat} (h1 : getAt c (p : Int) = some (s, a)) (hs : ¬ last.length < s) (h2 : keyAt c (a : Int) = none) : readP c last p = none := by unfold readP; rw [h1]; simp only; rw [if_neg hs, h2]
theorem read_no4 {c last : List UInt8} {p s a d : Nat} {x : List UInt8 × Int × Int} (h1 : getAt c (p : Int) = some (s, a)) (hs : ¬ last.length < s) (h2 : keyAt c (a : Int) = some (x, d)) (h3 : textAt c (d : Int) = none) : readP c last p = none := by
  obtain ⟨u, q, k⟩ := x
  unfold readP; rw [h1]; simp only; rw [if_neg hs, h2]; simp only; rw [h3]
theorem cut_take (L : ByteArray) (s : Nat) (u : List UInt8) : L.extract 0 s ++ strB u = strB (L.data.toList.take s ++ u) := by
  apply ByteArray.ext
  apply Array.ext'
  simp [ByteArray.data_extract, List.extract_eq_take_drop]

set_option maxRecDepth 100000 in
set_option maxHeartbeats 400000 in
theorem read_any (v : Value) (c : List UInt8) (L : ByteArray) (p : Nat) (w : World) (hv : RdB w v c) (hL : L.size ≤ 100000000) :
    Calls Try.prog 73 #[v, .int .i64 (p : Int), .string L] w fun e w' => e = .returned (ansR (readP c L.data.toList p)) ∧ Below w.heap.size w w' := by
  have HV := Lib.hid hv
  clear hv
  obtain ⟨s, a, p1, e1, t1, n1, bs, ba⟩ := ans3_form c (p : Int)
  obtain ⟨u, q, k, d, p2, e2, t2, n2, bu, bd, bq1, bq2, bk1, bk2⟩ := ansK_form c (a : Int)
  obtain ⟨vs, g, p3, e3, t3, n3, bvs, bg⟩ := ansT_form c (d : Int)
  have HG1 : Hid (∀ wz, RdB wz v c → Calls Try.prog 84 #[v, .int .i64 (p : Int)] wz fun e w' => e = .returned (.tuple #[.int .i64 (s : Int), .int .i64 (a : Int), .bool p1]) ∧ wz = w') := Lib.hid fun wz h => by rw [← e1]; exact get_any _ c p wz h
  have HG2 : Hid (∀ wz, RdB wz v c → Calls Try.prog 85 #[v, .int .i64 (a : Int)] wz fun e w' => e = .returned (.tuple #[.agg #[.string (strB u), .int .i64 q, .int .i64 k], .int .i64 (d : Int), .bool p2]) ∧ Below wz.heap.size wz w') := Lib.hid fun wz h => by rw [← e2]; exact kget_any _ c a wz h
  have HG3 : Hid (∀ wz, RdB wz v c → Calls Try.prog 86 #[v, .int .i64 (d : Int)] wz fun e w' => e = .returned (.tuple #[.string (strB vs), .int .i64 (g : Int), .bool p3]) ∧ wz = w') := Lib.hid fun wz h => by rw [← e3]; exact getText_any _ c d wz h
  have T1 := Lib.hid t1
  have T2 := Lib.hid t2
  have T3 := Lib.hid t3
  have N1 := Lib.hid n1
  have N2 := Lib.hid n2
  have N3 := Lib.hid n3
  have SL := size_list L
  clear e1 e2 e3 t1 t2 t3 n1 n2 n3
  go_enter Try.func73, Try.ntmps73
  have hq0 := heap_alloc_new w (.cells #[.string ⟨#[]⟩, .int .i64 0, .int .i64 0, .string ⟨#[]⟩] 34)
  cases p1 with
  | false =>
    have HR := Lib.hid (read_no1 (last := L.data.toList) (N1.out rfl))
    have s0 := blk_cell (i := 0) hq0; have t0 := blk_free (i := 0) hq0; have s1 := blk_cell (i := 1) hq0; have t1 := blk_free (i := 1) hq0; have s2 := blk_cell (i := 2) hq0; have t2 := blk_free (i := 2) hq0; have s3 := blk_cell (i := 3) hq0; have t3 := blk_free (i := 3) hq0; 
    clear hq0
    go_wp2_with (first | (go_at_call 84; (refine (HG1.out _ (HV.out.below ((Below.refl _ _).alloc (Nat.le_refl _) _) (Nat.le_refl _))).mono ?_); rintro e w9 ⟨rfl, rfl⟩) | (go_at_call 85; (refine (HG2.out _ (HV.out.below ((Below.refl _ _).alloc (Nat.le_refl _) _) (Nat.le_refl _))).mono ?_); rintro e u2 ⟨rfl, hb2⟩; have HB2 : Hid (Below w.heap.size w u2) := Lib.hid (((Below.refl _ _).alloc (Nat.le_refl _) _).trans (hb2.mono (by simp))); have HQ0 : Hid (u2.heap[w.heap.size]? = some (.cells #[.string ⟨#[]⟩, .int .i64 0, .int .i64 0, .string ⟨#[]⟩] 34 (0, 0))) := Lib.hid ((hb2.block _ (by simp)).trans (heap_alloc_new w _)); clear hb2) | (go_at_call 86; (refine (HG3.out _ (HV.out.below (HB2.out.alloc HB2.out.size _) (Nat.le_refl _))).mono ?_); rintro e w9 ⟨rfl, rfl⟩))
    refine bodyPost_ret (results_row_tmp2 rfl _ _ w.heap.size 34 #[.string ⟨#[]⟩, .int .i64 0, .int .i64 0, .string ⟨#[]⟩] (0, 0) _ rfl ?hgE Try.underlying34 rfl (by kernel_rfl)) rfl ?_
    case hgE => exact heap_alloc_new w _
    exact ⟨by rw [HR.out]; rfl, (Below.refl _ _).alloc (Nat.le_refl _) _⟩
  | true =>
    have M1 := Lib.hid (T1.out rfl).1
    by_cases hs : L.size < s
    · have k3 : decide ((L.size : Int) < (s : Int)) = true := by simp; omega
      have HR := Lib.hid (read_no2 (last := L.data.toList) M1.out (by omega))
      clear T1 N1
      have s0 := blk_cell (i := 0) hq0; have t0 := blk_free (i := 0) hq0; have s1 := blk_cell (i := 1) hq0; have t1 := blk_free (i := 1) hq0; have s2 := blk_cell (i := 2) hq0; have t2 := blk_free (i := 2) hq0; have s3 := blk_cell (i := 3) hq0; have t3 := blk_free (i := 3) hq0; 
      clear hq0
      go_wp2_with (first | (go_at_call 84; (refine (HG1.out _ (HV.out.below ((Below.refl _ _).alloc (Nat.le_refl _) _) (Nat.le_refl _))).mono ?_); rintro e w9 ⟨rfl, rfl⟩) | (go_at_call 85; (refine (HG2.out _ (HV.out.below ((Below.refl _ _).alloc (Nat.le_refl _) _) (Nat.le_refl _))).mono ?_); rintro e u2 ⟨rfl, hb2⟩; have HB2 : Hid (Below w.heap.size w u2) := Lib.hid (((Below.refl _ _).alloc (Nat.le_refl _) _).trans (hb2.mono (by simp))); have HQ0 : Hid (u2.heap[w.heap.size]? = some (.cells #[.string ⟨#[]⟩, .int .i64 0, .int .i64 0, .string ⟨#[]⟩] 34 (0, 0))) := Lib.hid ((hb2.block _ (by simp)).trans (heap_alloc_new w _)); clear hb2) | (go_at_call 86; (refine (HG3.out _ (HV.out.below (HB2.out.alloc HB2.out.size _) (Nat.le_refl _))).mono ?_); rintro e w9 ⟨rfl, rfl⟩))
      refine bodyPost_ret (results_row_tmp2 rfl _ _ w.heap.size 34 #[.string ⟨#[]⟩, .int .i64 0, .int .i64 0, .string ⟨#[]⟩] (0, 0) _ rfl ?hgE Try.underlying34 rfl (by kernel_rfl)) rfl ?_
      case hgE => exact heap_alloc_new w _
      exact ⟨by rw [HR.out]; rfl, (Below.refl _ _).alloc (Nat.le_refl _) _⟩
    · have k3 : decide ((L.size : Int) < (s : Int)) = false := by simp; omega
      have HNS := Lib.hid (show ¬ L.data.toList.length < s by omega)
      clear T1 N1 hq0
      cases p2 with
      | false =>
        have HR := Lib.hid (read_no3 M1.out HNS.out (N2.out rfl))
        go_wp2_with (first | (go_at_call 84; (refine (HG1.out _ (HV.out.below ((Below.refl _ _).alloc (Nat.le_refl _) _) (Nat.le_refl _))).mono ?_); rintro e w9 ⟨rfl, rfl⟩) | (go_at_call 85; (refine (HG2.out _ (HV.out.below ((Below.refl _ _).alloc (Nat.le_refl _) _) (Nat.le_refl _))).mono ?_); rintro e u2 ⟨rfl, hb2⟩; have HB2 : Hid (Below w.heap.size w u2) := Lib.hid (((Below.refl _ _).alloc (Nat.le_refl _) _).trans (hb2.mono (by simp))); have HQ0 : Hid (u2.heap[w.heap.size]? = some (.cells #[.string ⟨#[]⟩, .int .i64 0, .int .i64 0, .string ⟨#[]⟩] 34 (0, 0))) := Lib.hid ((hb2.block _ (by simp)).trans (heap_alloc_new w _)); clear hb2; have hq1 : (u2.alloc (.cells #[.string (strB u), .int .i64 q, .int .i64 k] 32)).heap[w.heap.size]? = some (.cells #[.string ⟨#[]⟩, .int .i64 0, .int .i64 0, .string ⟨#[]⟩] 34 (0, 0)) := (Below.block ((Below.refl _ _).alloc (Nat.le_refl _) _) _ (blk_lt HQ0.out)).trans HQ0.out; have HQ1 := Lib.hid hq1; have s0 := blk_cell (i := 0) hq1; have t0 := blk_free (i := 0) hq1; have s1 := blk_cell (i := 1) hq1; have t1 := blk_free (i := 1) hq1; have s2 := blk_cell (i := 2) hq1; have t2 := blk_free (i := 2) hq1; have s3 := blk_cell (i := 3) hq1; have t3 := blk_free (i := 3) hq1; clear hq1) | (go_at_call 86; (refine (HG3.out _ (HV.out.below (HB2.out.alloc HB2.out.size _) (Nat.le_refl _))).mono ?_); rintro e w9 ⟨rfl, rfl⟩))
        refine bodyPost_ret (results_row_tmp2 rfl _ _ w.heap.size 34 #[.string ⟨#[]⟩, .int .i64 0, .int .i64 0, .string ⟨#[]⟩] (0, 0) _ rfl ?hgE Try.underlying34 rfl (by kernel_rfl)) rfl ?_
        case hgE => exact (set4 HQ1.out rfl rfl rfl rfl).1
        exact ⟨by rw [HR.out]; rfl, (set4 HQ1.out rfl rfl rfl rfl).2 _ (Nat.le_refl _) _ (HB2.out.alloc HB2.out.size _)⟩
      | true =>
        have M2 := Lib.hid (T2.out rfl).1
        clear T2 N2
        cases p3 with
        | false =>
          have HR := Lib.hid (read_no4 M1.out HNS.out M2.out (N3.out rfl))
          go_wp2_with (first | (go_at_call 84; (refine (HG1.out _ (HV.out.below ((Below.refl _ _).alloc (Nat.le_refl _) _) (Nat.le_refl _))).mono ?_); rintro e w9 ⟨rfl, rfl⟩) | (go_at_call 85; (refine (HG2.out _ (HV.out.below ((Below.refl _ _).alloc (Nat.le_refl _) _) (Nat.le_refl _))).mono ?_); rintro e u2 ⟨rfl, hb2⟩; have HB2 : Hid (Below w.heap.size w u2) := Lib.hid (((Below.refl _ _).alloc (Nat.le_refl _) _).trans (hb2.mono (by simp))); have HQ0 : Hid (u2.heap[w.heap.size]? = some (.cells #[.string ⟨#[]⟩, .int .i64 0, .int .i64 0, .string ⟨#[]⟩] 34 (0, 0))) := Lib.hid ((hb2.block _ (by simp)).trans (heap_alloc_new w _)); clear hb2; have hq1 : (u2.alloc (.cells #[.string (strB u), .int .i64 q, .int .i64 k] 32)).heap[w.heap.size]? = some (.cells #[.string ⟨#[]⟩, .int .i64 0, .int .i64 0, .string ⟨#[]⟩] 34 (0, 0)) := (Below.block ((Below.refl _ _).alloc (Nat.le_refl _) _) _ (blk_lt HQ0.out)).trans HQ0.out; have HQ1 := Lib.hid hq1; have s0 := blk_cell (i := 0) hq1; have t0 := blk_free (i := 0) hq1; have s1 := blk_cell (i := 1) hq1; have t1 := blk_free (i := 1) hq1; have s2 := blk_cell (i := 2) hq1; have t2 := blk_free (i := 2) hq1; have s3 := blk_cell (i := 3) hq1; have t3 := blk_free (i := 3) hq1; clear hq1) | (go_at_call 86; (refine (HG3.out _ (HV.out.below (HB2.out.alloc HB2.out.size _) (Nat.le_refl _))).mono ?_); rintro e w9 ⟨rfl, rfl⟩))
          refine bodyPost_ret (results_row_tmp2 rfl _ _ w.heap.size 34 #[.string ⟨#[]⟩, .int .i64 0, .int .i64 0, .string ⟨#[]⟩] (0, 0) _ rfl ?hgE Try.underlying34 rfl (by kernel_rfl)) rfl ?_
          case hgE => exact (set4 HQ1.out rfl rfl rfl rfl).1
          exact ⟨by rw [HR.out]; rfl, (set4 HQ1.out rfl rfl rfl rfl).2 _ (Nat.le_refl _) _ (HB2.out.alloc HB2.out.size _)⟩
        | true =>
          have HR := Lib.hid (read_yes M1.out HNS.out M2.out (T3.out rfl).1)
          have HCT := Lib.hid (cut_take L s u)
          have HSZ : min s L.size + u.length ≤ 9223372036854775807 := by omega
          clear T3 N3 M1 M2
          go_upto_region 10 with (first | (go_at_call 84; (refine (HG1.out _ (HV.out.below ((Below.refl _ _).alloc (Nat.le_refl _) _) (Nat.le_refl _))).mono ?_); rintro e w9 ⟨rfl, rfl⟩) | (go_at_call 85; (refine (HG2.out _ (HV.out.below ((Below.refl _ _).alloc (Nat.le_refl _) _) (Nat.le_refl _))).mono ?_); rintro e u2 ⟨rfl, hb2⟩; have HB2 : Hid (Below w.heap.size w u2) := Lib.hid (((Below.refl _ _).alloc (Nat.le_refl _) _).trans (hb2.mono (by simp))); have HQ0 : Hid (u2.heap[w.heap.size]? = some (.cells #[.string ⟨#[]⟩, .int .i64 0, .int .i64 0, .string ⟨#[]⟩] 34 (0, 0))) := Lib.hid ((hb2.block _ (by simp)).trans (heap_alloc_new w _)); clear hb2; have hq1 : (u2.alloc (.cells #[.string (strB u), .int .i64 q, .int .i64 k] 32)).heap[w.heap.size]? = some (.cells #[.string ⟨#[]⟩, .int .i64 0, .int .i64 0, .string ⟨#[]⟩] 34 (0, 0)) := (Below.block ((Below.refl _ _).alloc (Nat.le_refl _) _) _ (blk_lt HQ0.out)).trans HQ0.out; have HQ1 := Lib.hid hq1; have s0 := blk_cell (i := 0) hq1; have t0 := blk_free (i := 0) hq1; have s1 := blk_cell (i := 1) hq1; have t1 := blk_free (i := 1) hq1; have s2 := blk_cell (i := 2) hq1; have t2 := blk_free (i := 2) hq1; have s3 := blk_cell (i := 3) hq1; have t3 := blk_free (i := 3) hq1; clear hq1) | (go_at_call 86; (refine (HG3.out _ (HV.out.below (HB2.out.alloc HB2.out.size _) (Nat.le_refl _))).mono ?_); rintro e w9 ⟨rfl, rfl⟩))
          obtain ⟨w4, hw4⟩ : ∃ w4, w4 = (u2.alloc (.cells #[.string (strB u), .int .i64 q, .int .i64 k] 32)).drew := ⟨_, rfl⟩
          have Hw4 := Lib.hid hw4
          have hr4 : w4.heap[u2.heap.size]? = some (.cells #[.string (strB u), .int .i64 q, .int .i64 k] 32 (0, 0)) := by rw [hw4]; exact heap_alloc_new u2 _
          have hr0 : w4.heap[w.heap.size]? = some (.cells #[.string ⟨#[]⟩, .int .i64 0, .int .i64 0, .string ⟨#[]⟩] 34 (0, 0)) := by rw [hw4]; exact HQ1.out
          have HB4 : Hid (Below w.heap.size w w4) := Lib.hid (by rw [hw4]; exact (HB2.out.alloc HB2.out.size _).drew)
          have q0 := blk_cell (i := 0) hr4
          have f0 := blk_free (i := 0) hr4
          replace q0 : w4.cell? ⟨u2.heap.size, 0, none⟩ = some (.string (strB u)) := q0
          have HLT : Hid (w.heap.size < u2.heap.size) := Lib.hid (blk_lt HQ0.out)
          have HR0 := Lib.hid hr0
          have HR4 := Lib.hid hr4
          clear hw4 hr4 hr0 s0 s1 s2 s3 t0 t1 t2 t3 HQ0 HQ1
          refine wp_region_two (fun wz => wz = w4) (fun _ => True) [(0, 0), (0, 1), (0, 2), (0, 3), (0, 4), (0, 5), (0, 6), (3, 7)] [7] (by kernel_rfl) (by kernel_rfl) (by kernel_rfl) (by kernel_rfl) (by kernel_rfl) Hw4.out.symm trivial ?_
          simp only [planT, List.drop_succ_cons, List.drop_zero]
          rw [← Hw4.out]
          refine PlanT.take0 (v := ?v0) (by kernel_rfl) ?y0 ?r0
          case y0 => (intro wz hz; subst hz; go_simp; try with_reducible rfl)
          (try simp only [Act.put, List.setIfInBounds_toArray, List.set_cons_zero, List.set_cons_succ])
          refine PlanT.take0 (v := ?v1) (by kernel_rfl) ?y1 ?r1
          case y1 => (intro wz hz; subst hz; go_simp; try with_reducible rfl)
          (try simp only [Act.put, List.setIfInBounds_toArray, List.set_cons_zero, List.set_cons_succ])
          refine PlanT.take0 (v := .string (L.extract 0 s)) (by kernel_rfl) ?y2 ?r2
          case y2 => (intro wz hz; subst hz; go_simp; try with_reducible rfl)
          (try simp only [Act.put, List.setIfInBounds_toArray, List.set_cons_zero, List.set_cons_succ])
          refine PlanT.take0 (v := ?v3) (by kernel_rfl) ?y3 ?r3
          case y3 => (intro wz hz; subst hz; go_simp; try with_reducible rfl)
          (try simp only [Act.put, List.setIfInBounds_toArray, List.set_cons_zero, List.set_cons_succ])
          refine PlanT.take0 (v := ?v4) (by kernel_rfl) ?y4 ?r4
          case y4 => (intro wz hz; subst hz; go_simp; try with_reducible rfl)
          (try simp only [Act.put, List.setIfInBounds_toArray, List.set_cons_zero, List.set_cons_succ])
          refine PlanT.take0 (v := .string (L.extract 0 s ++ strB u)) (by kernel_rfl) ?y5 ?r5
          case y5 => (intro wz hz; subst hz; go_simp; try with_reducible rfl)
          (try simp only [Act.put, List.setIfInBounds_toArray, List.set_cons_zero, List.set_cons_succ])
          refine PlanT.take0 (v := ?v6) (by kernel_rfl) ?y6 ?r6
          case y6 => (intro wz hz; subst hz; go_simp; try with_reducible rfl)
          (try simp only [Act.put, List.setIfInBounds_toArray, List.set_cons_zero, List.set_cons_succ])
          refine PlanT.exec3 (fun K hK => ⟨by kernel_rfl, ?_⟩)
          go_simp
          refine hK.out _ _ trivial ?_
          clear hK K
          (try simp only [Act.put, List.setIfInBounds_toArray, List.set_cons_zero, List.set_cons_succ])
          refine PlanT.done (NoPanic.normal ?_)
          obtain ⟨w5, hw5⟩ : ∃ w5, w5 = w4.setCell ⟨u2.heap.size, 0, none⟩ (.string (L.extract 0 s ++ strB u)) := ⟨_, rfl⟩
          rw [← hw5]
          have hr5 : w5.heap[u2.heap.size]? = some (.cells #[.string (L.extract 0 s ++ strB u), .int .i64 q, .int .i64 k] 32 (0, 0)) := by rw [hw5]; exact blk_set (i := 0) HR4.out _
          have hb5 : Below u2.heap.size w4 w5 := by rw [hw5]; exact Below.setCell (Below.refl _ _) (show u2.heap.size ≤ (⟨u2.heap.size, 0, none⟩ : Addr).block from Nat.le_refl _) _
          have hr6 := (hb5.block _ HLT.out).trans HR0.out
          have HR6 := Lib.hid hr6
          have HB5 := Lib.hid (HB4.out.trans (hb5.mono (Nat.le_of_lt HLT.out)))
          have y0 := blk_cell (i := 0) hr5
          have y1 := blk_cell (i := 1) hr5
          have y2 := blk_cell (i := 2) hr5
          replace y0 : w5.cell? ⟨u2.heap.size, 0, none⟩ = some (.string (L.extract 0 s ++ strB u)) := y0
          replace y1 : w5.cell? ⟨u2.heap.size, 1, none⟩ = some (.int .i64 q) := y1
          replace y2 : w5.cell? ⟨u2.heap.size, 2, none⟩ = some (.int .i64 k) := y2
          have s0 := blk_cell (i := 0) hr6; have t0 := blk_free (i := 0) hr6; have s1 := blk_cell (i := 1) hr6; have t1 := blk_free (i := 1) hr6; have s2 := blk_cell (i := 2) hr6; have t2 := blk_free (i := 2) hr6; have s3 := blk_cell (i := 3) hr6; have t3 := blk_free (i := 3) hr6; 
          clear hw5 hr5 hb5 hr6 q0 f0 HR4 HR0
          go_wp2
          refine bodyPost_ret (results_row_tmp2 rfl _ _ w.heap.size 34 #[.string (L.extract 0 s ++ strB u), .int .i64 q, .int .i64 k, .string (strB vs)] (0, 0) _ rfl ?hgE Try.underlying34 rfl (by kernel_rfl)) rfl ?_
          case hgE => exact (set4 HR6.out rfl rfl rfl rfl).1
          exact ⟨by rw [HR.out, ← HCT.out]; rfl, (set4 HR6.out rfl rfl rfl rfl).2 _ (Nat.le_refl _) _ HB5.out⟩
end Go.Proofs.Yteeikmpfgbfeoaa

/-
  As XTwo, but the class of worlds that holds till the last ones come up may be made smaller by a call.
-/
namespace Go.Proofs.Yteeikmpfgbfeoaa
open Go.RowKit
section
variable {P : Program} {ops : Array Oper} {Q : Exit → Act → World → Prop} {S1 S2 : World → Prop} {E : Nat → Bool}

theorem wpAny2_mono {S1' : World → Prop} (hle : ∀ z, S1' z → S1 z) : ∀ (fuel : Nat) (listed : Array Bool) (a : Act) (w : World), wpAny2 P ops Q S1' S2 E fuel listed a w → wpAny2 P ops Q S1 S2 E fuel listed a w
  | 0, _, _, _, h => h
  | fuel + 1, _, _, _, h => ⟨h.1, fun i hi => wpOp_mono (fun a' w' h' => ⟨⟨h'.1.1, fun hn => hle _ (h'.1.2 hn)⟩, wpAny2_mono hle fuel _ a' w' h'.2⟩) (h.2 i hi)⟩

def PlanV (P : Program) (ops : Array Oper) (Q : Exit → Act → World → Prop) (S2 : World → Prop) : (World → Prop) → List (Nat × Oper) → Act → World → Prop
  | _, [], a, w => Q .normal a w
  | S1, (0, o) :: r, a, w => ∃ v : Value, YieldsIf P ops S1 o v a ∧ PlanV P ops Q S2 S1 r (a.put o.dst v) w
  | S1, (1, o) :: r, a, w => ∃ v : Value, YieldsIf P ops S2 o v a ∧ PlanV P ops Q S2 S1 r (a.put o.dst v) w
  | S1, (2, o) :: r, a, w => if Region.wanted o (yielded ops a.tmps) then o.wp P a w (fun a' w' => ∃ S1' : World → Prop, (∀ z, S1' z → S1 z) ∧ (S2 w' ∧ S1' w') ∧ PlanV P ops Q S2 S1' r a' w') Q ∨ (o.asks P a w ∧ LetsOut Q) else PlanV P ops Q S2 S1 r (a.put o.dst undef) w
  | S1, (_ + 3, o) :: r, a, w => if Region.wanted o (yielded ops a.tmps) then o.wp P a w (fun a' w' => S2 w' ∧ PlanV P ops Q S2 S1 r a' w') Q ∨ (o.asks P a w ∧ LetsOut Q) else PlanV P ops Q S2 S1 r (a.put o.dst undef) w

theorem planV_sound {l : List Oper} {EL : List Nat} (hs : Region.noSelect l.toArray = true) (hQ : ∀ (c : List PanicEntry) (a a' : Act) (w : World), Q (.panic c) a' w → Q (.panic c) a w) :
    ∀ (p : List (Nat × Nat)) (S1 : World → Prop) (b : Bool) (listed : Array Bool) (a : Act) (w : World), Closed l.toArray listed → S2 w → (b = false → S1 w) → (b = true → ∃ j, EL.contains j = true ∧ listed.getD j false = true) → (p.all fun x => decide (x.2 < l.length)) = true → planTB l.toArray EL b p listed = true → (listed.size = l.length) →
      PlanV P l.toArray Q S2 S1 (planT l p) a w → wpAny2 P l.toArray Q S1 S2 (fun j => EL.contains j) p.length listed a w
  | [], _, b, listed, a, w, _, _, _, _, _, hb, _, h => by
    have hb' : Region.ready .any l.toArray listed = [] := by simpa [planTB] using hb
    exact ⟨hb', h⟩
  | (k, i) :: r, S1, b, listed, a, w, hc, hS2, hS1, hE, hi, hb, hz, h => by
    simp only [List.all_cons, Bool.and_eq_true, decide_eq_true_eq] at hi
    have hz' : (listed.setIfInBounds i true).size = l.length := by simpa using hz
    have hset : (listed.setIfInBounds i true).getD i false = true := by simp [hz, hi.1]
    have hS1' : NoE (fun j => EL.contains j) listed → S1 w := fun hn => by
      cases b with
      | false => exact hS1 rfl
      | true =>
        obtain ⟨j, h1, h2⟩ := hE rfl
        rw [hn j h1] at h2
        cases h2
    unfold planT at h
    split at h
    case h_2 hd =>
      have := congrArg List.length hd
      simp at this
      omega
    case h_1 o t hd =>
      match k, h, hb with
      | 0, h, hb =>
        simp only [planTB, Bool.and_eq_true, Bool.not_eq_true', List.all_eq_true] at hb
        obtain ⟨v, hy, h⟩ := h
        obtain ⟨⟨⟨⟨⟨hb0, hb1⟩, hb2⟩, hb3⟩, hb4⟩, hb5⟩ := hb
        subst hb0
        have hr : i ∈ Region.ready .any l.toArray listed := by simpa using hb2
        exact first1 (drop_head hd) (Region.noSelect_spec hs) (fun c a w h => hQ c _ _ w h) hb3 (fun j hj => hb4 j (by simpa using hj)) _ listed a w hc (Region.free_spec (drop_head hd) hb1) hr hy hS2 (hS1 rfl)
          (planV_sound hs hQ r S1 _ _ _ w (hc.set hr) hS2 hS1 (fun h => by cases h) hi.2 hb5 hz' h)
      | 1, h, hb =>
        simp only [planTB, Bool.and_eq_true, Bool.not_eq_true'] at hb
        obtain ⟨v, hy, h⟩ := h
        obtain ⟨⟨⟨hb1, hb2⟩, hb3⟩, hb5⟩ := hb
        have hr : i ∈ Region.ready .any l.toArray listed := by simpa using hb2
        exact first2 (drop_head hd) (Region.noSelect_spec hs) (fun c a w h => hQ c _ _ w h) hb3 _ listed a w hc (Region.free_spec (drop_head hd) hb1) hr hy hS2 hS1'
          (planV_sound hs hQ r S1 b _ _ w (hc.set hr) hS2 hS1 (fun h => by obtain ⟨j, h1, h2⟩ := hE h; exact ⟨j, h1, getD_set_true h2⟩) hi.2 hb5 hz' h)
      | 2, h, hb =>
        simp only [planTB, Bool.and_eq_true, Bool.not_eq_true', beq_iff_eq] at hb
        obtain ⟨⟨⟨hb0, hb3⟩, hb2⟩, hb5⟩ := hb
        subst hb0
        have hr : i ∈ Region.ready .any l.toArray listed := by rw [hb2]; simp
        refine ⟨fun h0 => by (rw [h0] at hr; cases hr), fun j hj => ?_⟩
        obtain rfl : j = i := by rw [hb2] at hj; simpa using hj
        unfold wpOp
        rw [drop_head hd]
        simp only
        unfold PlanV at h
        split at h
        · rename_i hw
          rw [if_pos hw]
          exact h.imp (fun h => Oper.wp_mono (fun a' w' ⟨S1', hle, ⟨h2, h1⟩, hp⟩ => ⟨⟨h2, fun _ => hle _ h1⟩, wpAny2_mono hle _ _ _ _ (planV_sound hs hQ r S1' _ _ a' w' (hc.set hr) h2 (fun _ => h1) (fun h => by cases h) hi.2 hb5 hz' hp)⟩) h) id
        · rename_i hw
          rw [if_neg hw]
          exact ⟨⟨hS2, fun _ => hS1 rfl⟩, planV_sound hs hQ r S1 _ _ _ w (hc.set hr) hS2 hS1 (fun h => by cases h) hi.2 hb5 hz' h⟩
      | k + 3, h, hb =>
        simp only [planTB, Bool.and_eq_true, beq_iff_eq] at hb
        obtain ⟨⟨hb3, hb2⟩, hb5⟩ := hb
        have hr : i ∈ Region.ready .any l.toArray listed := by rw [hb2]; simp
        have hno : ¬ NoE (fun j => EL.contains j) (listed.setIfInBounds i true) := fun hn => by
          have := hn i hb3
          rw [hset] at this
          cases this
        refine ⟨fun h0 => by (rw [h0] at hr; cases hr), fun j hj => ?_⟩
        obtain rfl : j = i := by rw [hb2] at hj; simpa using hj
        unfold wpOp
        rw [drop_head hd]
        simp only
        unfold PlanV at h
        split at h
        · rename_i hw
          rw [if_pos hw]
          exact h.imp (fun h => Oper.wp_mono (fun a' w' ⟨h2, hp⟩ => ⟨⟨h2, fun hn => absurd hn hno⟩, planV_sound hs hQ r S1 true _ a' w' (hc.set hr) h2 (fun h => by cases h) (fun _ => ⟨j, hb3, hset⟩) hi.2 hb5 hz' hp⟩) h) id
        · rename_i hw
          rw [if_neg hw]
          exact ⟨⟨hS2, fun hn => absurd hn hno⟩, planV_sound hs hQ r S1 true _ _ w (hc.set hr) hS2 (fun h => by cases h) (fun _ => ⟨j, hb3, hset⟩) hi.2 hb5 hz' h⟩

/-- **The region**, by a plan; 'EL': the last ones. (It must be shown not to panic.) -/
theorem wp_region_three {l : List Oper} {id : Nat} {a : Act} {w : World} (S1 S2 : World → Prop) (p : List (Nat × Nat)) (EL : List Nat) (hm : P.follows .mixedOrders = true) (hs : Region.noSelect l.toArray = true) (hn : (p.length == l.toArray.size) = true)
    (hi : (p.all fun x => decide (x.2 < l.length)) = true) (hb : planTB l.toArray EL false p (Array.replicate l.toArray.size false) = true) (h1 : S1 w.drew) (h2 : S2 w.drew)
    (h : PlanV P l.toArray (NoPanic Q) S2 S1 (planT l p) a w.drew) : (Code.region id l.toArray true).wp P Q a w := by
  refine wp_region_noPanic ?_
  refine wp_region_any hm ?_
  have h1 := planV_sound (S2 := S2) (EL := EL) hs (Q := NoPanic Q) (fun _ _ _ _ h => h) p S1 false _ a w.drew (Closed.start _) h2 (fun _ => h1) (fun h => by cases h) hi hb (by simp) h
  rw [beq_iff_eq.1 hn] at h1
  exact wpAny_of_two _ _ _ _ h1

theorem PlanV.take0 {o : Oper} {r : List (Nat × Oper)} {a : Act} {w : World} {v : Value} (hw : Region.wanted o (yielded ops a.tmps) = true)
    (hy : ∀ w', S1 w' → (execOp a.eval o).run P w' = .ok (.value v) w') (h : PlanV P ops Q S2 S1 r (a.put o.dst v) w) : PlanV P ops Q S2 S1 ((0, o) :: r) a w :=
  ⟨v, .inl ⟨hw, hy⟩, h⟩
theorem PlanV.take1 {o : Oper} {r : List (Nat × Oper)} {a : Act} {w : World} {v : Value} (hw : Region.wanted o (yielded ops a.tmps) = true)
    (hy : ∀ w', S2 w' → (execOp a.eval o).run P w' = .ok (.value v) w') (h : PlanV P ops Q S2 S1 r (a.put o.dst v) w) : PlanV P ops Q S2 S1 ((1, o) :: r) a w :=
  ⟨v, .inl ⟨hw, hy⟩, h⟩
/-- Carried out; from there on the class is 'T' as well. -/
theorem PlanV.exec2 {o : Oper} {r : List (Nat × Oper)} {a : Act} {w : World}
    (h : ∀ K : Act → World → Prop, Shut (∀ a w' (T : World → Prop), S1 w' → T w' → S2 w' → PlanV P ops Q S2 (fun z => S1 z ∧ T z) r a w' → K a w') → Region.wanted o (yielded ops a.tmps) = true ∧ Oper.wp P o a w K Q) : PlanV P ops Q S2 S1 ((2, o) :: r) a w := by
  have := h (fun a' w' => ∃ S1' : World → Prop, (∀ z, S1' z → S1 z) ∧ (S2 w' ∧ S1' w') ∧ PlanV P ops Q S2 S1' r a' w') (fun a w' T h1 hT h2 hP => ⟨fun z => S1 z ∧ T z, fun z h => h.1, ⟨h2, h1, hT⟩, hP⟩)
  unfold PlanV
  rw [if_pos this.1]
  exact .inl this.2
theorem PlanV.exec3 {o : Oper} {r : List (Nat × Oper)} {a : Act} {w : World}
    (h : ∀ K : Act → World → Prop, Shut (∀ a w', S2 w' → PlanV P ops Q S2 S1 r a w' → K a w') → Region.wanted o (yielded ops a.tmps) = true ∧ Oper.wp P o a w K Q) : PlanV P ops Q S2 S1 ((3, o) :: r) a w := by
  have := h (fun a' w' => S2 w' ∧ PlanV P ops Q S2 S1 r a' w') (fun a w' h2 hT => ⟨h2, hT⟩)
  unfold PlanV
  rw [if_pos this.1]
  exact .inl this.2
theorem PlanV.done {a : Act} {w : World} (h : Q .normal a w) : PlanV P ops Q S2 S1 [] a w := h
end
end Go.Proofs.Yteeikmpfgbfeoaa
