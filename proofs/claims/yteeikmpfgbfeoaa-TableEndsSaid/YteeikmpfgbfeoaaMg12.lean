import Derived.Test.YteeikmpfgbfeoaaMg11
import Derived.Test.YteeikmpfgbfeoaaKeyRefCmp
import Derived.Test.YteeikmpfgbfeoaaOwnEnt
import Derived.Deep.QuietTactic
import Derived.BigQuiet
import Derived.Test.YteeikmpfgbfeoaaMg03
import Derived.Deep.Cut
import Derived.Test.YteeikmpfgbfeoaaBase
import Derived.Test.YteeikmpfgbfeoaaRows
import Derived.ProofKit
import Derived.OpenShut
import Derived.ShutString
import Derived.ChangeOld

/-
  Tables: plain facts: the ends of entries in order; Users beyond them.
-/
namespace Go.Proofs.Yteeikmpfgbfeoaa
open Go.RowKit

theorem build_sub (xs : List Ent) : ∀ acc x, x ∈ xs.foldl (fun a e => addL e a) acc → x ∈ xs ∨ x ∈ acc := by
  induction xs with
  | nil => intro acc x h; exact .inr h
  | cons e r ih =>
    intro acc x h
    rcases ih _ x h with h | h
    · exact .inl (List.mem_cons_of_mem _ h)
    · rcases addL_sub x h with h | h
      · exact .inl (by rw [h]; simp)
      · exact .inr h
theorem mkB_in {ns : List UInt8} {sp : Nat} {e : Ent} (h : e ∈ mkB ns sp) : ∃ n i, i < ns.length ∧ e = entN sp n i := by
  rcases build_sub _ _ _ h with h | h
  · unfold entsN at h
    obtain ⟨i, hi, rfl⟩ := List.mem_map.1 h
    exact ⟨_, i, List.mem_range.1 hi, rfl⟩
  · cases h
theorem mkB_facts {ns : List UInt8} {sp : Nat} {e : Ent} (h : e ∈ mkB ns sp) : e.s ≤ ns.length ∧ 3 ≤ e.u.size := by
  obtain ⟨n, i, hi, rfl⟩ := mkB_in h
  have hk : 3 ≤ (keyN sp n).size := by
    unfold keyN
    rw [ByteArray.size_append]
    show 3 ≤ 3 + _
    omega
  unfold entN
  split
  · exact ⟨by simp only; omega, hk⟩
  · exact ⟨by simp only; omega, hk⟩

theorem cmpL_snoc : ∀ (a : List UInt8) (x : UInt8), cmpL (a ++ [x]) a = 1
  | [], x => by simp [cmpL]
  | c :: a, x => by
    have := cmpL_snoc a x
    simp [cmpL, this]
theorem up_user {L : List Ent} (h : Up L) {i j : Nat} (hij : i ≤ j) (hj : j < L.length) : cmpL (uL (L.getD i Ent.none_)) (uL (L.getD j Ent.none_)) ≤ 0 := by
  rcases Nat.lt_or_ge i j with h1 | h1
  · have h2 := (List.pairwise_iff_getElem.1 h) i j (by omega) hj h1
    rw [show L[i]'(by omega) = L.getD i Ent.none_ by simp [List.getD, show i < L.length by omega], show L[j] = L.getD j Ent.none_ by simp [List.getD, hj]] at h2
    have h3 : lex (cmpL (uL (L.getD i Ent.none_)) (uL (L.getD j Ent.none_))) _ < 0 := h2
    have hs := cmpL_sgn (uL (L.getD i Ent.none_)) (uL (L.getD j Ent.none_))
    unfold lex at h3
    unfold Sgn at hs
    split at h3 <;> omega
  · obtain rfl : i = j := by omega
    rw [(cmpL_zero _ _).2 rfl]
    exact Int.le_refl _
theorem ends_user {L : List Ent} (h : Up L) {e : Ent} (he : e ∈ L) : cmpL (uL (L.getD 0 Ent.none_)) (uL e) ≤ 0 ∧ cmpL (uL e) (uL (L.getD (L.length - 1) Ent.none_)) ≤ 0 := by
  obtain ⟨k, hk, rfl⟩ := List.mem_iff_getElem.1 he
  rw [show L[k] = L.getD k Ent.none_ by simp [List.getD, hk]]
  exact ⟨up_user h (Nat.zero_le _) hk, up_user h (by omega) (by omega)⟩
theorem newest_none {L : List Ent} {u : ByteArray} {s : Int} (h : ∀ e ∈ L, e.u ≠ u) : newest L u s = none := by
  unfold newest
  rw [List.find?_eq_none]
  intro e he hd
  simp only [decide_eq_true_eq] at hd
  exact h e he hd.1
/-- No User below the least one, nor above the greatest. -/
theorem below_none {L : List Ent} (h : Up L) {u : ByteArray} (s : Int) {x : UInt8} (hu : (L.getD 0 Ent.none_).u.data.toList = u.data.toList ++ [x]) : newest L u s = none :=
  newest_none fun e he hx => by
    have h1 := (ends_user h he).1
    have h2 : cmpL (u.data.toList ++ [x]) u.data.toList ≤ 0 := by
      rw [← hu]
      have : uL e = u.data.toList := by show e.u.data.toList = _; rw [hx]
      rw [← this]
      exact h1
    rw [cmpL_snoc] at h2
    omega
theorem above_none {L : List Ent} (h : Up L) {u : ByteArray} (s : Int) {x : UInt8} (hu : u.data.toList = (L.getD (L.length - 1) Ent.none_).u.data.toList ++ [x]) : newest L u s = none :=
  newest_none fun e he hx => by
    have h1 := (ends_user h he).2
    have h2 : uL e = (L.getD (L.length - 1) Ent.none_).u.data.toList ++ [x] := by show e.u.data.toList = _; rw [hx, hu]
    rw [h2, cmpL_snoc] at h1
    omega
theorem newest_last {L : List Ent} (hne : L ≠ []) {s : Int} (hs : ∀ e ∈ L, e.s ≤ s) : ∃ e, newest L (L.getD (L.length - 1) Ent.none_).u s = some e := by
  have hp := List.length_pos_iff.2 hne
  cases hn : newest L (L.getD (L.length - 1) Ent.none_).u s with
  | some e => exact ⟨e, rfl⟩
  | none =>
    unfold newest at hn
    rw [List.find?_eq_none] at hn
    have hm : L.getD (L.length - 1) Ent.none_ ∈ L := by
      rw [show L.getD (L.length - 1) Ent.none_ = L[L.length - 1]'(by omega) by simp [List.getD, show L.length - 1 < L.length by omega]]
      exact List.getElem_mem _
    have := hn _ hm
    simp only [decide_eq_true_eq] at this
    exact absurd ⟨trivial, hs _ hm⟩ this
theorem str_gtrT (t : TypeId) (a b : ByteArray) : binOp .gtr t (.string a) (.string b) = pure (.bool !(Op.bytesLess a.toList b.toList || a.toList == b.toList)) := by simp [binOp, Op.stringOp]
theorem data_toList (s : ByteArray) : s.toList = s.data.toList := toList_data s
theorem not_less {a b : ByteArray} (h : cmpL b.data.toList a.data.toList ≤ 0) : Op.bytesLess a.toList b.toList = false := by
  rw [data_toList, data_toList, less_cmp]
  have h1 := cmpL_turn b.data.toList a.data.toList
  have : cmpL a.data.toList b.data.toList ≠ -1 := by omega
  simpa using this
theorem not_more {a b : ByteArray} (h : cmpL a.data.toList b.data.toList ≤ 0) : (Op.bytesLess a.toList b.toList || a.toList == b.toList) = true := by
  rw [data_toList, data_toList, less_cmp]
  have hs := cmpL_sgn a.data.toList b.data.toList
  unfold Sgn at hs
  rcases hs with h1 | h1 | h1
  · rw [h1]; rfl
  · rw [(cmpL_zero _ _).1 h1]; simp
  · omega
end Go.Proofs.Yteeikmpfgbfeoaa

/-
  SameEntries of one list, told twice.
-/
namespace Go.Proofs.Yteeikmpfgbfeoaa
open Go.RowKit

set_option maxRecDepth 100000 in
set_option maxHeartbeats 4000000 in
/-- SameEntries of one list, told twice. -/
theorem rsame_ent (va vb : Value) (l : List Ent) (w : World) (hl : l.length < 1000000) (ha : OwnE w 0 va l) (hb : OwnE w 0 vb l) :
    Calls Try.prog 17 #[va, vb] w fun e w' => e = .returned (.bool true) ∧ Below w.heap.size w w' := by
  obtain ⟨aa, ca, rfl, _, _⟩ := ha.form
  obtain ⟨ab, cb, rfl, _, _⟩ := hb.form
  have HA := Lib.hid ha
  have HB := Lib.hid hb
  clear ha hb
  go_enter Try.func17, Try.ntmps17
  go_wp2
  go_loopw [5] (fun i wr => ∃ k : Nat, k ≤ l.length ∧ i = .int .i64 k ∧ Hid (Below w.heap.size w wr)) (fun i _ => l.length - (intOf i).toNat)
  case atStart => exact ⟨0, Nat.zero_le _, rfl, Lib.hid (Below.refl _ _)⟩
  case round =>
    obtain ⟨k, hk, rfl, HBL⟩ := hrel
    by_cases hlt : k < l.length
    · obtain ⟨ba, rfl, hba, c0, c1, c2, c3⟩ := own_ent (HA.out.below HBL.out) hlt
      obtain ⟨bb, rfl, hbb, d0, d1, d2, d3⟩ := own_ent (HB.out.below HBL.out) hlt
      generalize l.getD k Ent.none_ = o at *
      go_wp2
      go_quiet (fail)
      go_wp2
      refine ⟨⟨k + 1, by omega, by go_num, Lib.hid (below_drewN HBL.out _)⟩, ?_⟩
      simp [intOf]; omega
    · go_wp2
      go_ret
      exact ⟨rfl, HBL.out⟩
end Go.Proofs.Yteeikmpfgbfeoaa

/-
  The walk of TableEnds.
-/
namespace Go.Proofs.Yteeikmpfgbfeoaa
open Go.RowKit

set_option maxRecDepth 100000 in
set_option maxHeartbeats 1000000 in
theorem tableEnds_walkC (HP : PutTC) (HA : AllTC) (HF : FindTC) (HE : EndsTC) (v0 : Value) (ns : List UInt8) (a1 : Int) (W : World) (w0 : RdB W v0 ns) (wa1 : (Lit.int .u8 a1).wf = true) :
    Calls Try.prog 6 #[v0, .int .u8 a1] W fun r w' => r = .returned (.bool true) ∧ Below W.heap.size W w' := by
  have HAW := Lib.hid (awake13_any HP HA)
  have n1 := bounds_u8 wa1
  obtain ⟨sp, rfl⟩ : ∃ n : Nat, a1 = (n : Int) := ⟨a1.toNat, by omega⟩
  clear wa1
  obtain ⟨va, vc, rfl, hc1, hc2⟩ := w0.form
  unfold maxLen at hc2
  have HV0 := Lib.hid w0
  clear w0
  by_cases c0 : ns.length = 0
  · have d0 : ((ns.length : Int) == 0) = true := by rw [c0]; rfl
    clear c0
    go_enter Try.func6, Try.ntmps6
    go_wp2_with (go_at_call 7; (refine (HAW.out _).mono ?_); rintro e w9 ⟨rfl, hb9⟩)
    go_ret
    exact ⟨rfl, hb9⟩
  · have d0 : ((ns.length : Int) == 0) = false := by
      have : (ns.length : Int) ≠ 0 := by omega
      simpa using this
    by_cases c1 : 60 < ns.length
    · have d1 : decide ((60 : Int) < (ns.length : Int)) = true := by simp; omega
      have d1n : decide (60 < ns.length) = true := by simp; omega
      clear c0
      go_enter Try.func6, Try.ntmps6
      go_wp2_with (go_at_call 7; (refine (HAW.out _).mono ?_); rintro e w9 ⟨rfl, hb9⟩)
      go_ret
      exact ⟨rfl, hb9⟩
    · have d1 : decide ((60 : Int) < (ns.length : Int)) = false := by simp; omega
      have d1n : decide (60 < ns.length) = false := by simp; omega
      have hne : ns ≠ [] := fun h => c0 (by rw [h]; rfl)
      have HMK := Lib.hid (make12_any _ ns sp (by omega) W HV0.out (by omega))
      have hm := mayT_mk sp hne (by omega)
      have HFT := Lib.hid (mk_fits ns sp)
      have hmay := mkB_may ns sp
      have hup := mkB_up ns sp
      have hfa := fun (e : Ent) (he : e ∈ mkB ns sp) => mkB_facts he
      generalize mkB ns sp = L at *
      have hLp := List.length_pos_iff.2 hm.2.1
      have hl256 := hm.2.2
      have hin := fun k (hk : k < L.length) => (show L.getD k Ent.none_ ∈ L by simp only [List.getD, List.getElem?_eq_getElem hk, Option.getD_some]; exact List.getElem_mem hk)
      have hns : ns.length ≤ 60 := by omega
      clear c0 c1 hne
      obtain ⟨lo, hlo⟩ : ∃ lo, (L.getD 0 Ent.none_).u = lo := ⟨_, rfl⟩
      obtain ⟨hi, hhi⟩ : ∃ hi, (L.getD (L.length - 1) Ent.none_).u = hi := ⟨_, rfl⟩
      have hlo3 := (hfa _ (hin 0 hLp)).2
      have hlo64 := (may_facts (hmay _ (hin 0 hLp))).1
      have hhi64 := (may_facts (hmay _ (hin (L.length - 1) (by omega)))).1
      rw [size_list] at hlo64 hhi64
      rw [hlo] at hlo3 hlo64
      rw [hhi] at hhi64
      have HEU : Hid (∀ k, k < L.length → cmpL lo.data.toList (L.getD k Ent.none_).u.data.toList ≤ 0 ∧ cmpL (L.getD k Ent.none_).u.data.toList hi.data.toList ≤ 0) := Lib.hid fun k hk => by
        have h := ends_user hup (hin k hk)
        rw [← hlo, ← hhi]
        exact h
      -- the three Users that are sought
      obtain ⟨q, hq⟩ : ∃ q, lo.size = q + 1 := ⟨lo.size - 1, by omega⟩
      have hcut : lo.data.toList = (lo.extract 0 q).data.toList ++ [lo.data.toList.getD q 0] := by
        rw [ByteArray.data_extract, Array.toList_extract, List.extract_eq_take_drop, List.drop_zero, Nat.sub_zero]
        have h := take_snoc' lo.data.toList q (by rw [size_list]; omega)
        rw [← h, List.take_of_length_le (by rw [size_list]; omega)]
      have hn1 := fun s => below_none hup (u := lo.extract 0 q) s (x := lo.data.toList.getD q 0) (by rw [hlo]; exact hcut)
      have hn2 := fun s => above_none hup (u := hi ++ ⟨#[48]⟩) s (x := 48) (by rw [hhi]; simp)
      obtain ⟨X, hX⟩ := newest_last hm.2.1 (s := 1000) (fun e he => by have := (hfa e he).1; omega)
      rw [hhi] at hX
      obtain ⟨xu, xs, xk, xv⟩ := X
      have hq64 : (lo.extract 0 q).size ≤ 1000 := by
        have := congrArg List.length hcut
        rw [List.length_append, size_list, size_list] at this
        omega
      have h064 : (hi ++ ⟨#[48]⟩ : ByteArray).size ≤ 1000 := by
        rw [ByteArray.size_append]
        show hi.size + 1 ≤ 1000
        omega
      have HPU : Hid (∀ v w, OwnE w 0 v L → Calls Try.prog 13 #[v, .int .i64 7, .float .f64 4621256167635550208] w fun e w' => ∃ x, e = .returned (.tuple #[x, .int .i64 0]) ∧ RdB w' x (tableL L 7 (makeL (hashes (usersL L)) 4621256167635550208)) ∧ Below w.heap.size w w') := Lib.hid fun v w ho => by
        refine (put_yes (per := 7) HP (ho.read HFT.out) hm (by omega) (by omega) (by kernel_rfl)).mono ?_
        rintro e w' ⟨x, rfl, ho, h⟩
        exact ⟨x, rfl, ho.read, h⟩
      have hfi := fun (u : ByteArray) (hu : u.size ≤ 1000) v w (hv : RdB w v (tableL L 7 (makeL (hashes (usersL L)) 4621256167635550208))) => HF v _ u 1000 w hv (table_small hm (by omega) (by omega) (makeF_few L 4621256167635550208 (by omega))).2 hu (by decide)
      have HF1 : Hid (∀ v w, RdB w v (tableL L 7 (makeL (hashes (usersL L)) 4621256167635550208)) → Calls Try.prog 15 #[v, .string (lo.extract 0 q), .int .i64 1000] w fun e w' => e = .returned (.tuple #[.agg #[.string ⟨#[]⟩, .int .i64 0, .int .i64 0, .string ⟨#[]⟩], .bool false, .int .i64 0]) ∧ Below w.heap.size w w') := Lib.hid fun v w hv => by
        have h := hfi (lo.extract 0 q) hq64 v w hv
        rw [find_own hm (by omega) (by omega), hn1 1000] at h
        exact h
      have HF2 : Hid (∀ v w, RdB w v (tableL L 7 (makeL (hashes (usersL L)) 4621256167635550208)) → Calls Try.prog 15 #[v, .string (hi ++ ⟨#[48]⟩), .int .i64 1000] w fun e w' => e = .returned (.tuple #[.agg #[.string ⟨#[]⟩, .int .i64 0, .int .i64 0, .string ⟨#[]⟩], .bool false, .int .i64 0]) ∧ Below w.heap.size w w') := Lib.hid fun v w hv => by
        have h := hfi (hi ++ ⟨#[48]⟩) h064 v w hv
        rw [find_own hm (by omega) (by omega), hn2 1000] at h
        exact h
      have HF3 : Hid (∀ v w, RdB w v (tableL L 7 (makeL (hashes (usersL L)) 4621256167635550208)) → Calls Try.prog 15 #[v, .string hi, .int .i64 1000] w fun e w' => e = .returned (.tuple #[.agg #[.string xu, .int .i64 xs, .int .i64 xk, .string xv], .bool true, .int .i64 0]) ∧ Below w.heap.size w w') := Lib.hid fun v w hv => by
        have h := hfi hi (by omega) v w hv
        rw [find_own hm (by omega) (by omega), hX] at h
        exact h
      have HNW : Hid (∀ v w, OwnE w 0 v L → Calls Try.prog 12 #[v, .string hi, .int .i64 1000] w fun e w' => e = .returned (.tuple #[.agg #[.string xu, .int .i64 xs, .int .i64 xk, .string xv], .bool true]) ∧ Below w.heap.size w w') := Lib.hid fun v w ho => by
        have h := rnewest_any ho hi 1000
        rw [hX] at h
        exact h
      have HEN : Hid (∀ v w, OwnE w 0 v L → Calls Try.prog 18 #[v] w fun e w' => e = .returned (.tuple #[.string lo, .string hi]) ∧ Below w.heap.size w w') := Lib.hid fun v w ho => by
        have h := HE v L w (ho.read HFT.out) (may_small hmay (by omega))
        rw [hlo, hhi] at h
        exact h
      generalize tableL L 7 (makeL (hashes (usersL L)) 4621256167635550208) = T at *
      have hq1 : IntKind.i64.wrap ((lo.size : Int) - 1) = (q : Int) := by rw [IntWalk.i64_in _ (by omega)]; omega
      have hmn : (if lo.size < 1 then (lo.size : Int) else 1) = 1 := by rw [if_neg (by omega)]
      have hqs : (q : Int) ≤ (lo.size : Int) := by omega
      have hqn : q ≤ lo.size := by omega
      have hlim : ¬ 9223372036854775807 < hi.size + 1 := by omega
      clear hfi hn1 hn2 hX hcut hm hmay hup hfa hin hlo hhi hlo3 hq64 h064
      have HQ := Lib.hid hq
      clear hq
      go_enter Try.func6, Try.ntmps6
      go_wp2_with (first | (go_at_call 7; (refine (HAW.out _).mono ?_); rintro e w9 ⟨rfl, hb9⟩) | (go_at_call 16; (refine (num12_any _ _).mono ?_); rintro e w10 ⟨rfl, rfl⟩) | (go_at_call 8; (refine HMK.out.mono ?_); rintro e w1 ⟨x1, rfl, ho1, hb1⟩; obtain ⟨l1, c1, rfl, _, _⟩ := ho1.form; have HO1 := Lib.hid (show OwnE w1 0 (.slice l1 L.length c1) L from own_base ho1 fun _ _ => Nat.zero_le _); have HB1 : Hid (Below W.heap.size W w1) := Lib.hid hb1; clear ho1 hb1) | (go_at_call 18; (refine (HEN.out _ _ HO1.out).mono ?_); rintro e w2 ⟨rfl, hb2⟩; have HO2 := Lib.hid (HO1.out.below hb2); have HB2 := Lib.hid (belowT HB1.out hb2); clear hb2) | (go_at_call 13; (refine (HPU.out _ _ HO2.out).mono ?_); rintro e w3 ⟨x3, rfl, hr3, hb3⟩; have HR3 := Lib.hid hr3; have HO3 := Lib.hid (HO2.out.below hb3); have HB3 := Lib.hid (belowT HB2.out hb3); clear hr3 hb3) | (go_at_call 15; (with_reducible refine (HF1.out _ _ HR3.out).mono ?_); rintro e u1 ⟨rfl, hb⟩; have E1 := Lib.hid (belowT hb ((Below.refl _ u1).alloc (Nat.le_refl _) (.cells #[.string ⟨#[]⟩, .int .i64 0, .int .i64 0, .string ⟨#[]⟩] 34))); have HR4 := Lib.hid (HR3.out.below E1.out (Nat.le_refl _)); clear hb) | (go_at_call 15; (with_reducible refine (HF2.out _ _ HR4.out).mono ?_); rintro e u2 ⟨rfl, hb⟩; have E2 := Lib.hid (belowT hb ((Below.refl _ u2).alloc (Nat.le_refl _) (.cells #[.string ⟨#[]⟩, .int .i64 0, .int .i64 0, .string ⟨#[]⟩] 34))); have HR5 := Lib.hid (HR4.out.below E2.out (Nat.le_refl _)); clear hb) | (go_at_call 15; (with_reducible refine (HF3.out _ _ HR5.out).mono ?_); rintro e u3 ⟨rfl, hb⟩; have E3 := Lib.hid (belowT hb ((Below.refl _ u3).alloc (Nat.le_refl _) (.cells #[.string xu, .int .i64 xs, .int .i64 xk, .string xv] 34))); have HX3 := Lib.hid (heap_alloc_new u3 (.cells #[.string xu, .int .i64 xs, .int .i64 xk, .string xv] 34)); have HO6 := Lib.hid (HO3.out.below (belowT (belowT E1.out E2.out) E3.out)); clear hb) | (go_at_call 12; (refine (HNW.out _ _ HO6.out).mono ?_); rintro e u4 ⟨rfl, hb⟩; have E4 := Lib.hid hb; clear hb))
      obtain ⟨w7, hw7⟩ : ∃ w7, w7 = u4.alloc (.cells #[.string xu, .int .i64 xs, .int .i64 xk, .string xv] 34) := ⟨_, rfl⟩
      rw [← hw7]
      have HWN := Lib.hid (show w7.heap[u4.heap.size]? = some (.cells #[.string xu, .int .i64 xs, .int .i64 xk, .string xv] 34 (0, 0)) by rw [hw7]; exact heap_alloc_new u4 _)
      have D47 := Lib.hid (show Below u4.heap.size u4 w7 by rw [hw7]; exact (Below.refl _ _).alloc (Nat.le_refl _) _)
      have HW3 := Lib.hid (((belowT E4.out D47.out).block u3.heap.size (blk_lt HX3.out)).trans HX3.out)
      have HO7 := Lib.hid (HO6.out.below (belowT E4.out D47.out))
      have HB7 := Lib.hid (belowT HB3.out (belowT (belowT (belowT (belowT E1.out E2.out) E3.out) E4.out) D47.out))
      clear hw7 HO1 HO2 HO3 HO6 HR3 HR4 HR5 HB1 HB2 HB3 E1 E2 E3 E4 D47 HX3
      go_loopw [21] (fun i wr => ∃ j : Nat, j ≤ L.length ∧ i = .int .i64 (j : Int) ∧ Hid (Below w7.heap.size w7 wr)) (fun i _ => L.length - (intOf i).toNat)
      case atStart => exact ⟨0, Nat.zero_le _, rfl, Lib.hid (Below.refl _ _)⟩
      case round =>
        obtain ⟨j, hj, rfl, HR⟩ := hrel
        by_cases hlt : j < L.length
        · have g2 : (j : Int) < (L.length : Int) := by omega
          obtain ⟨gg, rfl, hgl, e0, _, _, _⟩ := own_ent (HO7.out.below HR.out) hlt
          obtain ⟨h1, h2⟩ := HEU.out j hlt
          have r1 := not_less h1
          have r2 := not_more h2
          generalize (L.getD j Ent.none_).u = eu at *
          have r3 : ∀ t, binOp .gtr t (.string eu) (.string hi) = pure (.bool false) := fun t => by rw [str_gtrT, r2]; rfl
          clear h1 h2 r2
          go_wp2
          exact ⟨⟨j + 1, hlt, by go_num, HR⟩, by simp [intOf]; omega⟩
        · have g2 : ¬ (j : Int) < (L.length : Int) := by omega
          have p6 := (HR.out.block _ (blk_lt HW3.out)).trans HW3.out
          have p7 := (HR.out.block _ (blk_lt HWN.out)).trans HWN.out
          have f0 := blk_cell (i := 0) p6
          have f1 := blk_cell (i := 1) p6
          have f2 := blk_cell (i := 2) p6
          have f3 := blk_cell (i := 3) p6
          have h0 := blk_cell (i := 0) p7
          have h1 := blk_cell (i := 1) p7
          have h2 := blk_cell (i := 2) p7
          have h3 := blk_cell (i := 3) p7
          clear p6 p7
          go_wp2_with (first | (go_at_call 7; (refine (HAW.out _).mono ?_); rintro e w9 ⟨rfl, hb9⟩) | (go_at_call 16; (refine (num12_any _ _).mono ?_); rintro e w10 ⟨rfl, rfl⟩))
          go_ret
          exact ⟨rfl, belowT (belowT HB7.out HR.out) hb9⟩
end Go.Proofs.Yteeikmpfgbfeoaa

/-
  The walk of TableEnds, on what is landed.
-/
namespace Go.Proofs.Yteeikmpfgbfeoaa
open Go.RowKit

theorem tableEnds_walk (v0 : Value) (ns : List UInt8) (a1 : Int) (W : World) (w0 : RdB W v0 ns) (wa1 : (Lit.int .u8 a1).wf = true) :
    Calls Try.prog 6 #[v0, .int .u8 a1] W fun r w' => r = .returned (.bool true) ∧ Below W.heap.size W w' :=
  tableEnds_walkC puttab_any all_any find_any ends_any v0 ns a1 W w0 wa1
end Go.Proofs.Yteeikmpfgbfeoaa

/-
  How arguments are opened: a slice of bytes that came in reads as a list of bytes; a slice of integers as a list of integers.
-/
namespace Go.Proofs.Yteeikmpfgbfeoaa
open Go.ChangeShapes Go.WideShapes Go.ChangeAt Go.RowKit

/-- The slice 'v' reads as the integers 'zs' (each of them fits the kind 'k') in world 'w'. -/
def RdI (k : IntKind) (w : World) (v : Value) (zs : List Int) : Prop :=
  ∃ a cap, v = .slice a zs.length cap ∧ zs.length ≤ cap ∧ cap ≤ maxLen ∧ (∀ n ∈ zs, (Lit.int k n).wf = true) ∧
    ((zs = [] ∧ (a = none → cap = 0)) ∨ ∃ b off, a = some ⟨b, off, none⟩ ∧ b < w.heap.size ∧ ∀ i, i < zs.length → w.cell? ⟨b, off + i, none⟩ = some (.int k (zs.getD i 0)))

theorem rdI_open {H : Type} {enc : TypeId × Value → H} {P : Program} {w : World} {k : IntKind} {t e : TypeId} {base : Nat} {m : Nat} {spare : Nat → Bool} {held : Bool} {v : Value} {d : DataW H} {p : List MemPlace} (ht : P.underlying t = some (.slice e)) (he : P.underlying e = some (.int k)) (hc : P.cellsOf e = 1)
    (hok : Value.okWide P w .any base t v) (hd : DataW.Trod enc P w m spare held t v d p) : ∃ zs, RdI k w v zs := by
  obtain ⟨a, len, cap, rfl⟩ := okWide_slice ht hok
  obtain ⟨fuel, hf⟩ := hd
  rcases open_ints ht he hc hf with ⟨hcs, _⟩ | ⟨x, l, c, zs, hcs, _, hl, hm, hz, _, hcell, hwz⟩
  · simp [Value.cells] at hcs
    obtain ⟨rfl, rfl, rfl⟩ := hcs
    exact ⟨[], none, 0, rfl, Nat.le_refl _, Nat.zero_le _, by simp, .inl ⟨rfl, fun _ => rfl⟩⟩
  · simp [Value.cells] at hcs
    obtain ⟨rfl, rfl, rfl⟩ := hcs
    have hz' : len ≤ zs.length := by rw [hz]; split <;> omega
    have hlen : (zs.take len).length = len := by rw [List.length_take]; omega
    refine ⟨zs.take len, some x, cap, by rw [hlen], by rw [hlen]; exact hl, hm, fun n hn => hwz n (List.mem_of_mem_take hn), ?_⟩
    by_cases h0 : len = 0
    · left; subst h0; exact ⟨rfl, fun h => by cases h⟩
    · right
      obtain ⟨b, off, spot⟩ := x
      have hc0 := hcell 0 (by omega)
      have hspot : spot = none := by simpa [Addr.add] using World.cell?_spot hc0
      subst hspot
      refine ⟨b, off, rfl, World.block_lt_of_cell? w _ hc0, fun i hi => ?_⟩
      have hi' : i < len := by omega
      have h1 := hcell i (by omega)
      have hadd : (⟨b, off, none⟩ : Addr).add i = ⟨b, off + i, none⟩ := by unfold Addr.add; split <;> simp_all
      rw [hadd] at h1
      rw [h1]
      simp [List.getD, hi']

theorem RdI.bytes {w : World} {v : Value} {zs : List Int} (h : RdI .u8 w v zs) : ∃ l, RdB w v l := by
  obtain ⟨a, cap, rfl, h1, h2, h3, h4⟩ := h
  have key : ∀ (zs : List Int), (∀ n ∈ zs, (Lit.int .u8 n).wf = true) → ∃ l : List UInt8, l.map (fun c => (c.toNat : Int)) = zs := by
    intro zs
    induction zs with
    | nil => exact fun _ => ⟨[], rfl⟩
    | cons z zs ih =>
      intro h
      obtain ⟨l, hl⟩ := ih fun n hn => h n (List.mem_cons_of_mem _ hn)
      have hz := bounds_u8 (h z (List.mem_cons_self ..))
      refine ⟨UInt8.ofNat z.toNat :: l, ?_⟩
      rw [List.map_cons, hl, UInt8.toNat_ofNat', Nat.mod_eq_of_lt (by omega)]
      congr 1
      omega
  obtain ⟨l, rfl⟩ := key zs h3
  simp only [List.length_map] at h1 h4 ⊢
  refine ⟨l, a, cap, rfl, h1, h2, by simp, ?_⟩
  rcases h4 with ⟨h4, h5⟩ | ⟨b, off, rfl, h5, h6⟩
  · left; exact ⟨by simpa using h4, h5⟩
  · refine .inr ⟨b, off, rfl, h5, fun j u hj => ?_⟩
    have hj' : j < l.length := by
      rcases Nat.lt_or_ge j l.length with h | h
      · exact h
      · simp [List.getElem?_eq_none h] at hj
    rw [h6 j hj']
    simp [hj'] at hj
    simp [List.getD, hj', hj]

theorem rdB_open {H : Type} {enc : TypeId × Value → H} {P : Program} {w : World} {t e : TypeId} {base : Nat} {m : Nat} {spare : Nat → Bool} {held : Bool} {v : Value} {d : DataW H} {p : List MemPlace} (ht : P.underlying t = some (.slice e)) (he : P.underlying e = some (.int .u8)) (hc : P.cellsOf e = 1)
    (hok : Value.okWide P w .any base t v) (hd : DataW.Trod enc P w m spare held t v d p) : ∃ l, RdB w v l :=
  let ⟨_, h⟩ := rdI_open ht he hc hok hd
  h.bytes
end Go.Proofs.Yteeikmpfgbfeoaa
