import Derived.Test.YteeikmpfgbfeoaaMg03
import Derived.Test.YteeikmpfgbfeoaaMg01
import Derived.Deep.Cut

/-
  The walk of TableEnds.
-/
namespace Go.Proofs.Yteeikmpfgbfeoaa
open Go.RowKit

set_option maxRecDepth 100000 in
set_option maxHeartbeats 1000000 in
theorem tableEnds_walkC (HP : PutTC) (HA : AllTC) (HF : FindTC) (HE : EndsTC) (v0 : Value) (ns : List UInt8) (a1 : Int) (W : World) (w0 : RdB W v0 ns) (wa1 : (Lit.int .u8 a1).wf = true) :
    Calls Try.prog 6 #[v0, .int .u8 a1] W fun r w' => r = .returned (.bool true) ∧ Below W.heap.size W w' := by
  have HAW := Lib.hid (awake13_any HP HA)
  have n1 := bounds_u8 wa1
  obtain ⟨sp, rfl⟩ : ∃ n : Nat, a1 = (n : Int) := ⟨a1.toNat, by omega⟩
  clear wa1
  obtain ⟨va, vc, rfl, hc1, hc2⟩ := w0.form
  unfold maxLen at hc2
  have HV0 := Lib.hid w0
  clear w0
  by_cases c0 : ns.length = 0
  · have d0 : ((ns.length : Int) == 0) = true := by rw [c0]; rfl
    clear c0
    go_enter Try.func6, Try.ntmps6
    go_wp2_with (go_at_call 7; (refine (HAW.out _).mono ?_); rintro e w9 ⟨rfl, hb9⟩)
    go_ret
    exact ⟨rfl, hb9⟩
  · have d0 : ((ns.length : Int) == 0) = false := by
      have : (ns.length : Int) ≠ 0 := by omega
      simpa using this
    by_cases c1 : 60 < ns.length
    · have d1 : decide ((60 : Int) < (ns.length : Int)) = true := by simp; omega
      have d1n : decide (60 < ns.length) = true := by simp; omega
      clear c0
      go_enter Try.func6, Try.ntmps6
      go_wp2_with (go_at_call 7; (refine (HAW.out _).mono ?_); rintro e w9 ⟨rfl, hb9⟩)
      go_ret
      exact ⟨rfl, hb9⟩
    · have d1 : decide ((60 : Int) < (ns.length : Int)) = false := by simp; omega
      have d1n : decide (60 < ns.length) = false := by simp; omega
      have hne : ns ≠ [] := fun h => c0 (by rw [h]; rfl)
      have HMK := Lib.hid (make12_any _ ns sp (by omega) W HV0.out (by omega))
      have hm := mayT_mk sp hne (by omega)
      have HFT := Lib.hid (mk_fits ns sp)
      have hmay := mkB_may ns sp
      have hup := mkB_up ns sp
      have hfa := fun (e : Ent) (he : e ∈ mkB ns sp) => mkB_facts he
      generalize mkB ns sp = L at *
      have hLp := List.length_pos_iff.2 hm.2.1
      have hl256 := hm.2.2
      have hin := fun k (hk : k < L.length) => (show L.getD k Ent.none_ ∈ L by simp only [List.getD, List.getElem?_eq_getElem hk, Option.getD_some]; exact List.getElem_mem hk)
      have hns : ns.length ≤ 60 := by omega
      clear c0 c1 hne
      obtain ⟨lo, hlo⟩ : ∃ lo, (L.getD 0 Ent.none_).u = lo := ⟨_, rfl⟩
      obtain ⟨hi, hhi⟩ : ∃ hi, (L.getD (L.length - 1) Ent.none_).u = hi := ⟨_, rfl⟩
      have hlo3 := (hfa _ (hin 0 hLp)).2
      have hlo64 := (may_facts (hmay _ (hin 0 hLp))).1
      have hhi64 := (may_facts (hmay _ (hin (L.length - 1) (by omega)))).1
      rw [size_list] at hlo64 hhi64
      rw [hlo] at hlo3 hlo64
      rw [hhi] at hhi64
      have HEU : Hid (∀ k, k < L.length → cmpL lo.data.toList (L.getD k Ent.none_).u.data.toList ≤ 0 ∧ cmpL (L.getD k Ent.none_).u.data.toList hi.data.toList ≤ 0) := Lib.hid fun k hk => by
        have h := ends_user hup (hin k hk)
        rw [← hlo, ← hhi]
        exact h
      -- the three Users that are sought
      obtain ⟨q, hq⟩ : ∃ q, lo.size = q + 1 := ⟨lo.size - 1, by omega⟩
      have hcut : lo.data.toList = (lo.extract 0 q).data.toList ++ [lo.data.toList.getD q 0] := by
        rw [ByteArray.data_extract, Array.toList_extract, List.extract_eq_take_drop, List.drop_zero, Nat.sub_zero]
        have h := take_snoc' lo.data.toList q (by rw [size_list]; omega)
        rw [← h, List.take_of_length_le (by rw [size_list]; omega)]
      have hn1 := fun s => below_none hup (u := lo.extract 0 q) s (x := lo.data.toList.getD q 0) (by rw [hlo]; exact hcut)
      have hn2 := fun s => above_none hup (u := hi ++ ⟨#[48]⟩) s (x := 48) (by rw [hhi]; simp)
      obtain ⟨X, hX⟩ := newest_last hm.2.1 (s := 1000) (fun e he => by have := (hfa e he).1; omega)
      rw [hhi] at hX
      obtain ⟨xu, xs, xk, xv⟩ := X
      have hq64 : (lo.extract 0 q).size ≤ 1000 := by
        have := congrArg List.length hcut
        rw [List.length_append, size_list, size_list] at this
        omega
      have h064 : (hi ++ ⟨#[48]⟩ : ByteArray).size ≤ 1000 := by
        rw [ByteArray.size_append]
        show hi.size + 1 ≤ 1000
        omega
      have HPU : Hid (∀ v w, OwnE w 0 v L → Calls Try.prog 13 #[v, .int .i64 7, .float .f64 4621256167635550208] w fun e w' => ∃ x, e = .returned (.tuple #[x, .int .i64 0]) ∧ RdB w' x (tableL L 7 (makeL (hashes (usersL L)) 4621256167635550208)) ∧ Below w.heap.size w w') := Lib.hid fun v w ho => by
        refine (put_yes (per := 7) HP (ho.read HFT.out) hm (by omega) (by omega) (by kernel_rfl)).mono ?_
        rintro e w' ⟨x, rfl, ho, h⟩
        exact ⟨x, rfl, ho.read, h⟩
      have hfi := fun (u : ByteArray) (hu : u.size ≤ 1000) v w (hv : RdB w v (tableL L 7 (makeL (hashes (usersL L)) 4621256167635550208))) => HF v _ u 1000 w hv (table_small hm (by omega) (by omega) (makeF_few L 4621256167635550208 (by omega))).2 hu (by decide)
      have HF1 : Hid (∀ v w, RdB w v (tableL L 7 (makeL (hashes (usersL L)) 4621256167635550208)) → Calls Try.prog 15 #[v, .string (lo.extract 0 q), .int .i64 1000] w fun e w' => e = .returned (.tuple #[.agg #[.string ⟨#[]⟩, .int .i64 0, .int .i64 0, .string ⟨#[]⟩], .bool false, .int .i64 0]) ∧ Below w.heap.size w w') := Lib.hid fun v w hv => by
        have h := hfi (lo.extract 0 q) hq64 v w hv
        rw [find_own hm (by omega) (by omega), hn1 1000] at h
        exact h
      have HF2 : Hid (∀ v w, RdB w v (tableL L 7 (makeL (hashes (usersL L)) 4621256167635550208)) → Calls Try.prog 15 #[v, .string (hi ++ ⟨#[48]⟩), .int .i64 1000] w fun e w' => e = .returned (.tuple #[.agg #[.string ⟨#[]⟩, .int .i64 0, .int .i64 0, .string ⟨#[]⟩], .bool false, .int .i64 0]) ∧ Below w.heap.size w w') := Lib.hid fun v w hv => by
        have h := hfi (hi ++ ⟨#[48]⟩) h064 v w hv
        rw [find_own hm (by omega) (by omega), hn2 1000] at h
        exact h
      have HF3 : Hid (∀ v w, RdB w v (tableL L 7 (makeL (hashes (usersL L)) 4621256167635550208)) → Calls Try.prog 15 #[v, .string hi, .int .i64 1000] w fun e w' => e = .returned (.tuple #[.agg #[.string xu, .int .i64 xs, .int .i64 xk, .string xv], .bool true, .int .i64 0]) ∧ Below w.heap.size w w') := Lib.hid fun v w hv => by
        have h := hfi hi (by omega) v w hv
        rw [find_own hm (by omega) (by omega), hX] at h
        exact h
      have HNW : Hid (∀ v w, OwnE w 0 v L → Calls Try.prog 12 #[v, .string hi, .int .i64 1000] w fun e w' => e = .returned (.tuple #[.agg #[.string xu, .int .i64 xs, .int .i64 xk, .string xv], .bool true]) ∧ Below w.heap.size w w') := Lib.hid fun v w ho => by
        have h := rnewest_any ho hi 1000
        rw [hX] at h
        exact h
      have HEN : Hid (∀ v w, OwnE w 0 v L → Calls Try.prog 18 #[v] w fun e w' => e = .returned (.tuple #[.string lo, .string hi]) ∧ Below w.heap.size w w') := Lib.hid fun v w ho => by
        have h := HE v L w (ho.read HFT.out) (may_small hmay (by omega))
        rw [hlo, hhi] at h
        exact h
      generalize tableL L 7 (makeL (hashes (usersL L)) 4621256167635550208) = T at *
      have hq1 : IntKind.i64.wrap ((lo.size : Int) - 1) = (q : Int) := by rw [IntWalk.i64_in _ (by omega)]; omega
      have hmn : (if lo.size < 1 then (lo.size : Int) else 1) = 1 := by rw [if_neg (by omega)]
      have hqs : (q : Int) ≤ (lo.size : Int) := by omega
      have hqn : q ≤ lo.size := by omega
      have hlim : ¬ 9223372036854775807 < hi.size + 1 := by omega
      clear hfi hn1 hn2 hX hcut hm hmay hup hfa hin hlo hhi hlo3 hq64 h064
      have HQ := Lib.hid hq
      clear hq
      go_enter Try.func6, Try.ntmps6
      go_wp2_with (first | (go_at_call 7; (refine (HAW.out _).mono ?_); rintro e w9 ⟨rfl, hb9⟩) | (go_at_call 16; (refine (num12_any _ _).mono ?_); rintro e w10 ⟨rfl, rfl⟩) | (go_at_call 8; (refine HMK.out.mono ?_); rintro e w1 ⟨x1, rfl, ho1, hb1⟩; obtain ⟨l1, c1, rfl, _, _⟩ := ho1.form; have HO1 := Lib.hid (show OwnE w1 0 (.slice l1 L.length c1) L from own_base ho1 fun _ _ => Nat.zero_le _); have HB1 : Hid (Below W.heap.size W w1) := Lib.hid hb1; clear ho1 hb1) | (go_at_call 18; (refine (HEN.out _ _ HO1.out).mono ?_); rintro e w2 ⟨rfl, hb2⟩; have HO2 := Lib.hid (HO1.out.below hb2); have HB2 := Lib.hid (belowT HB1.out hb2); clear hb2) | (go_at_call 13; (refine (HPU.out _ _ HO2.out).mono ?_); rintro e w3 ⟨x3, rfl, hr3, hb3⟩; have HR3 := Lib.hid hr3; have HO3 := Lib.hid (HO2.out.below hb3); have HB3 := Lib.hid (belowT HB2.out hb3); clear hr3 hb3) | (go_at_call 15; (with_reducible refine (HF1.out _ _ HR3.out).mono ?_); rintro e u1 ⟨rfl, hb⟩; have E1 := Lib.hid (belowT hb ((Below.refl _ u1).alloc (Nat.le_refl _) (.cells #[.string ⟨#[]⟩, .int .i64 0, .int .i64 0, .string ⟨#[]⟩] 34))); have HR4 := Lib.hid (HR3.out.below E1.out (Nat.le_refl _)); clear hb) | (go_at_call 15; (with_reducible refine (HF2.out _ _ HR4.out).mono ?_); rintro e u2 ⟨rfl, hb⟩; have E2 := Lib.hid (belowT hb ((Below.refl _ u2).alloc (Nat.le_refl _) (.cells #[.string ⟨#[]⟩, .int .i64 0, .int .i64 0, .string ⟨#[]⟩] 34))); have HR5 := Lib.hid (HR4.out.below E2.out (Nat.le_refl _)); clear hb) | (go_at_call 15; (with_reducible refine (HF3.out _ _ HR5.out).mono ?_); rintro e u3 ⟨rfl, hb⟩; have E3 := Lib.hid (belowT hb ((Below.refl _ u3).alloc (Nat.le_refl _) (.cells #[.string xu, .int .i64 xs, .int .i64 xk, .string xv] 34))); have HX3 := Lib.hid (heap_alloc_new u3 (.cells #[.string xu, .int .i64 xs, .int .i64 xk, .string xv] 34)); have HO6 := Lib.hid (HO3.out.below (belowT (belowT E1.out E2.out) E3.out)); clear hb) | (go_at_call 12; (refine (HNW.out _ _ HO6.out).mono ?_); rintro e u4 ⟨rfl, hb⟩; have E4 := Lib.hid hb; clear hb))
      obtain ⟨w7, hw7⟩ : ∃ w7, w7 = u4.alloc (.cells #[.string xu, .int .i64 xs, .int .i64 xk, .string xv] 34) := ⟨_, rfl⟩
      rw [← hw7]
      have HWN := Lib.hid (show w7.heap[u4.heap.size]? = some (.cells #[.string xu, .int .i64 xs, .int .i64 xk, .string xv] 34 (0, 0)) by rw [hw7]; exact heap_alloc_new u4 _)
      have D47 := Lib.hid (show Below u4.heap.size u4 w7 by rw [hw7]; exact (Below.refl _ _).alloc (Nat.le_refl _) _)
      have HW3 := Lib.hid (((belowT E4.out D47.out).block u3.heap.size (blk_lt HX3.out)).trans HX3.out)
      have HO7 := Lib.hid (HO6.out.below (belowT E4.out D47.out))
      have HB7 := Lib.hid (belowT HB3.out (belowT (belowT (belowT (belowT E1.out E2.out) E3.out) E4.out) D47.out))
      clear hw7 HO1 HO2 HO3 HO6 HR3 HR4 HR5 HB1 HB2 HB3 E1 E2 E3 E4 D47 HX3
      go_loopw [21] (fun i wr => ∃ j : Nat, j ≤ L.length ∧ i = .int .i64 (j : Int) ∧ Hid (Below w7.heap.size w7 wr)) (fun i _ => L.length - (intOf i).toNat)
      case atStart => exact ⟨0, Nat.zero_le _, rfl, Lib.hid (Below.refl _ _)⟩
      case round =>
        obtain ⟨j, hj, rfl, HR⟩ := hrel
        by_cases hlt : j < L.length
        · have g2 : (j : Int) < (L.length : Int) := by omega
          obtain ⟨gg, rfl, hgl, e0, _, _, _⟩ := own_ent (HO7.out.below HR.out) hlt
          obtain ⟨h1, h2⟩ := HEU.out j hlt
          have r1 := not_less h1
          have r2 := not_more h2
          generalize (L.getD j Ent.none_).u = eu at *
          have r3 : ∀ t, binOp .gtr t (.string eu) (.string hi) = pure (.bool false) := fun t => by rw [str_gtrT, r2]; rfl
          clear h1 h2 r2
          go_wp2
          exact ⟨⟨j + 1, hlt, by go_num, HR⟩, by simp [intOf]; omega⟩
        · have g2 : ¬ (j : Int) < (L.length : Int) := by omega
          have p6 := (HR.out.block _ (blk_lt HW3.out)).trans HW3.out
          have p7 := (HR.out.block _ (blk_lt HWN.out)).trans HWN.out
          have f0 := blk_cell (i := 0) p6
          have f1 := blk_cell (i := 1) p6
          have f2 := blk_cell (i := 2) p6
          have f3 := blk_cell (i := 3) p6
          have h0 := blk_cell (i := 0) p7
          have h1 := blk_cell (i := 1) p7
          have h2 := blk_cell (i := 2) p7
          have h3 := blk_cell (i := 3) p7
          clear p6 p7
          go_wp2_with (first | (go_at_call 7; (refine (HAW.out _).mono ?_); rintro e w9 ⟨rfl, hb9⟩) | (go_at_call 16; (refine (num12_any _ _).mono ?_); rintro e w10 ⟨rfl, rfl⟩))
          go_ret
          exact ⟨rfl, belowT (belowT HB7.out HR.out) hb9⟩
end Go.Proofs.Yteeikmpfgbfeoaa
